/-
  DERIVED. GIVEN WITH THE SEED: THE CARDS: each row of YtfmkgppkgmjpfaaDoorRows.lean that lists a variable, with what it lists TIED to the program's text (the seventh form; the later family's looks); each row that meets fmt, with fmt's text TOLD by the authors' own Lean function (tested against real Go, not proved from fmt's source: count such statements apart). THE CARD IS WHAT COUNTS. Prove the row's statement (the work); the ties are given (YtfmkgppkgmjpfaaDoorTie.lean); close each card by the builder's one call (the guide's Derived/Test/ToyasCard.lean, 'card_holds'). Laid BY PROGRAM, IN A SANDBOX (cutbox-door.mjs). By AI agents, Wed Nov 11 2026. No macro, syntax, notation, axiom, sorry.
-/
import Derived.Test.YtfmkgppkgmjpfaaDoorRows
import GoSem.ClaimSeven
namespace Go.Proofs.YtfmkgppkgmjpfaaDoor
namespace Rows

/-- THE TIED CARD OF 'laws.FnExactCodeOk'. -/
def fnExactCodeOkCard : Claim7 := { stood := { row := fnExactCodeOkRow, standIns := [], harness := (true, "99f9598262e74ce4a975fa93301d6f598d34415918c47f7e692d685a2b436582"), looks := true }, kinds := [], alts := [], laidByText := true, laidKinds := [.handle], laidTests := true, laidLooks := .later }
def FnExactCodeOkCardSaid : Prop := Claim7.holds Tryd.pinned (.plain (OpenSpec.ofChange fnExactCodeOkSpec)) fnExactCodeOkCard

/-- THE TIED CARD OF 'laws.FnExactCodeDepths'. -/
def fnExactCodeDepthsCard : Claim7 := { stood := { row := fnExactCodeDepthsRow, standIns := [], harness := (true, "99f9598262e74ce4a975fa93301d6f598d34415918c47f7e692d685a2b436582"), looks := true }, kinds := [], alts := [], laidByText := true, laidKinds := [.handle], laidTests := true, laidLooks := .later }
def FnExactCodeDepthsCardSaid : Prop := Claim7.holds Tryd.pinned (.plain (OpenSpec.ofChange fnExactCodeDepthsSpec)) fnExactCodeDepthsCard

/-- THE SECOND FORM's CARD OF 'laws.FnExactCodeOk'. -/
def fnExactCodeOkUptoCard : Claim7 := { stood := { row := fnExactCodeOkUptoRow, standIns := [], harness := (true, "99f9598262e74ce4a975fa93301d6f598d34415918c47f7e692d685a2b436582"), looks := true }, kinds := [], alts := [], laidByText := true, laidKinds := [.handle], laidTests := true, laidLooks := .later }
def FnExactCodeOkUptoCardSaid : Prop := Claim7.holds Tryd.pinned (.plain (OpenSpec.upto fnExactCodeOkSpec)) fnExactCodeOkUptoCard

/-- THE SECOND FORM's CARD OF 'laws.FnExactCodeDepths'. -/
def fnExactCodeDepthsUptoCard : Claim7 := { stood := { row := fnExactCodeDepthsUptoRow, standIns := [], harness := (true, "99f9598262e74ce4a975fa93301d6f598d34415918c47f7e692d685a2b436582"), looks := true }, kinds := [], alts := [], laidByText := true, laidKinds := [.handle], laidTests := true, laidLooks := .later }
def FnExactCodeDepthsUptoCardSaid : Prop := Claim7.holds Tryd.pinned (.plain (OpenSpec.upto fnExactCodeDepthsSpec)) fnExactCodeDepthsUptoCard
end Rows
end Go.Proofs.YtfmkgppkgmjpfaaDoor
