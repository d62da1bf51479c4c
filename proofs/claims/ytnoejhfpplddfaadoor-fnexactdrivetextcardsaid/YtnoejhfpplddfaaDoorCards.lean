/-
  DERIVED. GIVEN WITH THE SEED: THE CARDS: each row of YtnoejhfpplddfaaDoorRows.lean that lists a variable, with what it lists TIED to the program's text (the seventh form; the later family's looks); each row that meets fmt, with fmt's text TOLD by the authors' own Lean function (tested against real Go, not proved from fmt's source: count such statements apart). THE CARD IS WHAT COUNTS. Prove the row's statement (the work); the ties are given (YtnoejhfpplddfaaDoorTie.lean); close each card by the builder's one call (the guide's Derived/Test/ToyasCard.lean, 'card_holds'). Laid BY PROGRAM, IN A SANDBOX (cutbox-door.mjs). By AI agents, Wed Nov 11 2026. No macro, syntax, notation, axiom, sorry.
-/
import Derived.Test.YtnoejhfpplddfaaDoorRows
import GoSem.ClaimSeven
namespace Go.Proofs.YtnoejhfpplddfaaDoor
namespace Rows

/-- THE TIED CARD OF 'laws.FnExactDriveText'. -/
def fnExactDriveTextCard : Claim7 := { stood := { row := fnExactDriveTextRow, standIns := [], harness := (true, "4930dbef0e5b55479edc1499358234c2a164d13f7d5652e3a120f6d8afbc4484"), looks := false }, kinds := [], alts := [], laidByText := true, laidKinds := [.data, .data, .data], laidTests := true, laidLooks := .later }
def FnExactDriveTextCardSaid : Prop := Claim7.holds Tryd.pinned (.plain (OpenSpec.ofChange fnExactDriveTextSpec)) fnExactDriveTextCard

/-- THE SECOND FORM's CARD OF 'laws.FnExactDriveText'. -/
def fnExactDriveTextUptoCard : Claim7 := { stood := { row := fnExactDriveTextUptoRow, standIns := [], harness := (true, "4930dbef0e5b55479edc1499358234c2a164d13f7d5652e3a120f6d8afbc4484"), looks := false }, kinds := [], alts := [], laidByText := true, laidKinds := [.data, .data, .data], laidTests := true, laidLooks := .later }
def FnExactDriveTextUptoCardSaid : Prop := Claim7.holds Tryd.pinned (.plain (OpenSpec.upto fnExactDriveTextSpec)) fnExactDriveTextUptoCard
end Rows
end Go.Proofs.YtnoejhfpplddfaaDoor
