/-
  DERIVED. GIVEN WITH THE SEED: THE CARDS: each row of YtlhdicichdihfaaGreatDoorRows.lean that lists a variable, with what it lists TIED to the program's text (the seventh form; the later family's looks); each row that meets fmt, with fmt's text TOLD by the authors' own Lean function (tested against real Go, not proved from fmt's source: count such statements apart). THE CARD IS WHAT COUNTS. Prove the row's statement (the work); the ties are given (YtlhdicichdihfaaGreatDoorTie.lean); close each card by the builder's one call (the guide's Derived/Test/ToyasCard.lean, 'card_holds'). Laid BY PROGRAM, IN A SANDBOX (cutbox-door.mjs). By AI agents, Wed Nov 11 2026. No macro, syntax, notation, axiom, sorry.
-/
import Derived.Test.YtlhdicichdihfaaGreatDoorRows
import GoSem.ClaimSeven
namespace Go.Proofs.YtlhdicichdihfaaGreatDoor
namespace Rows

/-- THE TIED CARD OF 'laws.FnExactTreePlain'. -/
def fnExactTreePlainCard : Claim7 := { stood := { row := fnExactTreePlainRow, standIns := [], harness := (true, "920b28129216a33072a0feaa18f8c1deda7a1ba96fc00d7fcfd959a98f7713e0"), looks := false }, kinds := [], alts := [], laidByText := true, laidKinds := [.data, .data, .data], laidTests := true, laidLooks := .later }
def FnExactTreePlainCardSaid : Prop := Claim7.holds Tryz.pinned (.plain (OpenSpec.ofChange fnExactTreePlainSpec)) fnExactTreePlainCard

/-- THE TIED CARD OF 'laws.FnExactTreeFree'. -/
def fnExactTreeFreeCard : Claim7 := { stood := { row := fnExactTreeFreeRow, standIns := [], harness := (true, "920b28129216a33072a0feaa18f8c1deda7a1ba96fc00d7fcfd959a98f7713e0"), looks := false }, kinds := [], alts := [], laidByText := true, laidKinds := [.data, .data, .data], laidTests := true, laidLooks := .later }
def FnExactTreeFreeCardSaid : Prop := Claim7.holds Tryz.pinned (.plain (OpenSpec.ofChange fnExactTreeFreeSpec)) fnExactTreeFreeCard

/-- THE SECOND FORM's CARD OF 'laws.FnExactTreePlain'. -/
def fnExactTreePlainUptoCard : Claim7 := { stood := { row := fnExactTreePlainUptoRow, standIns := [], harness := (true, "920b28129216a33072a0feaa18f8c1deda7a1ba96fc00d7fcfd959a98f7713e0"), looks := false }, kinds := [], alts := [], laidByText := true, laidKinds := [.data, .data, .data], laidTests := true, laidLooks := .later }
def FnExactTreePlainUptoCardSaid : Prop := Claim7.holds Tryz.pinned (.plain (OpenSpec.upto fnExactTreePlainSpec)) fnExactTreePlainUptoCard

/-- THE SECOND FORM's CARD OF 'laws.FnExactTreeFree'. -/
def fnExactTreeFreeUptoCard : Claim7 := { stood := { row := fnExactTreeFreeUptoRow, standIns := [], harness := (true, "920b28129216a33072a0feaa18f8c1deda7a1ba96fc00d7fcfd959a98f7713e0"), looks := false }, kinds := [], alts := [], laidByText := true, laidKinds := [.data, .data, .data], laidTests := true, laidLooks := .later }
def FnExactTreeFreeUptoCardSaid : Prop := Claim7.holds Tryz.pinned (.plain (OpenSpec.upto fnExactTreeFreeSpec)) fnExactTreeFreeUptoCard
end Rows
end Go.Proofs.YtlhdicichdihfaaGreatDoor
