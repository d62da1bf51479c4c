/-
  DERIVED. GIVEN WITH THE SEED: THE CARDS: each row of YtfmeldjkofoelaaGreatDoorRows.lean that lists a variable, with what it lists TIED to the program's text (the seventh form; the later family's looks); each row that meets fmt, with fmt's text TOLD by the authors' own Lean function (tested against real Go, not proved from fmt's source: count such statements apart). THE CARD IS WHAT COUNTS. Prove the row's statement (the work); the ties are given (YtfmeldjkofoelaaGreatDoorTie.lean); close each card by the builder's one call (the guide's Derived/Test/ToyasCard.lean, 'card_holds'). Laid BY PROGRAM, IN A SANDBOX (cutbox-door.mjs). By AI agents, Wed Nov 11 2026. No macro, syntax, notation, axiom, sorry.
-/
import Derived.Test.YtfmeldjkofoelaaGreatDoorRows
import GoSem.ClaimSeven
namespace Go.Proofs.YtfmeldjkofoelaaGreatDoor
namespace Rows

/-- THE TIED CARD OF 'laws.FnTreeFree'. -/
def fnTreeFreeCard : Claim7 := { stood := { row := fnTreeFreeRow, standIns := [], harness := (true, "6eaf240eb33ca3c827afb199f142005422651fa9bcec0e38758b21336caedd26"), looks := false }, kinds := [], alts := [], laidByText := true, laidKinds := [.data, .data, .data], laidTests := true, laidLooks := .later }
def FnTreeFreeCardSaid : Prop := Claim7.holds Tryz.pinned (.plain (OpenSpec.ofChange fnTreeFreeSpec)) fnTreeFreeCard

/-- THE SECOND FORM's CARD OF 'laws.FnTreeFree'. -/
def fnTreeFreeUptoCard : Claim7 := { stood := { row := fnTreeFreeUptoRow, standIns := [], harness := (true, "6eaf240eb33ca3c827afb199f142005422651fa9bcec0e38758b21336caedd26"), looks := false }, kinds := [], alts := [], laidByText := true, laidKinds := [.data, .data, .data], laidTests := true, laidLooks := .later }
def FnTreeFreeUptoCardSaid : Prop := Claim7.holds Tryz.pinned (.plain (OpenSpec.upto fnTreeFreeSpec)) fnTreeFreeUptoCard
end Rows
end Go.Proofs.YtfmeldjkofoelaaGreatDoor
