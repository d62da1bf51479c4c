/-
  DERIVED. GIVEN WITH THE SEED: THE CARDS: each row of YtbbffkiobmbkfaaGreatDoorRows.lean that lists a variable, with what it lists TIED to the program's text (the seventh form; the later family's looks); each row that meets fmt, with fmt's text TOLD by the authors' own Lean function (tested against real Go, not proved from fmt's source: count such statements apart). THE CARD IS WHAT COUNTS. Prove the row's statement (the work); the ties are given (YtbbffkiobmbkfaaGreatDoorTie.lean); close each card by the builder's one call (the guide's Derived/Test/ToyasCard.lean, 'card_holds'). Laid BY PROGRAM, IN A SANDBOX (cutbox-door.mjs). By AI agents, Wed Nov 11 2026. No macro, syntax, notation, axiom, sorry.
-/
import Derived.Test.YtbbffkiobmbkfaaGreatDoorRows
import GoSem.ClaimSeven
namespace Go.Proofs.YtbbffkiobmbkfaaGreatDoor
namespace Rows

/-- THE TIED CARD OF 'laws.FnRailValid'. -/
def fnRailValidCard : Claim7 := { stood := { row := fnRailValidRow, standIns := [], harness := (true, "c7e8983f9893e7b6430c318038e86ed38586183c3aeee37eb5b2df25aa97924a"), looks := true }, kinds := [], alts := [], laidByText := true, laidKinds := [.data, .data, .data, .handle], laidTests := true, laidLooks := .later }
def FnRailValidCardSaid : Prop := Claim7.holds Tryz.pinned (.plain (OpenSpec.ofChange fnRailValidSpec)) fnRailValidCard

/-- THE SECOND FORM's CARD OF 'laws.FnRailValid'. -/
def fnRailValidUptoCard : Claim7 := { stood := { row := fnRailValidUptoRow, standIns := [], harness := (true, "c7e8983f9893e7b6430c318038e86ed38586183c3aeee37eb5b2df25aa97924a"), looks := true }, kinds := [], alts := [], laidByText := true, laidKinds := [.data, .data, .data, .handle], laidTests := true, laidLooks := .later }
def FnRailValidUptoCardSaid : Prop := Claim7.holds Tryz.pinned (.plain (OpenSpec.upto fnRailValidSpec)) fnRailValidUptoCard
end Rows
end Go.Proofs.YtbbffkiobmbkfaaGreatDoor
