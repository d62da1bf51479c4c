/-
  DERIVED. GIVEN WITH THE SEED: THE CARDS: each row of YtfbojelpdccjaaaGreatDoorRows.lean that lists a variable, with what it lists TIED to the program's text (the seventh form; the later family's looks); each row that meets fmt, with fmt's text TOLD by the authors' own Lean function (tested against real Go, not proved from fmt's source: count such statements apart). THE CARD IS WHAT COUNTS. Prove the row's statement (the work); the ties are given (YtfbojelpdccjaaaGreatDoorTie.lean); close each card by the builder's one call (the guide's Derived/Test/ToyasCard.lean, 'card_holds'). Laid BY PROGRAM, IN A SANDBOX (cutbox-door.mjs). By AI agents, Wed Nov 11 2026. No macro, syntax, notation, axiom, sorry.
-/
import Derived.Test.YtfbojelpdccjaaaGreatDoorRows
import GoSem.ClaimSeven
namespace Go.Proofs.YtfbojelpdccjaaaGreatDoor
namespace Rows

/-- THE TIED CARD OF 'laws.FnRailText'. -/
def fnRailTextCard : Claim7 := { stood := { row := fnRailTextRow, standIns := [], harness := (true, "c129be134d4fbedc0bd85f908001b7182d0fceaffd830708719ae19cc08649ef"), looks := true }, kinds := [], alts := [], laidByText := true, laidKinds := [.data, .data, .data, .sentinel, .sentinel], laidTests := true, laidLooks := .later }
def FnRailTextCardSaid : Prop := Claim7.holds Tryz.pinned (.plain (OpenSpec.ofChange fnRailTextSpec)) fnRailTextCard

/-- THE TIED CARD OF 'laws.FnRailBrackets'. -/
def fnRailBracketsCard : Claim7 := { stood := { row := fnRailBracketsRow, standIns := [], harness := (true, "c129be134d4fbedc0bd85f908001b7182d0fceaffd830708719ae19cc08649ef"), looks := true }, kinds := [], alts := [], laidByText := true, laidKinds := [.data, .data, .data, .sentinel, .sentinel], laidTests := true, laidLooks := .later }
def FnRailBracketsCardSaid : Prop := Claim7.holds Tryz.pinned (.plain (OpenSpec.ofChange fnRailBracketsSpec)) fnRailBracketsCard

/-- THE SECOND FORM's CARD OF 'laws.FnRailText'. -/
def fnRailTextUptoCard : Claim7 := { stood := { row := fnRailTextUptoRow, standIns := [], harness := (true, "c129be134d4fbedc0bd85f908001b7182d0fceaffd830708719ae19cc08649ef"), looks := true }, kinds := [], alts := [], laidByText := true, laidKinds := [.data, .data, .data, .sentinel, .sentinel], laidTests := true, laidLooks := .later }
def FnRailTextUptoCardSaid : Prop := Claim7.holds Tryz.pinned (.plain (OpenSpec.upto fnRailTextSpec)) fnRailTextUptoCard

/-- THE SECOND FORM's CARD OF 'laws.FnRailBrackets'. -/
def fnRailBracketsUptoCard : Claim7 := { stood := { row := fnRailBracketsUptoRow, standIns := [], harness := (true, "c129be134d4fbedc0bd85f908001b7182d0fceaffd830708719ae19cc08649ef"), looks := true }, kinds := [], alts := [], laidByText := true, laidKinds := [.data, .data, .data, .sentinel, .sentinel], laidTests := true, laidLooks := .later }
def FnRailBracketsUptoCardSaid : Prop := Claim7.holds Tryz.pinned (.plain (OpenSpec.upto fnRailBracketsSpec)) fnRailBracketsUptoCard
end Rows
end Go.Proofs.YtfbojelpdccjaaaGreatDoor
