/-
  DERIVED. GIVEN WITH THE SEED: THE CARDS: each row of YtegjdgiegnofhaaDoorRows.lean that lists a variable, with what it lists TIED to the program's text (the seventh form; the later family's looks); each row that meets fmt, with fmt's text TOLD by the authors' own Lean function (tested against real Go, not proved from fmt's source: count such statements apart). THE CARD IS WHAT COUNTS. Prove the row's statement (the work); the ties are given (YtegjdgiegnofhaaDoorTie.lean); close each card by the builder's one call (the guide's Derived/Test/ToyasCard.lean, 'card_holds'). Laid BY PROGRAM, IN A SANDBOX (cutbox-door.mjs). By AI agents, Wed Nov 11 2026. No macro, syntax, notation, axiom, sorry.
-/
import Derived.Test.YtegjdgiegnofhaaDoorRows
import GoSem.ClaimSeven
namespace Go.Proofs.YtegjdgiegnofhaaDoor
namespace Rows

/-- THE TIED CARD OF 'laws.FnCodeLines'. -/
def fnCodeLinesCard : Claim7 := { stood := { row := fnCodeLinesRow, standIns := [], harness := (true, "ecc9ab8c2bc888761fea5e1e4ad0abe1c4ad40b57df6b19bc51c554633200c26"), looks := false }, kinds := [], alts := [], laidByText := true, laidKinds := [.data, .data, .data, .data], laidTests := true, laidLooks := .later }
def FnCodeLinesCardSaid : Prop := Claim7.holds Tryd.pinned (.plain (OpenSpec.ofChange fnCodeLinesSpec)) fnCodeLinesCard

/-- THE SECOND FORM's CARD OF 'laws.FnCodeLines'. -/
def fnCodeLinesUptoCard : Claim7 := { stood := { row := fnCodeLinesUptoRow, standIns := [], harness := (true, "ecc9ab8c2bc888761fea5e1e4ad0abe1c4ad40b57df6b19bc51c554633200c26"), looks := false }, kinds := [], alts := [], laidByText := true, laidKinds := [.data, .data, .data, .data], laidTests := true, laidLooks := .later }
def FnCodeLinesUptoCardSaid : Prop := Claim7.holds Tryd.pinned (.plain (OpenSpec.upto fnCodeLinesSpec)) fnCodeLinesUptoCard
end Rows
end Go.Proofs.YtegjdgiegnofhaaDoor
