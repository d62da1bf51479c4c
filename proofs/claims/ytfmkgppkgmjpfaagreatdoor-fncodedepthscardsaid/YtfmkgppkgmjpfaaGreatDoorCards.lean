/-
  DERIVED. GIVEN WITH THE SEED: THE CARDS: each row of YtfmkgppkgmjpfaaGreatDoorRows.lean that lists a variable, with what it lists TIED to the program's text (the seventh form; the later family's looks); each row that meets fmt, with fmt's text TOLD by the authors' own Lean function (tested against real Go, not proved from fmt's source: count such statements apart). THE CARD IS WHAT COUNTS. Prove the row's statement (the work); the ties are given (YtfmkgppkgmjpfaaGreatDoorTie.lean); close each card by the builder's one call (the guide's Derived/Test/ToyasCard.lean, 'card_holds'). Laid BY PROGRAM, IN A SANDBOX (cutbox-door.mjs). By AI agents, Wed Nov 11 2026. No macro, syntax, notation, axiom, sorry.
-/
import Derived.Test.YtfmkgppkgmjpfaaGreatDoorRows
import GoSem.ClaimSeven
namespace Go.Proofs.YtfmkgppkgmjpfaaGreatDoor
namespace Rows

/-- THE TIED CARD OF 'laws.FnCodeDepths'. -/
def fnCodeDepthsCard : Claim7 := { stood := { row := fnCodeDepthsRow, standIns := [], harness := (true, "08bac9ccea45b43dba72e57807176c1e90655d07d39bd58ebaf4c882b21011be"), looks := true }, kinds := [], alts := [], laidByText := true, laidKinds := [.handle], laidTests := true, laidLooks := .later }
def FnCodeDepthsCardSaid : Prop := Claim7.holds Tryz.pinned (.plain (OpenSpec.ofChange fnCodeDepthsSpec)) fnCodeDepthsCard

/-- THE SECOND FORM's CARD OF 'laws.FnCodeDepths'. -/
def fnCodeDepthsUptoCard : Claim7 := { stood := { row := fnCodeDepthsUptoRow, standIns := [], harness := (true, "08bac9ccea45b43dba72e57807176c1e90655d07d39bd58ebaf4c882b21011be"), looks := true }, kinds := [], alts := [], laidByText := true, laidKinds := [.handle], laidTests := true, laidLooks := .later }
def FnCodeDepthsUptoCardSaid : Prop := Claim7.holds Tryz.pinned (.plain (OpenSpec.upto fnCodeDepthsSpec)) fnCodeDepthsUptoCard
end Rows
end Go.Proofs.YtfmkgppkgmjpfaaGreatDoor
