/-
  No cell of these rows narrows 'for every input' (looked for: loops, veiled, ifaces, maps, wideKeys, modest, calm, conditions, laid).
  DERIVED. THE GIVEN ROWS OF THIS SEAT. 6 by the template 'for every input the law returns true; each argument reads behind the call as it read before'; 0 by the template 'total and deterministic' (their statements: YtnoobonlmfgfhaaTotals.lean).
  GIVEN WITH THE SEED: the statements are not yours to turn. If you find one false, say at which input.
  Laid BY PROGRAM, IN A SANDBOX (cutbox-rows.mjs): the forced cells as the released guide's own fill.sh prints them over the translation e58c5e66aab2a0c6… (all of the seat's roots in one cut). By AI agents, Wed Nov 11 2026. No macro, syntax, notation, axiom, sorry.
-/
import Derived.Test.YtnoobonlmfgfhaaChecked
import GoSem.Claim
import GoSem.ClaimJoined
import GoSem.ClaimMapViews
import Derived.JoinedTies
import Derived.KernelRfl
namespace Go.Proofs.Ytnoobonlmfgfhaa
/- THE CELL 'sum', in the pinned program and in every row, IS THE sha256 OF THE DUMP (.gsa) THAT YtnoobonlmfgfhaaProg.lean LOADS. Nothing in Lean hashes anything: it is a label: what it is worth is what the hold of that sum in a sandbox is worth. -/
noncomputable def Try.pinned : Pinned := { name := "ytnoobonlmfgfhaa", sum := "e58c5e66aab2a0c61ccad705b412fe640d2863d5f9d04730c1c0b011502c82fc", checked := Try.checked }
namespace Rows
def none {H : Type} : Left H := { results := [], args := [] }

/-- 'laws.FnExactHeapOk': WHATEVER THE INPUT: true; the input reads as it did. -/
def fnExactHeapOkSpec : ChangeSpec := { name := "fnExactHeapOk", fn := fun _ => fun
  | [d] => { results := [.lit (.bool true)], args := [d] }
  | _ => none }
def fnExactHeapOkRow : OpenClaim := { program := "ytnoobonlmfgfhaa", sum := "e58c5e66aab2a0c61ccad705b412fe640d2863d5f9d04730c1c0b011502c82fc", func := "loop.example/handrail/laws.FnExactHeapOk", spec := "fnExactHeapOk", apart := false }
def FnExactHeapOkSaid : Prop := fnExactHeapOkRow.holds Try.pinned (OpenSpec.ofChange fnExactHeapOkSpec)

/-- ITS FALSE NEIGHBOUR: 'it returns false'. Refute it at one input. -/
def fnExactHeapOkWrong : ChangeSpec := { name := "fnExactHeapOk", fn := fun _ => fun
  | [d] => { results := [.lit (.bool false)], args := [d] }
  | _ => none }
def FnExactHeapOkWrongFalsely : Prop := fnExactHeapOkRow.holds Try.pinned (OpenSpec.ofChange fnExactHeapOkWrong)

/-- 'laws.FnExactHeapMake': WHATEVER THE INPUT: true; the input reads as it did. -/
def fnExactHeapMakeSpec : ChangeSpec := { name := "fnExactHeapMake", fn := fun _ => fun
  | [d1, d2, d3, d4, d5] => { results := [.lit (.bool true)], args := [d1, d2, d3, d4, d5] }
  | _ => none }
def fnExactHeapMakeRow : OpenClaim := { program := "ytnoobonlmfgfhaa", sum := "e58c5e66aab2a0c61ccad705b412fe640d2863d5f9d04730c1c0b011502c82fc", func := "loop.example/handrail/laws.FnExactHeapMake", spec := "fnExactHeapMake", unfollowed := true, recurses := true, apart := false }
def FnExactHeapMakeSaid : Prop := fnExactHeapMakeRow.holds Try.pinned (OpenSpec.ofChange fnExactHeapMakeSpec)

/-- ITS FALSE NEIGHBOUR: 'it returns false'. Refute it at one input. -/
def fnExactHeapMakeWrong : ChangeSpec := { name := "fnExactHeapMake", fn := fun _ => fun
  | [d1, d2, d3, d4, d5] => { results := [.lit (.bool false)], args := [d1, d2, d3, d4, d5] }
  | _ => none }
def FnExactHeapMakeWrongFalsely : Prop := fnExactHeapMakeRow.holds Try.pinned (OpenSpec.ofChange fnExactHeapMakeWrong)

/-- 'laws.FnExactHeapField': WHATEVER THE INPUT: true; the input reads as it did. -/
def fnExactHeapFieldSpec : ChangeSpec := { name := "fnExactHeapField", fn := fun _ => fun
  | [d1, d2, d3] => { results := [.lit (.bool true)], args := [d1, d2, d3] }
  | _ => none }
def fnExactHeapFieldRow : OpenClaim := { program := "ytnoobonlmfgfhaa", sum := "e58c5e66aab2a0c61ccad705b412fe640d2863d5f9d04730c1c0b011502c82fc", func := "loop.example/handrail/laws.FnExactHeapField", spec := "fnExactHeapField", apart := false }
def FnExactHeapFieldSaid : Prop := fnExactHeapFieldRow.holds Try.pinned (OpenSpec.ofChange fnExactHeapFieldSpec)

/-- ITS FALSE NEIGHBOUR: 'it returns false'. Refute it at one input. -/
def fnExactHeapFieldWrong : ChangeSpec := { name := "fnExactHeapField", fn := fun _ => fun
  | [d1, d2, d3] => { results := [.lit (.bool false)], args := [d1, d2, d3] }
  | _ => none }
def FnExactHeapFieldWrongFalsely : Prop := fnExactHeapFieldRow.holds Try.pinned (OpenSpec.ofChange fnExactHeapFieldWrong)

/-- 'laws.FnExactHeapScan': WHATEVER THE INPUT: true; the input reads as it did. -/
def fnExactHeapScanSpec : ChangeSpec := { name := "fnExactHeapScan", fn := fun _ => fun
  | [d1, d2] => { results := [.lit (.bool true)], args := [d1, d2] }
  | _ => none }
def fnExactHeapScanRow : OpenClaim := { program := "ytnoobonlmfgfhaa", sum := "e58c5e66aab2a0c61ccad705b412fe640d2863d5f9d04730c1c0b011502c82fc", func := "loop.example/handrail/laws.FnExactHeapScan", spec := "fnExactHeapScan", apart := false }
def FnExactHeapScanSaid : Prop := fnExactHeapScanRow.holds Try.pinned (OpenSpec.ofChange fnExactHeapScanSpec)

/-- ITS FALSE NEIGHBOUR: 'it returns false'. Refute it at one input. -/
def fnExactHeapScanWrong : ChangeSpec := { name := "fnExactHeapScan", fn := fun _ => fun
  | [d1, d2] => { results := [.lit (.bool false)], args := [d1, d2] }
  | _ => none }
def FnExactHeapScanWrongFalsely : Prop := fnExactHeapScanRow.holds Try.pinned (OpenSpec.ofChange fnExactHeapScanWrong)

/-- 'laws.FnExactHeapFlip': WHATEVER THE INPUT: true; the input reads as it did. -/
def fnExactHeapFlipSpec : ChangeSpec := { name := "fnExactHeapFlip", fn := fun _ => fun
  | [d1, d2] => { results := [.lit (.bool true)], args := [d1, d2] }
  | _ => none }
def fnExactHeapFlipRow : OpenClaim := { program := "ytnoobonlmfgfhaa", sum := "e58c5e66aab2a0c61ccad705b412fe640d2863d5f9d04730c1c0b011502c82fc", func := "loop.example/handrail/laws.FnExactHeapFlip", spec := "fnExactHeapFlip", unfollowed := true, recurses := true, apart := false }
def FnExactHeapFlipSaid : Prop := fnExactHeapFlipRow.holds Try.pinned (OpenSpec.ofChange fnExactHeapFlipSpec)

/-- ITS FALSE NEIGHBOUR: 'it returns false'. Refute it at one input. -/
def fnExactHeapFlipWrong : ChangeSpec := { name := "fnExactHeapFlip", fn := fun _ => fun
  | [d1, d2] => { results := [.lit (.bool false)], args := [d1, d2] }
  | _ => none }
def FnExactHeapFlipWrongFalsely : Prop := fnExactHeapFlipRow.holds Try.pinned (OpenSpec.ofChange fnExactHeapFlipWrong)

/-- 'laws.FnExactHeapGraph': WHATEVER THE INPUT: true; the input reads as it did. -/
def fnExactHeapGraphSpec : ChangeSpec := { name := "fnExactHeapGraph", fn := fun _ => fun
  | [d1, d2] => { results := [.lit (.bool true)], args := [d1, d2] }
  | _ => none }
def fnExactHeapGraphRow : OpenClaim := { program := "ytnoobonlmfgfhaa", sum := "e58c5e66aab2a0c61ccad705b412fe640d2863d5f9d04730c1c0b011502c82fc", func := "loop.example/handrail/laws.FnExactHeapGraph", spec := "fnExactHeapGraph", unfollowed := true, recurses := true, apart := false }
def FnExactHeapGraphSaid : Prop := fnExactHeapGraphRow.holds Try.pinned (OpenSpec.ofChange fnExactHeapGraphSpec)

/-- ITS FALSE NEIGHBOUR: 'it returns false'. Refute it at one input. -/
def fnExactHeapGraphWrong : ChangeSpec := { name := "fnExactHeapGraph", fn := fun _ => fun
  | [d1, d2] => { results := [.lit (.bool false)], args := [d1, d2] }
  | _ => none }
def FnExactHeapGraphWrongFalsely : Prop := fnExactHeapGraphRow.holds Try.pinned (OpenSpec.ofChange fnExactHeapGraphWrong)

/- THE SECOND FORM. 'bulk': how many values and letters a reading holds, each counted each time it is reached (what is shared counts as often as it is met; a slice's spare places count too). A statement '..UptoSaid' is the law's where the arguments, and the package variables that the reading takes, are together of bulk at most 1048576: NARROWER than '..Said'. Prove '..Said' where nothing that the law and all that it calls make is longer than what came in: it says more and counts as full. Else prove '..UptoSaid'. A law counts once. -/
mutual
def uptoBulk {H : Type} : DataW H → Nat
  | .lit (.string bytes) => bytes.length + 1
  | .lit _ => 1
  | .nil => 1
  | .ptr d => uptoBulk d + 1
  | .slice elems spare => uptoBulkAll elems + uptoBulkAll spare + 1
  | .agg parts => uptoBulkAll parts + 1
  | .iface _ d => uptoBulk d + 1
  | .map entries => uptoBulkEntries entries + 1
  | .held _ => 1
def uptoBulkAll {H : Type} : List (DataW H) → Nat
  | [] => 0
  | d :: r => uptoBulk d + uptoBulkAll r
def uptoBulkEntries {H : Type} : List (Lit × DataW H) → Nat
  | [] => 0
  | x :: r => uptoBulkEntry x + uptoBulkEntries r
def uptoBulkEntry {H : Type} : Lit × DataW H → Nat
  | (.string bytes, d) => bytes.length + uptoBulk d + 1
  | (_, d) => uptoBulk d + 1
 end
def uptoSmall : (H : Type) → List (DataW H) → Bool := fun _ ds => decide (uptoBulkAll ds ≤ 1048576)
def OpenSpec.upto (s : _root_.Go.ChangeSpec) : _root_.Go.OpenSpec := { _root_.Go.OpenSpec.ofChange s with cond := some uptoSmall }

/-- 'laws.FnExactHeapOk', WHERE WHAT IT READS IS OF BULK AT MOST 1048576: true; the input reads as it did. -/
def fnExactHeapOkUptoRow : OpenClaim := { program := "ytnoobonlmfgfhaa", sum := "e58c5e66aab2a0c61ccad705b412fe640d2863d5f9d04730c1c0b011502c82fc", func := "loop.example/handrail/laws.FnExactHeapOk", spec := "fnExactHeapOk", apart := false, narrowed := true }
def FnExactHeapOkUptoSaid : Prop := fnExactHeapOkUptoRow.holds Try.pinned (OpenSpec.upto fnExactHeapOkSpec)

/-- 'laws.FnExactHeapMake', WHERE WHAT IT READS IS OF BULK AT MOST 1048576: true; the input reads as it did. -/
def fnExactHeapMakeUptoRow : OpenClaim := { program := "ytnoobonlmfgfhaa", sum := "e58c5e66aab2a0c61ccad705b412fe640d2863d5f9d04730c1c0b011502c82fc", func := "loop.example/handrail/laws.FnExactHeapMake", spec := "fnExactHeapMake", unfollowed := true, recurses := true, apart := false, narrowed := true }
def FnExactHeapMakeUptoSaid : Prop := fnExactHeapMakeUptoRow.holds Try.pinned (OpenSpec.upto fnExactHeapMakeSpec)

/-- 'laws.FnExactHeapField', WHERE WHAT IT READS IS OF BULK AT MOST 1048576: true; the input reads as it did. -/
def fnExactHeapFieldUptoRow : OpenClaim := { program := "ytnoobonlmfgfhaa", sum := "e58c5e66aab2a0c61ccad705b412fe640d2863d5f9d04730c1c0b011502c82fc", func := "loop.example/handrail/laws.FnExactHeapField", spec := "fnExactHeapField", apart := false, narrowed := true }
def FnExactHeapFieldUptoSaid : Prop := fnExactHeapFieldUptoRow.holds Try.pinned (OpenSpec.upto fnExactHeapFieldSpec)

/-- 'laws.FnExactHeapScan', WHERE WHAT IT READS IS OF BULK AT MOST 1048576: true; the input reads as it did. -/
def fnExactHeapScanUptoRow : OpenClaim := { program := "ytnoobonlmfgfhaa", sum := "e58c5e66aab2a0c61ccad705b412fe640d2863d5f9d04730c1c0b011502c82fc", func := "loop.example/handrail/laws.FnExactHeapScan", spec := "fnExactHeapScan", apart := false, narrowed := true }
def FnExactHeapScanUptoSaid : Prop := fnExactHeapScanUptoRow.holds Try.pinned (OpenSpec.upto fnExactHeapScanSpec)

/-- 'laws.FnExactHeapFlip', WHERE WHAT IT READS IS OF BULK AT MOST 1048576: true; the input reads as it did. -/
def fnExactHeapFlipUptoRow : OpenClaim := { program := "ytnoobonlmfgfhaa", sum := "e58c5e66aab2a0c61ccad705b412fe640d2863d5f9d04730c1c0b011502c82fc", func := "loop.example/handrail/laws.FnExactHeapFlip", spec := "fnExactHeapFlip", unfollowed := true, recurses := true, apart := false, narrowed := true }
def FnExactHeapFlipUptoSaid : Prop := fnExactHeapFlipUptoRow.holds Try.pinned (OpenSpec.upto fnExactHeapFlipSpec)

/-- 'laws.FnExactHeapGraph', WHERE WHAT IT READS IS OF BULK AT MOST 1048576: true; the input reads as it did. -/
def fnExactHeapGraphUptoRow : OpenClaim := { program := "ytnoobonlmfgfhaa", sum := "e58c5e66aab2a0c61ccad705b412fe640d2863d5f9d04730c1c0b011502c82fc", func := "loop.example/handrail/laws.FnExactHeapGraph", spec := "fnExactHeapGraph", unfollowed := true, recurses := true, apart := false, narrowed := true }
def FnExactHeapGraphUptoSaid : Prop := fnExactHeapGraphUptoRow.holds Try.pinned (OpenSpec.upto fnExactHeapGraphSpec)

end Rows
end Go.Proofs.Ytnoobonlmfgfhaa
