/-
  No cell of these rows narrows 'for every input' (looked for: loops, veiled, ifaces, maps, wideKeys, modest, calm, conditions, laid).
  DERIVED. THE GIVEN ROWS OF THIS SEAT. 4 by the template 'for every input the law returns true; each argument reads behind the call as it read before'; 0 by the template 'total and deterministic' (their statements: YtebpgglegnljgaaTotals.lean).
  GIVEN WITH THE SEED: the statements are not yours to turn. If you find one false, say at which input.
  Laid BY PROGRAM, IN A SANDBOX (cutbox-rows.mjs): the forced cells as the released guide's own fill.sh prints them over the translation c8caedb9a0910756… (all of the seat's roots in one cut). By AI agents, Wed Nov 11 2026. No macro, syntax, notation, axiom, sorry.
-/
import Derived.Test.YtebpgglegnljgaaChecked
import GoSem.Claim
import GoSem.ClaimJoined
import GoSem.ClaimMapViews
import Derived.JoinedTies
import Derived.KernelRfl
namespace Go.Proofs.Ytebpgglegnljgaa
/- THE CELL 'sum', in the pinned program and in every row, IS THE sha256 OF THE DUMP (.gsa) THAT YtebpgglegnljgaaProg.lean LOADS. Nothing in Lean hashes anything: it is a label: what it is worth is what the hold of that sum in a sandbox is worth. -/
noncomputable def Try.pinned : Pinned := { name := "ytebpgglegnljgaa", sum := "c8caedb9a0910756e1a61f79aa565ac3f70f44cb0f5db92ae65f4b222eafcea4", checked := Try.checked }
namespace Rows
def none {H : Type} : Left H := { results := [], args := [] }

/-- 'laws.FnHeapKeeps': WHATEVER THE INPUT: true; the input reads as it did. -/
def fnHeapKeepsSpec : ChangeSpec := { name := "fnHeapKeeps", fn := fun _ => fun
  | [d1, d2] => { results := [.lit (.bool true)], args := [d1, d2] }
  | _ => none }
def fnHeapKeepsRow : OpenClaim := { program := "ytebpgglegnljgaa", sum := "c8caedb9a0910756e1a61f79aa565ac3f70f44cb0f5db92ae65f4b222eafcea4", func := "loop.example/handrail/laws.FnHeapKeeps", spec := "fnHeapKeeps", unfollowed := true, recurses := true, apart := false }
def FnHeapKeepsSaid : Prop := fnHeapKeepsRow.holds Try.pinned (OpenSpec.ofChange fnHeapKeepsSpec)

/-- ITS FALSE NEIGHBOUR: 'it returns false'. Refute it at one input. -/
def fnHeapKeepsWrong : ChangeSpec := { name := "fnHeapKeeps", fn := fun _ => fun
  | [d1, d2] => { results := [.lit (.bool false)], args := [d1, d2] }
  | _ => none }
def FnHeapKeepsWrongFalsely : Prop := fnHeapKeepsRow.holds Try.pinned (OpenSpec.ofChange fnHeapKeepsWrong)

/-- 'laws.FnHeapFrees': WHATEVER THE INPUT: true; the input reads as it did. -/
def fnHeapFreesSpec : ChangeSpec := { name := "fnHeapFrees", fn := fun _ => fun
  | [d] => { results := [.lit (.bool true)], args := [d] }
  | _ => none }
def fnHeapFreesRow : OpenClaim := { program := "ytebpgglegnljgaa", sum := "c8caedb9a0910756e1a61f79aa565ac3f70f44cb0f5db92ae65f4b222eafcea4", func := "loop.example/handrail/laws.FnHeapFrees", spec := "fnHeapFrees", unfollowed := true, recurses := true, apart := false }
def FnHeapFreesSaid : Prop := fnHeapFreesRow.holds Try.pinned (OpenSpec.ofChange fnHeapFreesSpec)

/-- ITS FALSE NEIGHBOUR: 'it returns false'. Refute it at one input. -/
def fnHeapFreesWrong : ChangeSpec := { name := "fnHeapFrees", fn := fun _ => fun
  | [d] => { results := [.lit (.bool false)], args := [d] }
  | _ => none }
def FnHeapFreesWrongFalsely : Prop := fnHeapFreesRow.holds Try.pinned (OpenSpec.ofChange fnHeapFreesWrong)

/-- 'laws.FnHeapField': WHATEVER THE INPUT: true; the input reads as it did. -/
def fnHeapFieldSpec : ChangeSpec := { name := "fnHeapField", fn := fun _ => fun
  | [d] => { results := [.lit (.bool true)], args := [d] }
  | _ => none }
def fnHeapFieldRow : OpenClaim := { program := "ytebpgglegnljgaa", sum := "c8caedb9a0910756e1a61f79aa565ac3f70f44cb0f5db92ae65f4b222eafcea4", func := "loop.example/handrail/laws.FnHeapField", spec := "fnHeapField", unfollowed := true, recurses := true, apart := false }
def FnHeapFieldSaid : Prop := fnHeapFieldRow.holds Try.pinned (OpenSpec.ofChange fnHeapFieldSpec)

/-- ITS FALSE NEIGHBOUR: 'it returns false'. Refute it at one input. -/
def fnHeapFieldWrong : ChangeSpec := { name := "fnHeapField", fn := fun _ => fun
  | [d] => { results := [.lit (.bool false)], args := [d] }
  | _ => none }
def FnHeapFieldWrongFalsely : Prop := fnHeapFieldRow.holds Try.pinned (OpenSpec.ofChange fnHeapFieldWrong)

/-- 'laws.FnHeapScan': WHATEVER THE INPUT: true; the input reads as it did. -/
def fnHeapScanSpec : ChangeSpec := { name := "fnHeapScan", fn := fun _ => fun
  | [d] => { results := [.lit (.bool true)], args := [d] }
  | _ => none }
def fnHeapScanRow : OpenClaim := { program := "ytebpgglegnljgaa", sum := "c8caedb9a0910756e1a61f79aa565ac3f70f44cb0f5db92ae65f4b222eafcea4", func := "loop.example/handrail/laws.FnHeapScan", spec := "fnHeapScan", apart := false }
def FnHeapScanSaid : Prop := fnHeapScanRow.holds Try.pinned (OpenSpec.ofChange fnHeapScanSpec)

/-- ITS FALSE NEIGHBOUR: 'it returns false'. Refute it at one input. -/
def fnHeapScanWrong : ChangeSpec := { name := "fnHeapScan", fn := fun _ => fun
  | [d] => { results := [.lit (.bool false)], args := [d] }
  | _ => none }
def FnHeapScanWrongFalsely : Prop := fnHeapScanRow.holds Try.pinned (OpenSpec.ofChange fnHeapScanWrong)

/- THE SECOND FORM. 'bulk': how many values and letters a reading holds, each counted each time it is reached (what is shared counts as often as it is met; a slice's spare places count too). A statement '..UptoSaid' is the law's where the arguments, and the package variables that the reading takes, are together of bulk at most 1048576: NARROWER than '..Said'. Prove '..Said' where nothing that the law and all that it calls make is longer than what came in: it says more and counts as full. Else prove '..UptoSaid'. A law counts once. -/
mutual
def uptoBulk {H : Type} : DataW H → Nat
  | .lit (.string bytes) => bytes.length + 1
  | .lit _ => 1
  | .nil => 1
  | .ptr d => uptoBulk d + 1
  | .slice elems spare => uptoBulkAll elems + uptoBulkAll spare + 1
  | .agg parts => uptoBulkAll parts + 1
  | .iface _ d => uptoBulk d + 1
  | .map entries => uptoBulkEntries entries + 1
  | .held _ => 1
def uptoBulkAll {H : Type} : List (DataW H) → Nat
  | [] => 0
  | d :: r => uptoBulk d + uptoBulkAll r
def uptoBulkEntries {H : Type} : List (Lit × DataW H) → Nat
  | [] => 0
  | x :: r => uptoBulkEntry x + uptoBulkEntries r
def uptoBulkEntry {H : Type} : Lit × DataW H → Nat
  | (.string bytes, d) => bytes.length + uptoBulk d + 1
  | (_, d) => uptoBulk d + 1
 end
def uptoSmall : (H : Type) → List (DataW H) → Bool := fun _ ds => decide (uptoBulkAll ds ≤ 1048576)
def OpenSpec.upto (s : _root_.Go.ChangeSpec) : _root_.Go.OpenSpec := { _root_.Go.OpenSpec.ofChange s with cond := some uptoSmall }

/-- 'laws.FnHeapKeeps', WHERE WHAT IT READS IS OF BULK AT MOST 1048576: true; the input reads as it did. -/
def fnHeapKeepsUptoRow : OpenClaim := { program := "ytebpgglegnljgaa", sum := "c8caedb9a0910756e1a61f79aa565ac3f70f44cb0f5db92ae65f4b222eafcea4", func := "loop.example/handrail/laws.FnHeapKeeps", spec := "fnHeapKeeps", unfollowed := true, recurses := true, apart := false, narrowed := true }
def FnHeapKeepsUptoSaid : Prop := fnHeapKeepsUptoRow.holds Try.pinned (OpenSpec.upto fnHeapKeepsSpec)

/-- 'laws.FnHeapFrees', WHERE WHAT IT READS IS OF BULK AT MOST 1048576: true; the input reads as it did. -/
def fnHeapFreesUptoRow : OpenClaim := { program := "ytebpgglegnljgaa", sum := "c8caedb9a0910756e1a61f79aa565ac3f70f44cb0f5db92ae65f4b222eafcea4", func := "loop.example/handrail/laws.FnHeapFrees", spec := "fnHeapFrees", unfollowed := true, recurses := true, apart := false, narrowed := true }
def FnHeapFreesUptoSaid : Prop := fnHeapFreesUptoRow.holds Try.pinned (OpenSpec.upto fnHeapFreesSpec)

/-- 'laws.FnHeapField', WHERE WHAT IT READS IS OF BULK AT MOST 1048576: true; the input reads as it did. -/
def fnHeapFieldUptoRow : OpenClaim := { program := "ytebpgglegnljgaa", sum := "c8caedb9a0910756e1a61f79aa565ac3f70f44cb0f5db92ae65f4b222eafcea4", func := "loop.example/handrail/laws.FnHeapField", spec := "fnHeapField", unfollowed := true, recurses := true, apart := false, narrowed := true }
def FnHeapFieldUptoSaid : Prop := fnHeapFieldUptoRow.holds Try.pinned (OpenSpec.upto fnHeapFieldSpec)

/-- 'laws.FnHeapScan', WHERE WHAT IT READS IS OF BULK AT MOST 1048576: true; the input reads as it did. -/
def fnHeapScanUptoRow : OpenClaim := { program := "ytebpgglegnljgaa", sum := "c8caedb9a0910756e1a61f79aa565ac3f70f44cb0f5db92ae65f4b222eafcea4", func := "loop.example/handrail/laws.FnHeapScan", spec := "fnHeapScan", apart := false, narrowed := true }
def FnHeapScanUptoSaid : Prop := fnHeapScanUptoRow.holds Try.pinned (OpenSpec.upto fnHeapScanSpec)

end Rows
end Go.Proofs.Ytebpgglegnljgaa
