/-
  No cell of these rows narrows 'for every input' (looked for: loops, veiled, ifaces, maps, wideKeys, modest, calm, conditions, laid).
  DERIVED. THE GIVEN ROWS OF THIS SEAT. 6 by the template 'for every input the law returns true; each argument reads behind the call as it read before'; 0 by the template 'total and deterministic' (their statements: YtbfffjnfbahiiaaTotals.lean).
  GIVEN WITH THE SEED: the statements are not yours to turn. If you find one false, say at which input.
  Laid BY PROGRAM, IN A SANDBOX (cutbox-rows.mjs): the forced cells as the released guide's own fill.sh prints them over the translation b7ea3b125a5acef7… (all of the seat's roots in one cut). By AI agents, Wed Nov 11 2026. No macro, syntax, notation, axiom, sorry.
-/
import Derived.Test.YtbfffjnfbahiiaaChecked
import GoSem.Claim
import GoSem.ClaimJoined
import GoSem.ClaimMapViews
import Derived.JoinedTies
import Derived.KernelRfl
namespace Go.Proofs.Ytbfffjnfbahiiaa
/- THE CELL 'sum', in the pinned program and in every row, IS THE sha256 OF THE DUMP (.gsa) THAT YtbfffjnfbahiiaaProg.lean LOADS. Nothing in Lean hashes anything: it is a label: what it is worth is what the hold of that sum in a sandbox is worth. -/
noncomputable def Try.pinned : Pinned := { name := "ytbfffjnfbahiiaa", sum := "b7ea3b125a5acef74da98a9a07138ca04a278506102378df44342d224e480f24", checked := Try.checked }
namespace Rows
def none {H : Type} : Left H := { results := [], args := [] }

/-- 'laws.FnWords': WHATEVER THE INPUT: true; the input reads as it did. -/
def fnWordsSpec : ChangeSpec := { name := "fnWords", fn := fun _ => fun
  | [d] => { results := [.lit (.bool true)], args := [d] }
  | _ => none }
def fnWordsRow : OpenClaim := { program := "ytbfffjnfbahiiaa", sum := "b7ea3b125a5acef74da98a9a07138ca04a278506102378df44342d224e480f24", func := "loop.example/handrail/laws.FnWords", spec := "fnWords", apart := false }
def FnWordsSaid : Prop := fnWordsRow.holds Try.pinned (OpenSpec.ofChange fnWordsSpec)

/-- ITS FALSE NEIGHBOUR: 'it returns false'. Refute it at one input. -/
def fnWordsWrong : ChangeSpec := { name := "fnWords", fn := fun _ => fun
  | [d] => { results := [.lit (.bool false)], args := [d] }
  | _ => none }
def FnWordsWrongFalsely : Prop := fnWordsRow.holds Try.pinned (OpenSpec.ofChange fnWordsWrong)

/-- 'laws.FnExactWordMake': WHATEVER THE INPUT: true; the input reads as it did. -/
def fnExactWordMakeSpec : ChangeSpec := { name := "fnExactWordMake", fn := fun _ => fun
  | [d1, d2] => { results := [.lit (.bool true)], args := [d1, d2] }
  | _ => none }
def fnExactWordMakeRow : OpenClaim := { program := "ytbfffjnfbahiiaa", sum := "b7ea3b125a5acef74da98a9a07138ca04a278506102378df44342d224e480f24", func := "loop.example/handrail/laws.FnExactWordMake", spec := "fnExactWordMake", apart := false }
def FnExactWordMakeSaid : Prop := fnExactWordMakeRow.holds Try.pinned (OpenSpec.ofChange fnExactWordMakeSpec)

/-- ITS FALSE NEIGHBOUR: 'it returns false'. Refute it at one input. -/
def fnExactWordMakeWrong : ChangeSpec := { name := "fnExactWordMake", fn := fun _ => fun
  | [d1, d2] => { results := [.lit (.bool false)], args := [d1, d2] }
  | _ => none }
def FnExactWordMakeWrongFalsely : Prop := fnExactWordMakeRow.holds Try.pinned (OpenSpec.ofChange fnExactWordMakeWrong)

/-- 'laws.FnExactWordTag': WHATEVER THE INPUT: true; the input reads as it did. -/
def fnExactWordTagSpec : ChangeSpec := { name := "fnExactWordTag", fn := fun _ => fun
  | [d] => { results := [.lit (.bool true)], args := [d] }
  | _ => none }
def fnExactWordTagRow : OpenClaim := { program := "ytbfffjnfbahiiaa", sum := "b7ea3b125a5acef74da98a9a07138ca04a278506102378df44342d224e480f24", func := "loop.example/handrail/laws.FnExactWordTag", spec := "fnExactWordTag", apart := false }
def FnExactWordTagSaid : Prop := fnExactWordTagRow.holds Try.pinned (OpenSpec.ofChange fnExactWordTagSpec)

/-- ITS FALSE NEIGHBOUR: 'it returns false'. Refute it at one input. -/
def fnExactWordTagWrong : ChangeSpec := { name := "fnExactWordTag", fn := fun _ => fun
  | [d] => { results := [.lit (.bool false)], args := [d] }
  | _ => none }
def FnExactWordTagWrongFalsely : Prop := fnExactWordTagRow.holds Try.pinned (OpenSpec.ofChange fnExactWordTagWrong)

/-- 'laws.FnExactWordNum': WHATEVER THE INPUT: true; the input reads as it did. -/
def fnExactWordNumSpec : ChangeSpec := { name := "fnExactWordNum", fn := fun _ => fun
  | [d] => { results := [.lit (.bool true)], args := [d] }
  | _ => none }
def fnExactWordNumRow : OpenClaim := { program := "ytbfffjnfbahiiaa", sum := "b7ea3b125a5acef74da98a9a07138ca04a278506102378df44342d224e480f24", func := "loop.example/handrail/laws.FnExactWordNum", spec := "fnExactWordNum", apart := false }
def FnExactWordNumSaid : Prop := fnExactWordNumRow.holds Try.pinned (OpenSpec.ofChange fnExactWordNumSpec)

/-- ITS FALSE NEIGHBOUR: 'it returns false'. Refute it at one input. -/
def fnExactWordNumWrong : ChangeSpec := { name := "fnExactWordNum", fn := fun _ => fun
  | [d] => { results := [.lit (.bool false)], args := [d] }
  | _ => none }
def FnExactWordNumWrongFalsely : Prop := fnExactWordNumRow.holds Try.pinned (OpenSpec.ofChange fnExactWordNumWrong)

/-- 'laws.FnExactObjFields': WHATEVER THE INPUT: true; the input reads as it did. -/
def fnExactObjFieldsSpec : ChangeSpec := { name := "fnExactObjFields", fn := fun _ => fun
  | [d] => { results := [.lit (.bool true)], args := [d] }
  | _ => none }
def fnExactObjFieldsRow : OpenClaim := { program := "ytbfffjnfbahiiaa", sum := "b7ea3b125a5acef74da98a9a07138ca04a278506102378df44342d224e480f24", func := "loop.example/handrail/laws.FnExactObjFields", spec := "fnExactObjFields", apart := false }
def FnExactObjFieldsSaid : Prop := fnExactObjFieldsRow.holds Try.pinned (OpenSpec.ofChange fnExactObjFieldsSpec)

/-- ITS FALSE NEIGHBOUR: 'it returns false'. Refute it at one input. -/
def fnExactObjFieldsWrong : ChangeSpec := { name := "fnExactObjFields", fn := fun _ => fun
  | [d] => { results := [.lit (.bool false)], args := [d] }
  | _ => none }
def FnExactObjFieldsWrongFalsely : Prop := fnExactObjFieldsRow.holds Try.pinned (OpenSpec.ofChange fnExactObjFieldsWrong)

/-- 'laws.FnExactHeapNew': WHATEVER THE INPUT: true; the input reads as it did. -/
def fnExactHeapNewSpec : ChangeSpec := { name := "fnExactHeapNew", fn := fun _ => fun
  | [d] => { results := [.lit (.bool true)], args := [d] }
  | _ => none }
def fnExactHeapNewRow : OpenClaim := { program := "ytbfffjnfbahiiaa", sum := "b7ea3b125a5acef74da98a9a07138ca04a278506102378df44342d224e480f24", func := "loop.example/handrail/laws.FnExactHeapNew", spec := "fnExactHeapNew", apart := false }
def FnExactHeapNewSaid : Prop := fnExactHeapNewRow.holds Try.pinned (OpenSpec.ofChange fnExactHeapNewSpec)

/-- ITS FALSE NEIGHBOUR: 'it returns false'. Refute it at one input. -/
def fnExactHeapNewWrong : ChangeSpec := { name := "fnExactHeapNew", fn := fun _ => fun
  | [d] => { results := [.lit (.bool false)], args := [d] }
  | _ => none }
def FnExactHeapNewWrongFalsely : Prop := fnExactHeapNewRow.holds Try.pinned (OpenSpec.ofChange fnExactHeapNewWrong)

/- THE SECOND FORM. 'bulk': how many values and letters a reading holds, each counted each time it is reached (what is shared counts as often as it is met; a slice's spare places count too). A statement '..UptoSaid' is the law's where the arguments, and the package variables that the reading takes, are together of bulk at most 1048576: NARROWER than '..Said'. Prove '..Said' where nothing that the law and all that it calls make is longer than what came in: it says more and counts as full. Else prove '..UptoSaid'. A law counts once. -/
mutual
def uptoBulk {H : Type} : DataW H → Nat
  | .lit (.string bytes) => bytes.length + 1
  | .lit _ => 1
  | .nil => 1
  | .ptr d => uptoBulk d + 1
  | .slice elems spare => uptoBulkAll elems + uptoBulkAll spare + 1
  | .agg parts => uptoBulkAll parts + 1
  | .iface _ d => uptoBulk d + 1
  | .map entries => uptoBulkEntries entries + 1
  | .held _ => 1
def uptoBulkAll {H : Type} : List (DataW H) → Nat
  | [] => 0
  | d :: r => uptoBulk d + uptoBulkAll r
def uptoBulkEntries {H : Type} : List (Lit × DataW H) → Nat
  | [] => 0
  | x :: r => uptoBulkEntry x + uptoBulkEntries r
def uptoBulkEntry {H : Type} : Lit × DataW H → Nat
  | (.string bytes, d) => bytes.length + uptoBulk d + 1
  | (_, d) => uptoBulk d + 1
 end
def uptoSmall : (H : Type) → List (DataW H) → Bool := fun _ ds => decide (uptoBulkAll ds ≤ 1048576)
def OpenSpec.upto (s : _root_.Go.ChangeSpec) : _root_.Go.OpenSpec := { _root_.Go.OpenSpec.ofChange s with cond := some uptoSmall }

/-- 'laws.FnWords', WHERE WHAT IT READS IS OF BULK AT MOST 1048576: true; the input reads as it did. -/
def fnWordsUptoRow : OpenClaim := { program := "ytbfffjnfbahiiaa", sum := "b7ea3b125a5acef74da98a9a07138ca04a278506102378df44342d224e480f24", func := "loop.example/handrail/laws.FnWords", spec := "fnWords", apart := false, narrowed := true }
def FnWordsUptoSaid : Prop := fnWordsUptoRow.holds Try.pinned (OpenSpec.upto fnWordsSpec)

/-- 'laws.FnExactWordMake', WHERE WHAT IT READS IS OF BULK AT MOST 1048576: true; the input reads as it did. -/
def fnExactWordMakeUptoRow : OpenClaim := { program := "ytbfffjnfbahiiaa", sum := "b7ea3b125a5acef74da98a9a07138ca04a278506102378df44342d224e480f24", func := "loop.example/handrail/laws.FnExactWordMake", spec := "fnExactWordMake", apart := false, narrowed := true }
def FnExactWordMakeUptoSaid : Prop := fnExactWordMakeUptoRow.holds Try.pinned (OpenSpec.upto fnExactWordMakeSpec)

/-- 'laws.FnExactWordTag', WHERE WHAT IT READS IS OF BULK AT MOST 1048576: true; the input reads as it did. -/
def fnExactWordTagUptoRow : OpenClaim := { program := "ytbfffjnfbahiiaa", sum := "b7ea3b125a5acef74da98a9a07138ca04a278506102378df44342d224e480f24", func := "loop.example/handrail/laws.FnExactWordTag", spec := "fnExactWordTag", apart := false, narrowed := true }
def FnExactWordTagUptoSaid : Prop := fnExactWordTagUptoRow.holds Try.pinned (OpenSpec.upto fnExactWordTagSpec)

/-- 'laws.FnExactWordNum', WHERE WHAT IT READS IS OF BULK AT MOST 1048576: true; the input reads as it did. -/
def fnExactWordNumUptoRow : OpenClaim := { program := "ytbfffjnfbahiiaa", sum := "b7ea3b125a5acef74da98a9a07138ca04a278506102378df44342d224e480f24", func := "loop.example/handrail/laws.FnExactWordNum", spec := "fnExactWordNum", apart := false, narrowed := true }
def FnExactWordNumUptoSaid : Prop := fnExactWordNumUptoRow.holds Try.pinned (OpenSpec.upto fnExactWordNumSpec)

/-- 'laws.FnExactObjFields', WHERE WHAT IT READS IS OF BULK AT MOST 1048576: true; the input reads as it did. -/
def fnExactObjFieldsUptoRow : OpenClaim := { program := "ytbfffjnfbahiiaa", sum := "b7ea3b125a5acef74da98a9a07138ca04a278506102378df44342d224e480f24", func := "loop.example/handrail/laws.FnExactObjFields", spec := "fnExactObjFields", apart := false, narrowed := true }
def FnExactObjFieldsUptoSaid : Prop := fnExactObjFieldsUptoRow.holds Try.pinned (OpenSpec.upto fnExactObjFieldsSpec)

/-- 'laws.FnExactHeapNew', WHERE WHAT IT READS IS OF BULK AT MOST 1048576: true; the input reads as it did. -/
def fnExactHeapNewUptoRow : OpenClaim := { program := "ytbfffjnfbahiiaa", sum := "b7ea3b125a5acef74da98a9a07138ca04a278506102378df44342d224e480f24", func := "loop.example/handrail/laws.FnExactHeapNew", spec := "fnExactHeapNew", apart := false, narrowed := true }
def FnExactHeapNewUptoSaid : Prop := fnExactHeapNewUptoRow.holds Try.pinned (OpenSpec.upto fnExactHeapNewSpec)

end Rows
end Go.Proofs.Ytbfffjnfbahiiaa
