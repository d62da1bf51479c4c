/- At every list of nodes the program tells as the specification whether they are a tree, and the list is unchanged; no condition. -/
import Derived.Test.YtegolepjpmbchaaNodeArgs
import Derived.Test.YtegolepjpmbchaaSpecTree
import Derived.Test.YtegolepjpmbchaaImplTree
import Derived.OpenShut
namespace Go.Proofs.Ytegolepjpmbchaa.fnExactTreeOk
open Go.ChangeShapes Go.WideShapes Go.ChangeAt Go.RowKit

theorem own : ownKnob Try.prog.godebug = none := by kernel_rfl
theorem laidOut : laidOutB Try.prog = true := by kernel_rfl

set_option maxRecDepth 100000 in
theorem walk {v : Value} {ns : List Nd} (w : World) (hv : NodeSlice w v ns) (hs : Short ns) (hm : ns.length ≤ maxLen) :
    Calls Try.prog 3 #[v] w fun e w' => e = .returned (.bool true) ∧ Below w.heap.size w w' := by
  obtain ⟨R, hSA, hIA⟩ := answers ns
  have HSA : Hid (SpecAns ns R) := hSA
  have HIA : Hid (ImplAns ns R) := hIA
  clear hSA hIA
  go_enter Try.func3, Try.ntmps3
  go_wp2_with fail
  refine (szNodeS_any 1048576 _ hv hs hm (by omega) (by omega)).mono ?_
  rintro e w1 ⟨⟨r, rfl, _, hr⟩, hb1⟩
  by_cases hneg : r < 0
  · go_wp2_with fail
    go_ret
    exact ⟨rfl, hb1⟩
  have hlen : ns.length ≤ 1048576 := hr.resolve_left hneg
  have HL : Hid (ns.length ≤ 1048576) := hlen
  clear hr hlen
  go_wp2_with fail
  refine (toNodeS_any _ (hv.below hb1) HL.out).mono ?_
  rintro e w2 ⟨rfl, hn2, hlt2, hb2⟩
  have hbb2 := hb1.trans (hb2.mono hb1.size)
  have Hn2 : Hid (NodesAt w2 w1.heap.size 0 ns) := hn2
  clear hn2 hb2 hb1
  go_wp2_with fail
  refine (specTree_calls _ _ _ ns _ R HL.out hlt2 Hn2.out HSA.out).mono ?_
  rintro e w3 ⟨rfl, hb3⟩
  have hbb3 := hbb2.trans (hb3.mono hbb2.size)
  clear Hn2 hlt2 hb3 hbb2
  go_wp2_with fail
  refine (toNodeS_any _ (hv.below hbb3) HL.out).mono ?_
  rintro e w4 ⟨rfl, hn4, hlt4, hb4⟩
  have hbb4 := hbb3.trans (hb4.mono hbb3.size)
  have Hn4 : Hid (NodesAt w4 w3.heap.size 0 ns) := hn4
  clear hn4 hb4 hbb3
  go_wp2_with fail
  refine (implTree_calls _ _ _ ns _ R HL.out hlt4 Hn4.out hs HIA.out).mono ?_
  rintro e w5 ⟨rfl, hb5⟩
  have hbb5 := hbb4.trans (hb5.mono hbb4.size)
  have Hn5 : Hid (NodesAt w5 w3.heap.size 0 ns) := Hn4.out.below hb5 hlt4
  have hlt5 : w3.heap.size < w5.heap.size := Nat.lt_of_lt_of_le hlt4 hb5.size
  clear Hn4 hlt4 hb5 hbb4
  have hRR : (R != R) = false := by cases R <;> rfl
  go_wp2_with fail
  refine (toNodeS_any _ (hv.below hbb5) HL.out).mono ?_
  rintro e w6 ⟨rfl, hn6, hlt6, hb6⟩
  have Hn5' : Hid (NodesAt w6 w3.heap.size 0 ns) := Hn5.out.below hb6 hlt5
  have hlt5' : w3.heap.size < w6.heap.size := Nat.lt_of_lt_of_le hlt5 hb6.size
  have hbb6 := hbb5.trans (hb6.mono hbb5.size)
  have Hn6 : Hid (NodesAt w6 w5.heap.size 0 ns) := hn6
  clear hn6 hb6 hbb5 Hn5
  go_wp2_with fail
  refine (eqNodeS_calls _ _ _ _ _ _ _ ns _ hlt5' hlt6 Hn5'.out Hn6.out (Nat.le_refl _) HL.out).mono ?_
  rintro e w7 ⟨rfl, hb7⟩
  go_wp2_with fail
  go_ret
  exact ⟨rfl, hbb6.trans (hb7.mono hbb6.size)⟩

set_option maxRecDepth 100000 in
theorem lifted (os : Os) (started : os.Started) (H : Type) (enc : TypeId × Value → H) :
    ReturnsInHanded {} Try.checked os 3 .any (Rows.fnExactTreeOkSpec.pre6 enc Try.prog Try.f3 Rows.fnExactTreeOkRow.domain false) (Rows.fnExactTreeOkSpec.post enc Try.prog Try.f3 false true false false) := by
  refine returnsInHanded_of_change (C := Try.checked) own started (by kernel_rfl) Try.func3
    (ChangeSpec.witness6 (enc := enc) (C := Try.checked) false ⟨#[], #[.slice none 0 0], []⟩ 8 (by kernel_rfl) (by kernel_rfl) (by kernel_rfl) (by kernel_rfl)) ?_
  intro W base args ds gs before hval0 hW hcnd _
  have hval : ∀ (j : Nat) t v, Try.f3.params[j]? = some t → args[j]? = some v → Value.okWide Try.prog W .any base t v := hval0
  have hW' := hW
  obtain ⟨p, q, hA0, hV, rfl, hfz, hnd⟩ := hW
  have hA : DataW.TrodAll enc Try.prog W 0 (fun _ => true) true Try.f3.params.toList args.toList ds p := hA0
  rw [Try.params3] at hA hval
  obtain ⟨v0, vs0, d0, ds0, p0, q0, hargs, rfl, rfl, h0, r0⟩ := trodAll_cons hA
  obtain ⟨rfl, rfl, rfl⟩ := trodAll_nil r0
  obtain rfl : args = #[v0] := by cases args; simp_all
  obtain ⟨rfl, rfl⟩ := trodVars_none hV
  clear hA0 hval0
  simp only [List.append_nil] at hW'
  have hlt : ∀ y ∈ p0, y.block < W.heap.size := fun y hy => by simpa using hW'.lt y (by simpa using hy)
  have h0k := h0
  obtain ⟨fuel, hf⟩ := h0
  obtain ⟨a0, len, cap, rfl⟩ := okWide_slice Try.underlying22 (hval 0 22 v0 rfl rfl)
  obtain ⟨ns, hN, hS, hM⟩ := open_nodes (by simpa [Value.cells] using hf)
  refine (walk W hN hS hM).mono fun e W' ⟨he, hg⟩ => ?_
  subst he
  refine ⟨_, rfl, _, _, _, [], p0, [], hW', ?_, ?_, rfl, hg.frame _, fun h => by cases h⟩
  · exact trodAll_cons_mk (shut_bool Try.underlying4 _) trodAll_mk0
  · exact trodAll_mk1 (Below.trod laidOut (by kernel_rfl) (of_decide_eq_true (by kernel_rfl)) h0k hg hlt)

theorem over : Rows.fnExactTreeOkRow.holds Try.pinned (OpenSpec.ofChange Rows.fnExactTreeOkSpec) :=
  OpenClaim.holds_of_wide 3 Try.f3 rfl rfl rfl rfl rfl rfl rfl ⟨rfl, rfl, rfl, rfl, rfl⟩ rfl rfl rfl rfl rfl (by kernel_rfl) Try.func3 (by kernel_rfl)
    (of_decide_eq_true (by kernel_rfl)) (by unfold Func.isWrapper; first | (rw [if_pos (by decide +kernel)]; kernel_rfl) | (rw [if_neg (by decide +kernel)]; exact ⟨rfl, rfl⟩))
    (fun os started H enc _ => lifted os started H enc)

theorem proved : Rows.FnExactTreeOkSaid :=
  over
#print axioms proved

end Go.Proofs.Ytegolepjpmbchaa.fnExactTreeOk
