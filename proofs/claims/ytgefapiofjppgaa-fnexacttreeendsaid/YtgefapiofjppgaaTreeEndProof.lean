/- At every list of nodes and every number the program tells the same place behind a node as the specification, and the list is unchanged; no condition. -/
import Derived.Test.YtgefapiofjppgaaNodeArgs
import Derived.Test.YtgefapiofjppgaaEndWalks
import Derived.OpenShut
namespace Go.Proofs.Ytgefapiofjppgaa.fnExactTreeEnd
open Go.ChangeShapes Go.WideShapes Go.ChangeAt Go.RowKit

theorem own : ownKnob Try.prog.godebug = none := by kernel_rfl
theorem laidOut : laidOutB Try.prog = true := by kernel_rfl

set_option maxRecDepth 100000 in
theorem walk {v : Value} {ns : List Nd} (at_ : Int) (w : World) (hv : NodeSlice w v ns) (hs : Short ns) (hm : ns.length ≤ maxLen) (hat : at_ ≤ 9223372036854775807) :
    Calls Try.prog 5 #[v, .int .i64 at_] w fun e w' => e = .returned (.bool true) ∧ Below w.heap.size w w' := by
  have Hat : Hid (at_ ≤ 9223372036854775807) := hat
  clear hat
  go_enter Try.func5, Try.ntmps5
  go_wp2_with fail
  refine (szNodeS_any 1048576 _ hv hs hm (by omega) (by omega)).mono ?_
  rintro e w1 ⟨⟨r, rfl, _, hr⟩, hb1⟩
  by_cases hneg : r < 0
  · go_wp2_with fail
    go_ret
    exact ⟨rfl, hb1⟩
  have hlen : ns.length ≤ 1048576 := hr.resolve_left hneg
  clear hr
  go_wp2_with fail
  refine (toNodeS_any _ (hv.below hb1) hlen).mono ?_
  rintro e w2 ⟨rfl, hn2, hlt2, hb2⟩
  have hbb2 := hb1.trans (hb2.mono hb1.size)
  have Hn2 : Hid (NodesAt w2 w1.heap.size 0 ns) := hn2
  clear hn2 hb2 hb1
  go_wp2_with fail
  refine (specEnd_calls _ _ _ ns at_ _ Hn2.out hlen).mono ?_
  rintro e w3 ⟨rfl, rfl⟩
  clear Hn2 hlt2
  go_wp2_with fail
  refine (toNodeS_any _ (hv.below hbb2) hlen).mono ?_
  rintro e w3 ⟨rfl, hn3, hlt3, hb3⟩
  have hbb3 := hbb2.trans (hb3.mono hbb2.size)
  have Hn3 : Hid (NodesAt w3 w2.heap.size 0 ns) := hn3
  clear hn3 hb3 hbb2
  go_wp2_with fail
  refine (implEnd_calls _ _ _ ns at_ _ Hn3.out hlen Hat.out).mono ?_
  rintro e w4 ⟨rfl, rfl⟩
  go_wp2_with fail
  refine (toNodeS_any _ (hv.below hbb3) hlen).mono ?_
  rintro e w4 ⟨rfl, hn4, hlt4, hb4⟩
  have Hn3' : Hid (NodesAt w4 w2.heap.size 0 ns) := Hn3.out.below hb4 hlt3
  have hlt3' : w2.heap.size < w4.heap.size := Nat.lt_of_lt_of_le hlt3 hb4.size
  have hbb4 := hbb3.trans (hb4.mono hbb3.size)
  have Hn4 : Hid (NodesAt w4 w3.heap.size 0 ns) := hn4
  clear hn4 hb4 hbb3 Hn3
  go_wp2_with fail
  refine (eqNodeS_calls _ _ _ _ _ _ _ ns _ hlt3' hlt4 Hn3'.out Hn4.out (Nat.le_refl _) hlen).mono ?_
  rintro e w5 ⟨rfl, hb5⟩
  go_wp2_with fail
  go_ret
  exact ⟨rfl, hbb4.trans (hb5.mono hbb4.size)⟩

set_option maxRecDepth 100000 in
theorem lifted (os : Os) (started : os.Started) (H : Type) (enc : TypeId × Value → H) :
    ReturnsInHanded {} Try.checked os 5 .any (Rows.fnExactTreeEndSpec.pre6 enc Try.prog Try.f5 Rows.fnExactTreeEndRow.domain false) (Rows.fnExactTreeEndSpec.post enc Try.prog Try.f5 false true false false) := by
  refine returnsInHanded_of_change (C := Try.checked) own started (by kernel_rfl) Try.func5
    (ChangeSpec.witness6 (enc := enc) (C := Try.checked) false ⟨#[], #[.slice none 0 0, .int .i64 0], []⟩ 8 (by kernel_rfl) (by kernel_rfl) (by kernel_rfl) (by kernel_rfl)) ?_
  intro W base args ds gs before hval0 hW hcnd _
  have hval : ∀ (j : Nat) t v, Try.f5.params[j]? = some t → args[j]? = some v → Value.okWide Try.prog W .any base t v := hval0
  have hW' := hW
  obtain ⟨p, q, hA0, hV, rfl, hfz, hnd⟩ := hW
  have hA : DataW.TrodAll enc Try.prog W 0 (fun _ => true) true Try.f5.params.toList args.toList ds p := hA0
  rw [Try.params5] at hA hval
  obtain ⟨v0, v1, d0, d1, p0, p1, rfl, rfl, rfl, h0, h1⟩ := trodAll_two hA
  obtain ⟨rfl, rfl⟩ := trodVars_none hV
  obtain ⟨x, rfl, rfl, rfl, wx⟩ := open_int Try.underlying3 (hval 1 3 v1 rfl rfl) h1
  clear hA0 hval0
  simp only [List.append_nil] at hW'
  have hlt : ∀ y ∈ p0, y.block < W.heap.size := fun y hy => by simpa using hW'.lt y (by simpa using hy)
  have h0k := h0
  obtain ⟨fuel, hf⟩ := h0
  obtain ⟨a0, len, cap, rfl⟩ := okWide_slice Try.underlying23 (hval 0 23 v0 rfl rfl)
  obtain ⟨ns, hN, hS, hM⟩ := open_nodes (by simpa [Value.cells] using hf)
  have hx : x ≤ 9223372036854775807 := (bounds_i64 wx).2
  refine (walk x W hN hS hM hx).mono fun e W' ⟨he, hg⟩ => ?_
  subst he
  refine ⟨_, rfl, _, _, _, [], p0 ++ [], [], hW', ?_, ?_, rfl, hg.frame _, fun h => by cases h⟩
  · exact trodAll_cons_mk (shut_bool Try.underlying4 _) trodAll_mk0
  · exact trodAll_mk2 (Below.trod laidOut (by kernel_rfl) (of_decide_eq_true (by kernel_rfl)) h0k hg hlt) (shut_int Try.underlying3 wx)

theorem over : Rows.fnExactTreeEndRow.holds Try.pinned (OpenSpec.ofChange Rows.fnExactTreeEndSpec) :=
  OpenClaim.holds_of_wide 5 Try.f5 rfl rfl rfl rfl rfl rfl rfl ⟨rfl, rfl, rfl, rfl, rfl⟩ rfl rfl rfl rfl rfl (by kernel_rfl) Try.func5 (by kernel_rfl)
    (of_decide_eq_true (by kernel_rfl)) (by unfold Func.isWrapper; first | (rw [if_pos (by decide +kernel)]; kernel_rfl) | (rw [if_neg (by decide +kernel)]; exact ⟨rfl, rfl⟩))
    (fun os started H enc _ => lifted os started H enc)

theorem proved : Rows.FnExactTreeEndSaid :=
  over
#print axioms proved

end Go.Proofs.Ytgefapiofjppgaa.fnExactTreeEnd
