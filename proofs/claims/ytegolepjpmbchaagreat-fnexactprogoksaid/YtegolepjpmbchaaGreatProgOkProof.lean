/- At every program the program tells as the specification whether it may be, and the program is unchanged; no condition. -/
import Derived.Test.YtegolepjpmbchaaGreatProgArgs
import Derived.Test.YtegolepjpmbchaaGreatSpecTree
import Derived.Test.YtegolepjpmbchaaGreatImplTree
import Derived.Test.YtegolepjpmbchaaGreatSpecProg
import Derived.Test.YtegolepjpmbchaaGreatImplProg
import Derived.OpenShut
namespace Go.Proofs.YtegolepjpmbchaaGreat.fnExactProgOk
open Go.ChangeShapes Go.WideShapes Go.ChangeAt Go.RowKit

theorem hid' {p : Prop} (h : p) : Hid p := h
theorem own : ownKnob Tryz.prog.godebug = none := by kernel_rfl
theorem laidOut : laidOutB Tryz.prog = true := by kernel_rfl

set_option maxHeartbeats 1000000 in
set_option maxRecDepth 100000 in
theorem walk {v0 v1 : Value} {es : List Ef} {ns : List Nd} (w : World) (h0 : EffSlice w v0 es) (s0 : EfShort es) (m0 : es.length ≤ maxLen) (h1 : NodeSlice w v1 ns) (s1 : Short ns) (m1 : ns.length ≤ maxLen) :
    Calls Tryz.prog 3 #[.agg #[v0, v1]] w fun e w' => e = .returned (.bool true) ∧ Below w.heap.size w w' := by
  obtain ⟨T, hSA, hIA⟩ := answers ns
  have HSA : Hid (SpecAns ns T) := hSA
  have HIA : Hid (ImplAns ns T) := hIA
  have HE : Hid (EffSlice w v0 es ∧ NodeSlice w v1 ns) := ⟨h0, h1⟩
  have HS : Hid (EfShort es ∧ Short ns) := ⟨s0, s1⟩
  have HZ : Hid (∀ w', Below w.heap.size w w' → Calls Tryz.prog 4 #[.agg #[v0, v1], .int .i64 1048576] w' fun e w'' => (∃ r : Int, e = .returned (.int .i64 r) ∧ (r < 0 ∨ (es.length ≤ 1048576 ∧ ns.length ≤ 1048576))) ∧ Below w'.heap.size w' w'') :=
    fun w' hb => szProg_calls 1048576 w' (h0.below hb) s0 m0 (h1.below hb) s1 m1 (by omega) (by omega)
  clear hSA hIA h0 h1 s0 s1 m0 m1
  have hbA : Below w.heap.size w (w.alloc (.cells #[v0, v1] 25)) := (Below.refl _ _).alloc (Nat.le_refl _) _
  have HbA : Hid (Below w.heap.size w (w.alloc (.cells #[v0, v1] 25))) := hbA
  have HkA : Hid ((w.alloc (.cells #[v0, v1] 25)).heap[w.heap.size]? = some (.cells #[v0, v1] 25)) := (MapKept.heap_alloc w _).1
  clear hbA
  go_enter Tryz.func3, Tryz.ntmps3
  go_wp2_with fail
  refine (HZ.out _ HbA.out).mono ?_
  rintro e w1 ⟨⟨r, rfl, hr⟩, hb1⟩
  have k1 := HbA.out.trans (hb1.mono HbA.out.size)
  have b1 := (hb1.block w.heap.size (by simp)).trans HkA.out
  clear hb1 HZ HbA HkA
  by_cases hneg : r < 0
  · go_wp2_with fail
    go_ret
    exact ⟨rfl, k1⟩
  have HL : Hid (es.length ≤ 1048576 ∧ ns.length ≤ 1048576) := hr.resolve_left hneg
  clear hr
  have q0 := cell_of_heap b1 0
  have q1 := cell_of_heap b1 1
  simp at q0 q1
  go_wp2_with fail
  refine (toProg_calls _ (HE.out.1.below k1) HL.out.1 (HE.out.2.below k1) HL.out.2).mono ?_
  rintro e w2 ⟨be, bt, rfl, lbe, hE2, lbt, hN2, hb2⟩
  have HE2 : Hid (EffsAt w2 be 0 es ∧ NodesAt w2 bt 0 ns) := ⟨hE2, hN2⟩
  have k2 := k1.trans (hb2.mono k1.size)
  have b2 := (hb2.block w.heap.size (heap_lt b1)).trans b1
  clear hE2 hN2 hb2 k1 b1 q0 q1
  go_wp2_with fail
  refine (specProg_calls be bt es ns T w2 lbe lbt HE2.out.1 HE2.out.2 HL.out.1 HL.out.2 (fun w' hb hn => specTree_calls bt 0 ns.length ns w' T HL.out.2 hb hn HSA.out)).mono ?_
  rintro e w3 ⟨rfl, hb3⟩
  have k3 := k2.trans (hb3.mono k2.size)
  have b3 := (hb3.block w.heap.size (heap_lt b2)).trans b2
  clear hb3 k2 b2 lbe lbt HE2
  have HPI : Hid (∀ (be bt : Nat) (w' : World), be < w'.heap.size → bt < w'.heap.size → EffsAt w' be 0 es → NodesAt w' bt 0 ns → _) := fun be bt w' x1 x2 x3 x4 => implProg_calls be bt es ns T w' x1 x2 x3 x4 HL.out.1 HL.out.2 HS.out.1 (fun w' hb hn => implTree_calls bt 0 ns.length ns w' T HL.out.2 hb hn HS.out.2 HIA.out)
  generalize progZ es ns T = R at *
  have hRR : (R != R) = false := by cases R <;> rfl
  have q0 := cell_of_heap b3 0
  have q1 := cell_of_heap b3 1
  simp at q0 q1
  go_wp2_with fail
  refine (toProg_calls _ (HE.out.1.below k3) HL.out.1 (HE.out.2.below k3) HL.out.2).mono ?_
  rintro e w4 ⟨be4, bt4, rfl, lbe4, hE4, lbt4, hN4, hb4⟩
  have HE4 : Hid (EffsAt w4 be4 0 es ∧ NodesAt w4 bt4 0 ns) := ⟨hE4, hN4⟩
  have k4 := k3.trans (hb4.mono k3.size)
  have b4 := (hb4.block w.heap.size (heap_lt b3)).trans b3
  clear hE4 hN4 hb4 k3 b3 q0 q1
  have hb5 : Below w4.heap.size w4 (w4.alloc (.cells #[.slice (some ⟨be4, 0, none⟩) es.length es.length, .slice (some ⟨bt4, 0, none⟩) ns.length ns.length] 31)) := (Below.refl _ _).alloc (Nat.le_refl _) _
  have Hb5 := hid' hb5
  have Hx5 : Hid ((w4.alloc (.cells #[.slice (some ⟨be4, 0, none⟩) es.length es.length, .slice (some ⟨bt4, 0, none⟩) ns.length ns.length] 31)).heap[w4.heap.size]? = some (.cells #[.slice (some ⟨be4, 0, none⟩) es.length es.length, .slice (some ⟨bt4, 0, none⟩) ns.length ns.length] 31)) := (MapKept.heap_alloc w4 _).1
  clear hb5
  go_wp2_with fail
  refine (HPI.out be4 bt4 _ (Nat.lt_of_lt_of_le lbe4 Hb5.out.size) (Nat.lt_of_lt_of_le lbt4 Hb5.out.size) (HE4.out.1.below Hb5.out lbe4) (HE4.out.2.below Hb5.out lbt4)).mono ?_
  rintro e w6 ⟨rfl, hb6⟩
  have k46 : Below w4.heap.size w4 w6 := Hb5.out.trans (hb6.mono Hb5.out.size)
  have x6 := (hb6.block w4.heap.size (by simp)).trans Hx5.out
  have k6 := k4.trans (k46.mono k4.size)
  have b6 := (k46.block w.heap.size (heap_lt b4)).trans b4
  have HE6 : Hid (EffsAt w6 be4 0 es ∧ NodesAt w6 bt4 0 ns) := ⟨HE4.out.1.below k46 lbe4, HE4.out.2.below k46 lbt4⟩
  have lbe6 := Nat.lt_of_lt_of_le lbe4 k46.size
  have lbt6 := Nat.lt_of_lt_of_le lbt4 k46.size
  clear hb6 k46 k4 b4 HE4 HPI Hb5 Hx5 lbe4 lbt4
  have q0 := cell_of_heap b6 0
  have q1 := cell_of_heap b6 1
  have r0 := cell_of_heap x6 0
  have r1 := cell_of_heap x6 1
  simp at q0 q1 r0 r1
  have hltx := heap_lt x6
  generalize w4.heap.size = Bx at *
  clear b6 x6
  go_wp2_with fail
  go_region_with (first
    | (go_at_call 6; refine (toProg_calls _ (HE.out.1.below k6.drew) HL.out.1 (HE.out.2.below k6.drew) HL.out.2).mono ?_; rintro e w7 ⟨be7, bt7, rfl, lbe7, hE7, lbt7, hN7, hb7⟩; have r0' := (hb7.cell (p := ⟨Bx, 0, none⟩) hltx).trans r0; have r1' := (hb7.cell (p := ⟨Bx, 1, none⟩) hltx).trans r1)
    | (go_at_call 8; refine (eqProg_calls be4 bt4 be7 bt7 es ns _ (Nat.lt_of_lt_of_le lbe6 hb7.size) (Nat.lt_of_lt_of_le lbt6 hb7.size) lbe7 lbt7 (EffsAt.below (w := w6.drew) HE6.out.1 hb7 lbe6) (NodesAt.below (w := w6.drew) HE6.out.2 hb7 lbt6) hE7 hN7 HL.out.1 HL.out.2).mono ?_; rintro e w8 ⟨rfl, hb8⟩))
  all_goals
    have k7 := k6.drew.trans (hb7.mono k6.size)
    have k8 := k7.trans (hb8.mono k7.size)
    clear hb7 hb8 hE7 hN7 r0' r1' q0 q1 r0 r1
    go_wp2_with fail
    go_ret
    exact ⟨rfl, k8⟩

set_option maxRecDepth 100000 in
theorem lifted (os : Os) (started : os.Started) (H : Type) (enc : TypeId × Value → H) :
    ReturnsInHanded {} Tryz.checked os 3 .any (Rows.fnExactProgOkSpec.pre6 enc Tryz.prog Tryz.f3 Rows.fnExactProgOkRow.domain false) (Rows.fnExactProgOkSpec.post enc Tryz.prog Tryz.f3 false true false false) := by
  refine returnsInHanded_of_change (C := Tryz.checked) own started (by kernel_rfl) Tryz.func3
    (ChangeSpec.witness6 (enc := enc) (C := Tryz.checked) false ⟨#[], #[.agg #[.slice none 0 0, .slice none 0 0]], []⟩ 8 (by kernel_rfl) (by kernel_rfl) (by kernel_rfl) (by kernel_rfl)) ?_
  intro W base args ds gs before hval0 hW hcnd _
  have hval : ∀ (j : Nat) t v, Tryz.f3.params[j]? = some t → args[j]? = some v → Value.okWide Tryz.prog W .any base t v := hval0
  have hW' := hW
  obtain ⟨p, q, hA0, hV, rfl, hfz, hnd⟩ := hW
  have hA : DataW.TrodAll enc Tryz.prog W 0 (fun _ => true) true Tryz.f3.params.toList args.toList ds p := hA0
  rw [Tryz.params3] at hA hval
  obtain ⟨v0, vs0, d0, ds0, p0, q0, hargs, rfl, rfl, h0, r0⟩ := trodAll_cons hA
  obtain ⟨rfl, rfl, rfl⟩ := trodAll_nil r0
  obtain rfl : args = #[v0] := by cases args; simp_all
  obtain ⟨rfl, rfl⟩ := trodVars_none hV
  clear hA0 hval0
  simp only [List.append_nil] at hW'
  have hlt : ∀ y ∈ p0, y.block < W.heap.size := fun y hy => by simpa using hW'.lt y (by simpa using hy)
  have h0k := h0
  obtain ⟨fuel, hf⟩ := h0
  obtain ⟨cs, rfl, hcs⟩ := okWide_struct Tryz.underlying25 (hval 0 25 v0 rfl rfl)
  obtain ⟨c0, c1, es, ns, hcc, hE, sE, mE, hN, sN, mN⟩ := open_prog hf
  obtain rfl : cs = #[c0, c1] := by
    cases cs
    simp [Value.cells] at hcc
    simp [hcc]
  refine (walk W hE sE mE hN sN mN).mono fun e W' ⟨he, hg⟩ => ?_
  subst he
  refine ⟨_, rfl, _, _, _, [], p0, [], hW', ?_, ?_, rfl, hg.frame _, fun h => by cases h⟩
  · exact trodAll_cons_mk (shut_bool Tryz.underlying4 _) trodAll_mk0
  · exact trodAll_mk1 (Below.trod laidOut (by kernel_rfl) (of_decide_eq_true (by kernel_rfl)) h0k hg hlt)

theorem over : Rows.fnExactProgOkRow.holds Tryz.pinned (OpenSpec.ofChange Rows.fnExactProgOkSpec) :=
  OpenClaim.holds_of_wide 3 Tryz.f3 rfl rfl rfl rfl rfl rfl rfl ⟨rfl, rfl, rfl, rfl, rfl⟩ rfl rfl rfl rfl rfl (by kernel_rfl) Tryz.func3 (by kernel_rfl)
    (of_decide_eq_true (by kernel_rfl)) (by unfold Func.isWrapper; first | (rw [if_pos (by decide +kernel)]; kernel_rfl) | (rw [if_neg (by decide +kernel)]; exact ⟨rfl, rfl⟩))
    (fun os started H enc _ => lifted os started H enc)

theorem proved : Rows.FnExactProgOkSaid :=
  over
#print axioms proved
end Go.Proofs.YtegolepjpmbchaaGreat.fnExactProgOk
