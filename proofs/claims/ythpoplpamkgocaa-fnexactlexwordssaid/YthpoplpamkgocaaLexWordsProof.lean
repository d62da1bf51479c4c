/- At every text the program cuts the same words, and tells the same fault, as the specification; its list of words is memory of its own; no condition. -/
import Derived.Test.YthpoplpamkgocaaImplWords
import Derived.Test.YthpoplpamkgocaaWordRows
import Derived.OpenShut
namespace Go.Proofs.Ythpoplpamkgocaa.fnExactLexWords
open Go.ChangeShapes Go.WideShapes Go.ChangeAt Go.RowKit
open Go.ChangeMaps (open_string shut_string)

theorem own : ownKnob Try.prog.godebug = none := by kernel_rfl

set_option maxRecDepth 100000 in
theorem mark_none (ad : Option Addr) (cap : Nat) (w : World) :
    Calls Try.prog 8 #[.slice ad 0 cap, .int .i64 1] w fun e w' => e = .returned (.int .i64 1) ∧ Below w.heap.size w w' := by
  go_enter Try.func8, Try.ntmps8
  go_wp2
  refine wp_loop_rounds 1 ?_
  rw [rounds_succ]
  go_wp2
  go_ret
  exact ⟨rfl, Below.refl _ _⟩

set_option maxRecDepth 100000 in
theorem held_none (ad : Option Addr) (cap : Nat) (w : World) :
    Calls Try.prog 9 #[.slice ad 0 cap, .int .i64 1] w fun e w' => e = .returned (.int .i64 1) ∧ Below w.heap.size w w' := by
  go_enter Try.func9, Try.ntmps9
  go_wp2
  refine wp_loop_rounds 1 ?_
  rw [rounds_succ]
  go_wp2
  go_ret
  exact ⟨rfl, Below.refl _ _⟩

theorem mark_any {B n : Nat} {v : Value} {F : Nat → Value × Value × Value} (w : World) (hm : n ≤ 1509) (h : SliceOf B w v n F) :
    Calls Try.prog 8 #[v, .int .i64 1] w fun e w' => e = .returned (.int .i64 (1 + 3 * (n : Int))) ∧ SliceOf B w' v n (fun k => marks (1 + 3 * (k : Int))) ∧ ∃ gb, B ≤ gb ∧ w.grownBy w' (some gb) := by
  obtain ⟨ad, cap, rfl, h⟩ := h
  by_cases h0 : n = 0
  · subst h0
    refine (mark_none ad cap w).mono ?_
    rintro e w' ⟨rfl, hb⟩
    exact ⟨rfl, ⟨ad, cap, rfl, Or.inl rfl⟩, B, Nat.le_refl _, grown_of_below hb _⟩
  · obtain ⟨g, rfl, hB, hr⟩ := h.resolve_left h0
    refine (markWordS_rows g n cap F w hm hr).mono ?_
    rintro e w' ⟨rfl, hr', hg⟩
    exact ⟨rfl, ⟨_, cap, rfl, Or.inr ⟨g, rfl, hB, hr'⟩⟩, g, hB, hg⟩

theorem held_any {B n : Nat} {v : Value} (w : World) (hm : n ≤ 1509) (h : SliceOf B w v n (fun k => marks (1 + 3 * (k : Int)))) :
    Calls Try.prog 9 #[v, .int .i64 1] w fun e w' => e = .returned (.int .i64 (1 + 3 * (n : Int))) ∧ Below w.heap.size w w' := by
  obtain ⟨ad, cap, rfl, h⟩ := h
  by_cases h0 : n = 0
  · subst h0
    exact held_none ad cap w
  · obtain ⟨g, rfl, hB, hr⟩ := h.resolve_left h0
    exact heldWordS_rows g n cap w hm hr

theorem lexGo_length (s : ByteArray) : ∀ (f p : Nat) (ws : List Wd), (lexGo s f p ws).1.length ≤ ws.length + f
  | 0, _, _ => by simp [lexGo]
  | f + 1, p, ws => by
    unfold lexGo
    split
    · split
      · have := lexGo_length s f (p + 1) ws
        omega
      · split
        · simp
        · rename_i d e _
          have := lexGo_length s f e (ws ++ [d])
          simp at this
          omega
    · simp

theorem lexAll_length (s : ByteArray) : (lexAll s).1.length ≤ 1509 := by
  unfold lexAll
  split
  · simp
  · have := lexGo_length s s.size 0 []
    simp at this
    omega

set_option maxHeartbeats 2000000 in
set_option maxRecDepth 100000 in
theorem walk (a0 : ByteArray) (w : World) :
    Calls Try.prog 3 #[.string a0] w fun e w' => e = .returned (.bool true) ∧ Below w.heap.size w w' := by
  by_cases hbig : (a0.size : Int) > 1048576
  · go_enter Try.func3, Try.ntmps3
    go_wp2_with fail
    go_ret
    exact ⟨rfl, Below.refl _ _⟩
  have hlen := lexAll_length a0
  have hs := specWords_calls a0
  have hi := implWords_calls a0
  generalize lexAll a0 = R at *
  obtain ⟨ws, c, p⟩ := R
  have HS : Hid (∀ w, _) := hs
  have HI : Hid (∀ w, _) := hi
  clear hs hi
  go_enter Try.func3, Try.ntmps3
  go_wp2_with fail
  refine (HS.out _).mono ?_
  rintro e W1 ⟨⟨va, rfl, hva⟩, hb1⟩
  have hVa := slice_of_owns hva
  clear hva
  go_wp2_with fail
  have eF : (W1.alloc (.cells #[.int .i64 c, .int .i64 p] 24)).heap[W1.heap.size]? = some (.cells #[.int .i64 c, .int .i64 p] 24) := (MapKept.heap_alloc W1 _).1
  have hb2 : Below W1.heap.size W1 (W1.alloc (.cells #[.int .i64 c, .int .i64 p] 24)) := (Below.refl _ _).alloc (Nat.le_refl _) _
  have hsz2 : W1.heap.size < (W1.alloc (.cells #[.int .i64 c, .int .i64 p] 24)).heap.size := by simp
  generalize W1.alloc (.cells #[.int .i64 c, .int .i64 p] 24) = W2 at *
  refine (HI.out _).mono ?_
  rintro e W3 ⟨⟨vb, rfl, hvb⟩, hb3⟩
  have hVb := slice_of_owns hvb
  clear hvb
  go_wp2_with fail
  have eG : (W3.alloc (.cells #[.int .i64 c, .int .i64 p] 24)).heap[W3.heap.size]? = some (.cells #[.int .i64 c, .int .i64 p] 24) := (MapKept.heap_alloc W3 _).1
  have hb4 : Below W3.heap.size W3 (W3.alloc (.cells #[.int .i64 c, .int .i64 p] 24)) := (Below.refl _ _).alloc (Nat.le_refl _) _
  have hsz4 : W3.heap.size < (W3.alloc (.cells #[.int .i64 c, .int .i64 p] 24)).heap.size := by simp
  generalize W3.alloc (.cells #[.int .i64 c, .int .i64 p] 24) = W4 at *
  have k14 : Below W1.heap.size W1 W4 := hb2.trans ((hb3.mono hb2.size).trans (hb4.mono (Nat.le_trans hb2.size hb3.size)))
  have k24 : Below W2.heap.size W2 W4 := hb3.trans (hb4.mono hb3.size)
  clear hb2 hb3
  refine (eqWordS_calls _ hlen (hVb.below hb4) (hVa.below k14)).mono ?_
  rintro e W5 ⟨rfl, hb5⟩
  have k15 := k14.trans (hb5.mono k14.size)
  have k25 := k24.trans (hb5.mono k24.size)
  have k35 := hb4.trans (hb5.mono hb4.size)
  have eF5 := (k25.block W1.heap.size hsz2).trans eF
  have eG5 := (hb5.block W3.heap.size hsz4).trans eG
  have x0 := cell_of_heap eF5 0
  have x1 := cell_of_heap eF5 1
  have y0 := cell_of_heap eG5 0
  have y1 := cell_of_heap eG5 1
  simp at x0 x1 y0 y1
  clear eF5 eG5 eG hb4 hb5 k14 k24 hsz4
  go_wp2_with fail
  refine (eqFault_calls _ _ _).mono ?_
  rintro e W6 ⟨rfl, hb6⟩
  have k16 := k15.trans (hb6.mono k15.size)
  have k26 := k25.trans (hb6.mono k25.size)
  have k36 := k35.trans (hb6.mono k35.size)
  clear x0 x1 y0 y1 hb6 k15 k25 k35
  go_wp2_with fail
  refine (mark_any _ hlen (hVb.below k36)).mono ?_
  rintro e W7 ⟨rfl, hVm, gb, hgb, hgr⟩
  have k17 : Below W1.heap.size W1 W7 := k16.grown hgr k16.size (fun k hk => by cases hk; omega)
  have k27 : Below W2.heap.size W2 W7 := k26.grown hgr k26.size (fun k hk => by cases hk; omega)
  have hm0 : ¬ (1 + 3 * (ws.length : Int) < 0) := by omega
  clear hgr hgb k16 k26 k36 hVb
  go_wp2_with fail
  refine (held_any _ hlen hVm).mono ?_
  rintro e W8 ⟨rfl, hb8⟩
  have hVm8 := hVm.below hb8
  have k18 := k17.trans (hb8.mono k17.size)
  have k28 := k27.trans (hb8.mono k27.size)
  clear hVm hb8 k17 k27
  go_wp2_with fail
  refine (HI.out _).mono ?_
  rintro e W9 ⟨⟨vh, rfl, hvh⟩, hb9⟩
  have hVh := slice_of_owns hvh
  have hVm9 := hVm8.below hb9
  have k19 := k18.trans (hb9.mono k18.size)
  have k29 := k28.trans (hb9.mono k28.size)
  clear hvh hVm8 hb9 k18 k28 HI HS
  go_wp2_with fail
  have eH : (W9.alloc (.cells #[.int .i64 c, .int .i64 p] 24)).heap[W9.heap.size]? = some (.cells #[.int .i64 c, .int .i64 p] 24) := (MapKept.heap_alloc W9 _).1
  have hb10 : Below W9.heap.size W9 (W9.alloc (.cells #[.int .i64 c, .int .i64 p] 24)) := (Below.refl _ _).alloc (Nat.le_refl _) _
  have hsz10 : W9.heap.size < (W9.alloc (.cells #[.int .i64 c, .int .i64 p] 24)).heap.size := by simp
  generalize W9.alloc (.cells #[.int .i64 c, .int .i64 p] 24) = W10 at *
  have k1a := k19.trans (hb10.mono k19.size)
  have k2a := k29.trans (hb10.mono k29.size)
  have hVma := hVm9.below hb10
  refine (eqWordS_calls _ hlen (hVh.below hb10) (hVa.below k1a)).mono ?_
  rintro e W11 ⟨rfl, hb11⟩
  have k1b := k1a.trans (hb11.mono k1a.size)
  have k2b := k2a.trans (hb11.mono k2a.size)
  have hVmb := hVma.below hb11
  have eF5 := (k2b.block W1.heap.size hsz2).trans eF
  have eH5 := (hb11.block W9.heap.size hsz10).trans eH
  have x0 := cell_of_heap eF5 0
  have x1 := cell_of_heap eF5 1
  have y0 := cell_of_heap eH5 0
  have y1 := cell_of_heap eH5 1
  simp at x0 x1 y0 y1
  clear eF5 eH5 eF eH hb10 hb11 k1a k2a k19 k29 hVm9 hVma hsz10 hVh hVa
  go_wp2_with fail
  refine (eqFault_calls _ _ _).mono ?_
  rintro e W12 ⟨rfl, hb12⟩
  have hVmc := hVmb.below hb12
  have k1c := k1b.trans (hb12.mono k1b.size)
  clear x0 x1 y0 y1 hb12 k1b k2b hVmb
  go_wp2_with fail
  refine (held_any _ hlen hVmc).mono ?_
  rintro e W13 ⟨rfl, hb13⟩
  have k1d := k1c.trans (hb13.mono k1c.size)
  clear hb13 hVmc k1c
  go_wp2_with fail
  go_ret
  exact ⟨rfl, hb1.trans (k1d.mono hb1.size)⟩

set_option maxRecDepth 100000 in
theorem lifted (os : Os) (started : os.Started) (H : Type) (enc : TypeId × Value → H) :
    ReturnsInHanded {} Try.checked os 3 .any (Rows.fnExactLexWordsSpec.pre6 enc Try.prog Try.f3 Rows.fnExactLexWordsRow.domain false) (Rows.fnExactLexWordsSpec.post enc Try.prog Try.f3 false true false false) := by
  refine returnsInHanded_of_change (C := Try.checked) own started (by kernel_rfl) Try.func3
    (ChangeSpec.witness6 (enc := enc) (C := Try.checked) false ⟨#[], #[.string ByteArray.empty], []⟩ 8 (by kernel_rfl) (by kernel_rfl) (by kernel_rfl) (by kernel_rfl)) ?_
  intro W base args ds gs before hval0 hW hcnd _
  have hval : ∀ (j : Nat) t v, Try.f3.params[j]? = some t → args[j]? = some v → Value.okWide Try.prog W .any base t v := hval0
  have hW' := hW
  obtain ⟨p, q, hA0, hV, rfl, hfz, hnd⟩ := hW
  have hA : DataW.TrodAll enc Try.prog W 0 (fun _ => true) true Try.f3.params.toList args.toList ds p := hA0
  rw [Try.params3] at hA hval
  obtain ⟨v0, vs0, d0, ds0, p0, q0, hargs, rfl, rfl, h0, r0⟩ := trodAll_cons hA
  obtain ⟨rfl, rfl, rfl⟩ := trodAll_nil r0
  obtain rfl : args = #[v0] := by cases args; simp_all
  obtain ⟨rfl, rfl⟩ := trodVars_none hV
  obtain ⟨a0, rfl, rfl, rfl, w0⟩ := open_string Try.underlying9 (hval 0 9 v0 rfl rfl) h0
  clear hA0 hval0
  simp only [List.append_nil] at hW'
  refine (walk a0 W).mono fun e W' ⟨he, hg⟩ => ?_
  subst he
  refine ⟨_, rfl, _, _, _, [], [], [], hW', ?_, ?_, rfl, hg.frame _, fun h => by cases h⟩
  · exact trodAll_cons_mk (shut_bool Try.underlying4 _) trodAll_mk0
  · exact trodAll_cons_mk (shut_string Try.underlying9 w0) trodAll_mk0

theorem over : Rows.fnExactLexWordsRow.holds Try.pinned (OpenSpec.ofChange Rows.fnExactLexWordsSpec) :=
  OpenClaim.holds_of_wide 3 Try.f3 rfl rfl rfl rfl rfl rfl rfl ⟨rfl, rfl, rfl, rfl, rfl⟩ rfl rfl rfl rfl rfl (by kernel_rfl) Try.func3 (by kernel_rfl)
    (of_decide_eq_true (by kernel_rfl)) (by unfold Func.isWrapper; first | (rw [if_pos (by decide +kernel)]; kernel_rfl) | (rw [if_neg (by decide +kernel)]; exact ⟨rfl, rfl⟩))
    (fun os started H enc _ => lifted os started H enc)

theorem proved : Rows.FnExactLexWordsSaid :=
  over
#print axioms proved
end Go.Proofs.Ythpoplpamkgocaa.fnExactLexWords
