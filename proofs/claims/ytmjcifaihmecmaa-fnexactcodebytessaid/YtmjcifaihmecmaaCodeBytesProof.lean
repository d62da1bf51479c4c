/- At every list of instructions the program writes the same bytes, and tells the same, as the specification; its answer is memory of its own; no condition. -/
import Derived.Test.YtmjcifaihmecmaaSpecBytes
import Derived.Test.YtmjcifaihmecmaaImplBytesB
import Derived.Test.YtmjcifaihmecmaaInsMarks
import Derived.Test.YtmjcifaihmecmaaByteMarks
import Derived.OpenShut
namespace Go.Proofs.Ytmjcifaihmecmaa.fnExactCodeBytes
open Go.ChangeShapes Go.WideShapes Go.ChangeAt Go.RowKit

theorem own : ownKnob Try.prog.godebug = none := by kernel_rfl
theorem laidOut : laidOutB Try.prog = true := by kernel_rfl

theorem ok_nil : codeOkZ [] = true := rfl
theorem bytes_nil : codeBytesZ [] = headBytes := rfl

set_option maxRecDepth 100000 in
theorem spec_none (ad : Option Addr) (cap : Nat) (w : World) :
    Calls Try.prog 10 #[.slice ad 0 cap] w fun e w' => (∃ v, e = .returned (.tuple #[v, .bool true]) ∧ OwnsB w.heap.size w' v headBytes) ∧ Below w.heap.size w w' := by
  go_enter Try.func10, Try.ntmps10
  go_wp2
  refine wp_loop_rounds 1 ?_
  rw [rounds_succ]
  go_wp2
  go_ret2
  exact ⟨⟨_, rfl, head_owns w⟩, (Below.refl _ _).alloc (Nat.le_refl _) _⟩

set_option maxRecDepth 100000 in
theorem index_none (ad : Option Addr) (cap : Nat) (f : Value) (w : World) :
    Calls Try.prog 38 #[.slice ad 0 cap, f] w fun e w' => e = .returned (.int .i64 (-1)) ∧ w = w' := by
  go_enter Try.func38, Try.ntmps38
  go_wp2
  refine wp_loop_rounds 1 ?_
  rw [rounds_succ]
  go_wp2
  go_ret
  exact ⟨rfl, rfl⟩

set_option maxRecDepth 100000 in
theorem contains_none (ad : Option Addr) (cap : Nat) (f : Value) (w : World) :
    Calls Try.prog 33 #[.slice ad 0 cap, f] w fun e w' => e = .returned (.bool false) ∧ w = w' := by
  go_enter Try.func33, Try.ntmps33
  go_wp2_with fail
  refine (index_none _ _ _ _).mono ?_
  rintro e w1 ⟨rfl, rfl⟩
  go_wp2_with fail
  go_ret
  exact ⟨rfl, rfl⟩

set_option maxRecDepth 100000 in
theorem list_none (ad : Option Addr) (cap : Nat) (w : World) :
    Calls Try.prog 25 #[.slice ad 0 cap] w fun e w' => e = .returned (.bool true) ∧ w = w' := by
  go_enter Try.func25, Try.ntmps25
  go_wp2_with fail
  refine (contains_none _ _ _ _).mono ?_
  rintro e w1 ⟨rfl, rfl⟩
  go_wp2_with fail
  go_ret
  exact ⟨rfl, rfl⟩

set_option maxRecDepth 100000 in
theorem impl_none (ad : Option Addr) (cap : Nat) (w : World) :
    Calls Try.prog 12 #[.slice ad 0 cap] w fun e w' => (∃ v, e = .returned (.tuple #[v, .bool true]) ∧ OutB w.heap.size w' v headBytes) ∧ Below w.heap.size w w' := by
  have hcv := Joins.run_convert_bytes_const_at (P := Try.prog) w 30 5 #[.int .u8 104, .int .u8 114, .int .u8 49] 3 3 w.heap.size rfl Try.underlying30 Try.underlying5
  go_enter Try.func12, Try.ntmps12
  go_wp2_with fail
  refine (list_none _ _ _).mono ?_
  rintro e w1 ⟨rfl, rfl⟩
  go_wp2_with fail
  refine wp_loop_rounds 1 ?_
  rw [rounds_succ]
  go_wp2
  go_ret2
  exact ⟨⟨_, rfl, Or.inr ⟨rfl, _, rfl, Nat.le_refl _, (MapKept.heap_alloc w _).1⟩⟩, (Below.refl _ _).alloc (Nat.le_refl _) _⟩

theorem spec_any {v : Value} {cs : List In} (w : World) (h : InsSlice w v cs) :
    Calls Try.prog 10 #[v] w fun e w' => (∃ v', e = .returned (.tuple #[v', .bool (codeOkZ cs)]) ∧ OwnsB w.heap.size w' v' (if codeOkZ cs then codeBytesZ cs else [])) ∧ Below w.heap.size w w' := by
  obtain ⟨ad, cap, rfl, h⟩ := h
  by_cases h0 : cs = []
  · subst h0
    exact spec_none ad cap w
  · obtain ⟨g, o, rfl, hb, hr⟩ := h.resolve_left h0
    exact specBytes_calls g o cap cs w hb hr

theorem impl_any {v : Value} {cs : List In} (w : World) (h : InsSlice w v cs) :
    Calls Try.prog 12 #[v] w fun e w' => (∃ v', e = .returned (.tuple #[v', .bool (codeOkZ cs)]) ∧ OutB w.heap.size w' v' (if codeOkZ cs then codeBytesZ cs else [])) ∧ Below w.heap.size w w' := by
  obtain ⟨ad, cap, rfl, h⟩ := h
  by_cases h0 : cs = []
  · subst h0
    exact impl_none ad cap w
  · obtain ⟨g, o, rfl, hb, hr⟩ := h.resolve_left h0
    exact implBytes_calls g o cap cs w hb hr

theorem ans_length (cs : List In) : (if codeOkZ cs then codeBytesZ cs else []).length ≤ 1048576 := by
  split
  · rename_i h
    unfold codeOkZ at h
    rw [Bool.and_eq_true] at h
    have h1 := of_decide_eq_true h.1
    have h2 := code_length cs
    simp only [codeBytesZ, headBytes, List.length_append, List.length_cons, List.length_nil]
    omega
  · simp

set_option maxHeartbeats 2000000 in
set_option maxRecDepth 100000 in
theorem walk {v : Value} {cs : List In} (w : World) (hv : InsSlice w v cs) (hm : cs.length ≤ maxLen) :
    Calls Try.prog 4 #[v] w fun e w' => e = .returned (.bool true) ∧ Below w.heap.size w w' := by
  have hv' := hv
  obtain ⟨a0, cap, hvv, _⟩ := hv'
  have HSZ : Hid (∀ w, Calls Try.prog 9 #[v, .int .i64 1048576] w fun e w' => (∃ r : Int, e = .returned (.int .i64 r) ∧ (r < 0 ∨ (0 ≤ r ∧ cs.length ≤ 1048576))) ∧ w = w') := fun w => by rw [hvv]; exact szInsS_calls a0 cs.length cap w hm
  clear hvv hm
  have HS : Hid (∀ (w : World) (v : Value), InsSlice w v cs → _) := fun w v h => spec_any (cs := cs) w h
  have HI : Hid (∀ (w : World) (v : Value), InsSlice w v cs → _) := fun w v h => impl_any (cs := cs) w h
  have hal := ans_length cs
  have HAL : Hid ((if codeOkZ cs then codeBytesZ cs else []).length ≤ 1048576) := hal
  clear hal
  generalize (if codeOkZ cs then codeBytesZ cs else []) = ans at *
  generalize codeOkZ cs = ok at *
  have HV : Hid (InsSlice w v cs) := hv
  clear hv
  go_enter Try.func4, Try.ntmps4
  go_wp2_with fail
  refine (HSZ.out _).mono ?_
  rintro e W0 ⟨⟨r, rfl, hr⟩, rfl⟩
  by_cases hneg : r < 0
  · go_wp2_with fail
    go_ret
    exact ⟨rfl, Below.refl _ _⟩
  have HL : Hid (cs.length ≤ 1048576) := (hr.resolve_left hneg).2
  clear hr HSZ
  go_wp2_with fail
  refine (toInsS_any _ HV.out HL.out).mono ?_
  rintro e W1 ⟨⟨v1, rfl, hs1⟩, hb1⟩
  have HS1 : Hid (InsSlice W1 v1 cs) := hs1.insSlice
  clear hs1
  go_wp2_with fail
  refine (HS.out _ _ HS1.out).mono ?_
  rintro e W2 ⟨⟨va, rfl, hva⟩, hb2⟩
  have hVa : SliceR 5 1 W1.heap.size W2 va ans.length (byteCells ans) := byteSliceR_of_owns hva
  have k02 := hb1.trans (hb2.mono hb1.size)
  clear hva HS HS1 hb1 hb2
  have HVa : Hid (SliceR 5 1 W1.heap.size W2 va ans.length (byteCells ans)) := hVa
  have HVaLt : Hid (ans.length ≠ 0 → ∃ g, va.ownBlock = some g ∧ W1.heap.size ≤ g ∧ g < W2.heap.size) := fun h0 => hVa.block h0
  clear hVa
  go_wp2_with fail
  refine (toInsS_any _ (HV.out.below k02) HL.out).mono ?_
  rintro e W3 ⟨⟨v3, rfl, hs3⟩, hb3⟩
  have HS3 : Hid (SliceR 25 4 W2.heap.size W3 v3 cs.length (insCells cs)) := hs3
  have k23 := hb3
  have k03 := k02.trans (hb3.mono k02.size)
  clear hs3 hb3
  go_wp2_with fail
  refine (HI.out _ _ HS3.out.insSlice).mono ?_
  rintro e W4 ⟨⟨vb, rfl, hvb⟩, hb4⟩
  have HVb : Hid (SliceR 5 1 W3.heap.size W4 vb ans.length (byteCells ans)) := hvb.sliceR
  have k34 := hb4
  have k24 := k23.trans (hb4.mono k23.size)
  have k04 := k03.trans (hb4.mono k03.size)
  clear hvb hb4
  have HVa4 : Hid (SliceR 5 1 W1.heap.size W4 va ans.length (byteCells ans)) := HVa.out.below k24
  clear HVa
  go_wp2_with fail
  refine (eqByteS_any _ HAL.out HVb.out.byteSlice HVa4.out.byteSlice).mono ?_
  rintro e W5 ⟨rfl, hb5⟩
  have HD : Hid (W2.heap.size ≤ W3.heap.size ∧ w.heap.size ≤ W2.heap.size) := ⟨k23.size, k02.size⟩
  have k05 := k04.trans (hb5.mono k04.size)
  have HVa5 : Hid (SliceR 5 1 W1.heap.size W5 va ans.length (byteCells ans)) := HVa4.out.below hb5
  have HVb5 : Hid (SliceR 5 1 W3.heap.size W5 vb ans.length (byteCells ans)) := HVb.out.below hb5
  have HS5 : Hid (SliceR 25 4 W2.heap.size W5 v3 cs.length (insCells cs)) := (HS3.out.below k34).below hb5
  have HNa : Hid (ans.length ≠ 0 → ∃ g, va.ownBlock = some g ∧ g < W2.heap.size) := fun h0 => by
    obtain ⟨g, e, _, _⟩ := HVa4.out.block h0
    obtain ⟨g', e', _, hlt⟩ := HVaLt.out h0
    rw [e] at e'
    cases e'
    exact ⟨g, e, hlt⟩
  have HNb : Hid (ans.length ≠ 0 → ∃ g, vb.ownBlock = some g ∧ W3.heap.size ≤ g) := fun h0 => by
    obtain ⟨g, e, hB, _⟩ := HVb.out.block h0
    exact ⟨g, e, hB⟩
  have HN3 : Hid (cs.length ≠ 0 → ∃ g, v3.ownBlock = some g ∧ W2.heap.size ≤ g ∧ g < W3.heap.size) := fun h0 => HS3.out.block h0
  clear HVa4 HVb HS3 hb5 k04 k03 k02 k34 k24 k23 HVaLt
  cases ok
  all_goals
    go_wp2_with fail
    refine (toInsS_any _ (HV.out.below k05) HL.out).mono ?_
    rintro e W6 ⟨⟨v6, rfl, hs6⟩, hb6⟩
    have HS6 : Hid (InsSlice W6 v6 cs) := hs6.insSlice
    have HVa6 := hid (HVa5.out.below hb6)
    have HVb6 := hid (HVb5.out.below hb6)
    have HS6' := hid (HS5.out.below hb6)
    have k06 := k05.trans (hb6.mono k05.size)
    clear hs6 hb6 HVa5 HVb5 HS5 k05
    go_wp2_with fail
    refine (eqInsS_any _ HL.out HS6'.out.insSlice HS6.out).mono ?_
    rintro e W7 ⟨rfl, hb7⟩
    have HVa7 := hid (HVa6.out.below hb7)
    have HVb7 := hid (HVb6.out.below hb7)
    have HS7 := hid (HS6'.out.below hb7)
    have k07 := k06.trans (hb7.mono k06.size)
    clear HVa6 HVb6 HS6 HS6' hb7 k06
    go_wp2_with fail
    refine (markInsS_any _ HL.out HS7.out).mono ?_
    rintro e W8 ⟨rfl, _, ht8⟩
    have HVa8 := hid (HVa7.out.turned ht8 (fun h0 h1 => by
      obtain ⟨g, e, hlt⟩ := HNa.out h0
      obtain ⟨g', e', hge, _⟩ := HN3.out h1
      rw [e, e']
      simp
      omega))
    have HVb8 := hid (HVb7.out.turned ht8 (fun h0 h1 => by
      obtain ⟨g, e, hge⟩ := HNb.out h0
      obtain ⟨g', e', _, hlt⟩ := HN3.out h1
      rw [e, e']
      simp
      omega))
    have k08 : Below w.heap.size w W8 := ht8.below k07 k07.size (fun h1 k hk => by
      obtain ⟨g', e', hge, _⟩ := HN3.out h1
      rw [e'] at hk
      cases hk
      have := HD.out.2
      omega)
    clear HVa7 HVb7 HS7 ht8 k07
    have hk0 : (0 : Int) ≤ 1 + 4 * (cs.length : Int) := by omega
    generalize 1 + 4 * (cs.length : Int) = kk at *
    go_wp2_with fail
    refine (eqByteS_any _ HAL.out HVb8.out.byteSlice HVa8.out.byteSlice).mono ?_
    rintro e W9 ⟨rfl, hb9⟩
    have HVa9 := hid (HVa8.out.below hb9)
    have HVb9 := hid (HVb8.out.below hb9)
    have k09 := k08.trans (hb9.mono k08.size)
    clear HVa8 HVb8 hb9 k08
    go_wp2_with fail
    refine (markByteS_any _ HAL.out HVb9.out).mono ?_
    rintro e W10 ⟨rfl, hvm, ht10⟩
    have HVa10 := hid (HVa9.out.turned ht10 (fun h0 _ => by
      obtain ⟨g, e, hlt⟩ := HNa.out h0
      obtain ⟨g', e', hge⟩ := HNb.out h0
      have := HD.out.1
      rw [e, e']
      simp
      omega))
    have k010 : Below w.heap.size w W10 := ht10.below k09 k09.size (fun h1 k hk => by
      obtain ⟨g', e', hge⟩ := HNb.out h1
      rw [e'] at hk
      cases hk
      have := HD.out
      omega)
    have HVm : Hid (SliceR 5 1 W3.heap.size W10 vb ans.length byteMarks) := hvm
    clear hvm ht10 HVa9 HVb9 k09
    have HH : Hid (∀ w, SliceR 5 1 W3.heap.size w vb ans.length byteMarks → _) := fun w h => heldByteS_any w HAL.out h
    have hm0 : (0 : Int) ≤ 1 + (ans.length : Int) := by omega
    generalize 1 + (ans.length : Int) = mm at *
    go_wp2_with fail
    refine (HH.out _ HVm.out).mono ?_
    rintro e W11 ⟨rfl, rfl⟩
    go_wp2_with fail
    refine (toInsS_any _ (HV.out.below k010) HL.out).mono ?_
    rintro e W12 ⟨⟨v12, rfl, hs12⟩, hb12⟩
    have HS12 : Hid (InsSlice W12 v12 cs) := hs12.insSlice
    have HVa12 := hid (HVa10.out.below hb12)
    have HVm12 := hid (HVm.out.below hb12)
    have k012 := k010.trans (hb12.mono k010.size)
    clear hs12 hb12 HVa10 HVm k010
    go_wp2_with fail
    refine (HI.out _ _ HS12.out).mono ?_
    rintro e W13 ⟨⟨vh, rfl, hvh⟩, hb13⟩
    have HVh := hid (hvh.sliceR)
    have HVa13 := hid (HVa12.out.below hb13)
    have HVm13 := hid (HVm12.out.below hb13)
    have k013 := k012.trans (hb13.mono k012.size)
    clear hvh hb13 HVa12 HVm12 k012 HS12 HI
    go_wp2_with fail
    refine (eqByteS_any _ HAL.out HVh.out.byteSlice HVa13.out.byteSlice).mono ?_
    rintro e W14 ⟨rfl, hb14⟩
    have HVm14 := hid (HVm13.out.below hb14)
    have k014 := k013.trans (hb14.mono k013.size)
    clear hb14 HVa13 HVh HVm13 k013
    go_wp2_with fail
    refine (HH.out _ HVm14.out).mono ?_
    rintro e W15 ⟨rfl, rfl⟩
    go_wp2_with fail
    go_ret
    exact ⟨rfl, k014⟩

set_option maxRecDepth 100000 in
theorem lifted (os : Os) (started : os.Started) (H : Type) (enc : TypeId × Value → H) :
    ReturnsInHanded {} Try.checked os 4 .any (Rows.fnExactCodeBytesSpec.pre6 enc Try.prog Try.f4 Rows.fnExactCodeBytesRow.domain false) (Rows.fnExactCodeBytesSpec.post enc Try.prog Try.f4 false true false false) := by
  refine returnsInHanded_of_change (C := Try.checked) own started (by kernel_rfl) Try.func4
    (ChangeSpec.witness6 (enc := enc) (C := Try.checked) false ⟨#[], #[.slice none 0 0], []⟩ 8 (by kernel_rfl) (by kernel_rfl) (by kernel_rfl) (by kernel_rfl)) ?_
  intro W base args ds gs before hval0 hW hcnd _
  have hval : ∀ (j : Nat) t v, Try.f4.params[j]? = some t → args[j]? = some v → Value.okWide Try.prog W .any base t v := hval0
  have hW' := hW
  obtain ⟨p, q, hA0, hV, rfl, hfz, hnd⟩ := hW
  have hA : DataW.TrodAll enc Try.prog W 0 (fun _ => true) true Try.f4.params.toList args.toList ds p := hA0
  rw [Try.params4] at hA hval
  obtain ⟨v0, vs0, d0, ds0, p0, q0, hargs, rfl, rfl, h0, r0⟩ := trodAll_cons hA
  obtain ⟨rfl, rfl, rfl⟩ := trodAll_nil r0
  obtain rfl : args = #[v0] := by cases args; simp_all
  obtain ⟨rfl, rfl⟩ := trodVars_none hV
  clear hA0 hval0
  simp only [List.append_nil] at hW'
  have hlt : ∀ y ∈ p0, y.block < W.heap.size := fun y hy => by simpa using hW'.lt y (by simpa using hy)
  have h0k := h0
  obtain ⟨fuel, hf⟩ := h0
  obtain ⟨a0, len, cap, rfl⟩ := okWide_slice Try.underlying28 (hval 0 28 v0 rfl rfl)
  obtain ⟨ns, hN, hM⟩ := open_insS (by simpa [Value.cells] using hf)
  refine (walk W hN hM).mono fun e W' ⟨he, hg⟩ => ?_
  subst he
  refine ⟨_, rfl, _, _, _, [], p0, [], hW', ?_, ?_, rfl, hg.frame _, fun h => by cases h⟩
  · exact trodAll_cons_mk (shut_bool Try.underlying4 _) trodAll_mk0
  · exact trodAll_mk1 (Below.trod laidOut (by kernel_rfl) (of_decide_eq_true (by kernel_rfl)) h0k hg hlt)

theorem over : Rows.fnExactCodeBytesRow.holds Try.pinned (OpenSpec.ofChange Rows.fnExactCodeBytesSpec) :=
  OpenClaim.holds_of_wide 4 Try.f4 rfl rfl rfl rfl rfl rfl rfl ⟨rfl, rfl, rfl, rfl, rfl⟩ rfl rfl rfl rfl rfl (by kernel_rfl) Try.func4 (by kernel_rfl)
    (of_decide_eq_true (by kernel_rfl)) (by unfold Func.isWrapper; first | (rw [if_pos (by decide +kernel)]; kernel_rfl) | (rw [if_neg (by decide +kernel)]; exact ⟨rfl, rfl⟩))
    (fun os started H enc _ => lifted os started H enc)

theorem proved : Rows.FnExactCodeBytesSaid :=
  over
#print axioms proved
end Go.Proofs.Ytmjcifaihmecmaa.fnExactCodeBytes
