/- At every list of bytes the program reads the same code, and tells the same, as the specification; its answer is memory of its own; it writes into no argument; no condition. -/
import Derived.Test.YtmjcifaihmecmaaSpecRead
import Derived.Test.YtmjcifaihmecmaaImplRead
import Derived.Test.YtmjcifaihmecmaaByteCopy
import Derived.Test.YtmjcifaihmecmaaInsMarks
import Derived.Test.YtmjcifaihmecmaaByteMarks
import Derived.OpenShut
namespace Go.Proofs.Ytmjcifaihmecmaa.fnExactCodeRead
open Go.ChangeShapes Go.WideShapes Go.ChangeAt Go.RowKit

theorem own : ownKnob Try.prog.godebug = none := by kernel_rfl
theorem laidOut : laidOutB Try.prog = true := by kernel_rfl

theorem spot_none {W : World} {a : Addr} {v : Value} (h : W.cell? a = some v) : a.spot = none := by
  unfold World.cell? at h
  split at h
  · by_cases hs : a.spot.isSome
    · simp [hs] at h
    · simpa using hs
  · cases h

theorem block_lt {W : World} {a : Addr} {v : Value} (h : W.cell? a = some v) : a.block < W.heap.size := by
  unfold World.cell? at h
  split at h
  · rename_i e
    obtain ⟨hlt, _⟩ := Array.getElem?_eq_some_iff.mp e
    exact hlt
  · cases h

theorem cells_u8 : Try.prog.cellsOf 5 = 1 := by kernel_rfl

theorem open_byteS {H : Type} {enc : TypeId × Value → H} {W : World} {sp : Nat → Bool} {held : Bool} {fuel : Nat} {a0 : Option Addr} {len cap : Nat} {x : DataW H × List MemPlace}
    (h : DataW.trod enc Try.prog W 0 sp held fuel 30 [.slice a0 len cap] = some x) :
    ∃ bs, ByteSlice W (.slice a0 len cap) bs ∧ bs.length ≤ maxLen ∧ ∀ x ∈ bs, IsB x := by
  rcases open_ints Try.underlying30 Try.underlying5 cells_u8 h with ⟨hc, _⟩ | ⟨a, len, cap, zs, hc, _, hl, hm, hz, _, hcell, hwf⟩
  · simp at hc
    obtain ⟨rfl, rfl, rfl⟩ := hc
    exact ⟨[], ⟨none, 0, rfl, Or.inl rfl⟩, Nat.zero_le _, fun x hx => by cases hx⟩
  · simp at hc
    obtain ⟨rfl, rfl, rfl⟩ := hc
    have hlm : len ≤ zs.length := by rw [hz]; split <;> omega
    have htl : (zs.take len).length = len := by simp; omega
    refine ⟨zs.take len, ⟨some a, cap, by rw [htl], ?_⟩, by omega, fun x hx => ?_⟩
    · by_cases h0 : len = 0
      · exact Or.inl (by subst h0; simp)
      · have hc0 := hcell 0 (by omega)
        have hs := spot_none hc0
        have hb := block_lt hc0
        obtain ⟨b, off, spot⟩ := a
        have hspot : spot = none := by simpa [Addr.add] using hs
        subst hspot
        refine Or.inr ⟨b, off, rfl, by simpa [Addr.add] using hb, fun i hi => ?_⟩
        rw [htl] at hi
        have hci := hcell i (by omega)
        have e : (Addr.add ⟨b, off, none⟩ i) = ⟨b, off + i, none⟩ := by
          unfold Addr.add
          split
          · rename_i h
            subst h
            rfl
          · rfl
        rw [e] at hci
        rw [hci]
        simp [List.getD, List.getElem?_take_of_lt hi]
    · have hw := hwf x (List.mem_of_mem_take hx)
      simp only [Lit.wf, Bool.and_eq_true, decide_eq_true_eq] at hw
      unfold IsB
      exact ⟨hw.1, Int.lt_of_le_of_lt hw.2 (by decide)⟩

theorem sliceR_of_ownsI {B : Nat} {w : World} {v : Value} {cs : List In} (h : OwnsI B w v cs) : SliceR 25 4 B w v cs.length (insCells cs) := by
  obtain ⟨ad, cap, hv, hh⟩ := sliceR_of_owns h
  exact ⟨ad, cap, hv, hh.imp id (fun ⟨g, h1, h2, h3⟩ => ⟨g, h1, h2, h3.congr (fun i hi => insRow_at cs i hi)⟩)⟩

theorem bytes_of {B g : Nat} {X : World} {bs : List Int} (h : SliceR 5 1 B X (.slice (some ⟨g, 0, none⟩) bs.length bs.length) bs.length (byteCells bs)) : BytesAt X g 0 bs := by
  obtain ⟨ad, cap, e, hh⟩ := h
  cases e
  intro k hk
  obtain ⟨g', e, -, hr⟩ := hh.resolve_left (by omega)
  cases e
  rw [Nat.zero_add, hr.cell (by omega)]
  rfl

theorem ans_length (bs : List Int) : ((readZ bs).getD []).length ≤ 1048576 := by
  unfold readZ
  split
  · simp
  · split
    · simp
    · rename_i c _
      split
      · rename_i h
        unfold codeOkZ at h
        rw [Bool.and_eq_true] at h
        have h1 := of_decide_eq_true h.1
        simp
        omega
      · simp

set_option maxHeartbeats 2000000 in
set_option maxRecDepth 100000 in
theorem walk {v : Value} {bs : List Int} (w : World) (hv : ByteSlice w v bs) (hB : ∀ x ∈ bs, IsB x) :
    Calls Try.prog 5 #[v] w fun e w' => e = .returned (.bool true) ∧ Below w.heap.size w w' := by
  have HTo : Hid (∀ X : World, Below w.heap.size w X → bs.length ≤ 1048576 → Calls Try.prog 19 #[v] X fun e w2 => (∃ g, e = .returned (.slice (some ⟨g, 0, none⟩) bs.length bs.length) ∧ SliceR 5 1 X.heap.size w2 (.slice (some ⟨g, 0, none⟩) bs.length bs.length) bs.length (byteCells bs) ∧ g < w2.heap.size) ∧ Below X.heap.size X w2) := fun X hX hm' => (toByteS_any X (hv.below hX) hm').mono (by rintro e w2 ⟨⟨h1, h2, h3⟩, h4⟩; exact ⟨⟨_, h1, h2, h3⟩, h4⟩)
  have HS : Hid (∀ (B g : Nat) (X : World), SliceR 5 1 B X (.slice (some ⟨g, 0, none⟩) bs.length bs.length) bs.length (byteCells bs) → g < X.heap.size → _) := fun B g X h hl => specRead_rows g 0 bs X hl (bytes_of h) hB
  have HI : Hid (∀ (B g : Nat) (X : World), SliceR 5 1 B X (.slice (some ⟨g, 0, none⟩) bs.length bs.length) bs.length (byteCells bs) → g < X.heap.size → _) := fun B g X h hl => implRead_rows g 0 bs X hl (bytes_of h) hB
  have HAL : Hid (((readZ bs).getD []).length ≤ 1048576) := ans_length bs
  generalize (readZ bs).getD [] = ans at *
  generalize (readZ bs).isSome = ok at *
  obtain ⟨a0, cap, rfl, -⟩ := hv
  clear hB
  go_enter Try.func5, Try.ntmps5
  by_cases hbig : (1048576 : Int) < (bs.length : Int)
  · go_wp2_with fail
    go_ret
    exact ⟨rfl, Below.refl _ _⟩
  have HL : Hid (bs.length ≤ 1048576) := by show _ ≤ _; omega
  go_wp2_with fail
  refine (HTo.out _ (Below.refl _ _) HL.out).mono ?_
  rintro e W1 ⟨⟨g1, rfl, hs1, hl1⟩, hb1⟩
  have HS1 := hid hs1
  clear hs1
  go_wp2_with fail
  refine (HS.out _ _ _ HS1.out hl1).mono ?_
  rintro e W2 ⟨⟨va, rfl, hva⟩, hb2⟩
  have hVa := sliceR_of_ownsI hva
  have k02 := hb1.trans (hb2.mono hb1.size)
  clear hva HS HS1 hb1 hb2 hl1
  have HVa := hid hVa
  have HVaLt : Hid (ans.length ≠ 0 → ∃ g, va.ownBlock = some g ∧ W1.heap.size ≤ g ∧ g < W2.heap.size) := fun h0 => hVa.block h0
  clear hVa
  go_wp2_with fail
  refine (HTo.out _ k02 HL.out).mono ?_
  rintro e W3 ⟨⟨g3, rfl, hs3, hl3⟩, hb3⟩
  have HS3 := hid hs3
  have k23 := hb3
  have k03 := k02.trans (hb3.mono k02.size)
  clear hs3 hb3
  go_wp2_with fail
  refine (HI.out _ _ _ HS3.out hl3).mono ?_
  rintro e W4 ⟨⟨vb, rfl, hvb⟩, hb4⟩
  have HVb := hid (sliceR_of_ownsI hvb)
  have k34 := hb4
  have k24 := k23.trans (hb4.mono k23.size)
  have k04 := k03.trans (hb4.mono k03.size)
  clear hvb hb4 hl3
  have HVa4 := hid (HVa.out.below k24)
  clear HVa
  go_wp2_with fail
  refine (eqInsS_any _ HAL.out HVb.out.insSlice HVa4.out.insSlice).mono ?_
  rintro e W5 ⟨rfl, hb5⟩
  have HD : Hid (W2.heap.size ≤ W3.heap.size ∧ w.heap.size ≤ W2.heap.size) := ⟨k23.size, k02.size⟩
  have k05 := k04.trans (hb5.mono k04.size)
  have HVa5 := hid (HVa4.out.below hb5)
  have HVb5 := hid (HVb.out.below hb5)
  have HS5 := hid ((HS3.out.below k34).below hb5)
  have HNa : Hid (ans.length ≠ 0 → ∃ g, va.ownBlock = some g ∧ g < W2.heap.size) := fun h0 => by
    obtain ⟨g', e', _, hlt⟩ := HVaLt.out h0
    exact ⟨g', e', hlt⟩
  have HNb : Hid (ans.length ≠ 0 → ∃ g, vb.ownBlock = some g ∧ W3.heap.size ≤ g) := fun h0 => by
    obtain ⟨g, e, hB, _⟩ := HVb.out.block h0
    exact ⟨g, e, hB⟩
  have HN3 : Hid (bs.length ≠ 0 → ∃ g, (Value.slice (some ⟨g3, 0, none⟩) bs.length bs.length).ownBlock = some g ∧ W2.heap.size ≤ g ∧ g < W3.heap.size) := fun h0 => HS3.out.block h0
  clear HVa4 HVb HS3 hb5 k04 k03 k02 k34 k24 k23 HVaLt
  have hRR : (ok != ok) = false := by cases ok <;> rfl
  go_wp2_with fail
  refine (HTo.out _ k05 HL.out).mono ?_
  rintro e W6 ⟨⟨g6, rfl, hs6, -⟩, hb6⟩
  have HS6 := hid hs6
  have HVa6 := hid (HVa5.out.below hb6)
  have HVb6 := hid (HVb5.out.below hb6)
  have HS6' := hid (HS5.out.below hb6)
  have k06 := k05.trans (hb6.mono k05.size)
  clear hs6 hb6 HVa5 HVb5 HS5 k05
  go_wp2_with fail
  refine (eqByteS_any _ HL.out HS6'.out.byteSlice HS6.out.byteSlice).mono ?_
  rintro e W7 ⟨rfl, hb7⟩
  have HVa7 := hid (HVa6.out.below hb7)
  have HVb7 := hid (HVb6.out.below hb7)
  have HS7 := hid (HS6'.out.below hb7)
  have k07 := k06.trans (hb7.mono k06.size)
  clear HVa6 HVb6 HS6 HS6' hb7 k06
  go_wp2_with fail
  refine (markByteS_any _ HL.out HS7.out).mono ?_
  rintro e W8 ⟨rfl, _, ht8⟩
  have HVa8 := hid (HVa7.out.turned ht8 (fun h0 h1 => by
    obtain ⟨g, e, hlt⟩ := HNa.out h0
    obtain ⟨g', e', hge, _⟩ := HN3.out h1
    rw [e, e']
    simp
    omega))
  have HVb8 := hid (HVb7.out.turned ht8 (fun h0 h1 => by
    obtain ⟨g, e, hge⟩ := HNb.out h0
    obtain ⟨g', e', _, hlt⟩ := HN3.out h1
    rw [e, e']
    simp
    omega))
  have k08 : Below w.heap.size w W8 := ht8.below k07 k07.size (fun h1 k hk => by
    obtain ⟨g', e', hge, _⟩ := HN3.out h1
    rw [e'] at hk
    cases hk
    have := HD.out.2
    omega)
  clear HVa7 HVb7 HS7 ht8 k07
  have hk0 : ¬ (1 + (bs.length : Int) < 0) := by omega
  generalize 1 + (bs.length : Int) = kk at *
  go_wp2_with fail
  refine (eqInsS_any _ HAL.out HVb8.out.insSlice HVa8.out.insSlice).mono ?_
  rintro e W9 ⟨rfl, hb9⟩
  have HVa9 := hid (HVa8.out.below hb9)
  have HVb9 := hid (HVb8.out.below hb9)
  have k09 := k08.trans (hb9.mono k08.size)
  clear HVa8 HVb8 hb9 k08
  go_wp2_with fail
  refine (markInsS_any _ HAL.out HVb9.out).mono ?_
  rintro e W10 ⟨rfl, hvm, ht10⟩
  have HVa10 := hid (HVa9.out.turned ht10 (fun h0 _ => by
    obtain ⟨g, e, hlt⟩ := HNa.out h0
    obtain ⟨g', e', hge⟩ := HNb.out h0
    have := HD.out.1
    rw [e, e']
    simp
    omega))
  have k010 : Below w.heap.size w W10 := ht10.below k09 k09.size (fun h1 k hk => by
    obtain ⟨g', e', hge⟩ := HNb.out h1
    rw [e'] at hk
    cases hk
    have := HD.out
    omega)
  have HVm : Hid (SliceR 25 4 W3.heap.size W10 vb ans.length insMarks) := hvm
  clear hvm ht10 HVa9 HVb9 k09
  have HH : Hid (∀ w, SliceR 25 4 W3.heap.size w vb ans.length insMarks → _) := fun w h => heldInsS_any w HAL.out h
  have hm0 : ¬ (1 + 4 * (ans.length : Int) < 0) := by omega
  generalize 1 + 4 * (ans.length : Int) = mm at *
  go_wp2_with fail
  refine (HH.out _ HVm.out).mono ?_
  rintro e W11 ⟨rfl, rfl⟩
  go_wp2_with fail
  refine (HTo.out _ k010 HL.out).mono ?_
  rintro e W12 ⟨⟨g12, rfl, hs12, hl12⟩, hb12⟩
  have HS12 := hid hs12
  have HVa12 := hid (HVa10.out.below hb12)
  have HVm12 := hid (HVm.out.below hb12)
  have k012 := k010.trans (hb12.mono k010.size)
  clear hs12 hb12 HVa10 HVm k010
  go_wp2_with fail
  refine (HI.out _ _ _ HS12.out hl12).mono ?_
  rintro e W13 ⟨⟨vh, rfl, hvh⟩, hb13⟩
  have HVh := hid (sliceR_of_ownsI hvh)
  have HVa13 := hid (HVa12.out.below hb13)
  have HVm13 := hid (HVm12.out.below hb13)
  have k013 := k012.trans (hb13.mono k012.size)
  clear hvh hb13 HVa12 HVm12 k012 HS12 HI hl12
  go_wp2_with fail
  refine (eqInsS_any _ HAL.out HVh.out.insSlice HVa13.out.insSlice).mono ?_
  rintro e W14 ⟨rfl, hb14⟩
  have HVm14 := hid (HVm13.out.below hb14)
  have k014 := k013.trans (hb14.mono k013.size)
  clear hb14 HVa13 HVh HVm13 k013
  go_wp2_with fail
  refine (HH.out _ HVm14.out).mono ?_
  rintro e W15 ⟨rfl, rfl⟩
  go_wp2_with fail
  go_ret
  exact ⟨rfl, k014⟩

set_option maxRecDepth 100000 in
theorem lifted (os : Os) (started : os.Started) (H : Type) (enc : TypeId × Value → H) :
    ReturnsInHanded {} Try.checked os 5 .any (Rows.fnExactCodeReadSpec.pre6 enc Try.prog Try.f5 Rows.fnExactCodeReadRow.domain false) (Rows.fnExactCodeReadSpec.post enc Try.prog Try.f5 false true false false) := by
  refine returnsInHanded_of_change (C := Try.checked) own started (by kernel_rfl) Try.func5
    (ChangeSpec.witness6 (enc := enc) (C := Try.checked) false ⟨#[], #[.slice none 0 0], []⟩ 8 (by kernel_rfl) (by kernel_rfl) (by kernel_rfl) (by kernel_rfl)) ?_
  intro W base args ds gs before hval0 hW hcnd _
  have hval : ∀ (j : Nat) t v, Try.f5.params[j]? = some t → args[j]? = some v → Value.okWide Try.prog W .any base t v := hval0
  have hW' := hW
  obtain ⟨p, q, hA0, hV, rfl, hfz, hnd⟩ := hW
  have hA : DataW.TrodAll enc Try.prog W 0 (fun _ => true) true Try.f5.params.toList args.toList ds p := hA0
  rw [Try.params5] at hA hval
  obtain ⟨v0, vs0, d0, ds0, p0, q0, hargs, rfl, rfl, h0, r0⟩ := trodAll_cons hA
  obtain ⟨rfl, rfl, rfl⟩ := trodAll_nil r0
  obtain rfl : args = #[v0] := by cases args; simp_all
  obtain ⟨rfl, rfl⟩ := trodVars_none hV
  clear hA0 hval0
  simp only [List.append_nil] at hW'
  have hlt : ∀ y ∈ p0, y.block < W.heap.size := fun y hy => by simpa using hW'.lt y (by simpa using hy)
  have h0k := h0
  obtain ⟨fuel, hf⟩ := h0
  obtain ⟨a0, len, cap, rfl⟩ := okWide_slice Try.underlying30 (hval 0 30 v0 rfl rfl)
  obtain ⟨bs, hN, -, hB⟩ := open_byteS (by simpa [Value.cells] using hf)
  refine (walk W hN hB).mono fun e W' ⟨he, hg⟩ => ?_
  subst he
  refine ⟨_, rfl, _, _, _, [], p0, [], hW', ?_, ?_, rfl, hg.frame _, fun h => by cases h⟩
  · exact trodAll_cons_mk (shut_bool Try.underlying4 _) trodAll_mk0
  · exact trodAll_mk1 (Below.trod laidOut (by kernel_rfl) (of_decide_eq_true (by kernel_rfl)) h0k hg hlt)

theorem over : Rows.fnExactCodeReadRow.holds Try.pinned (OpenSpec.ofChange Rows.fnExactCodeReadSpec) :=
  OpenClaim.holds_of_wide 5 Try.f5 rfl rfl rfl rfl rfl rfl rfl ⟨rfl, rfl, rfl, rfl, rfl⟩ rfl rfl rfl rfl rfl (by kernel_rfl) Try.func5 (by kernel_rfl)
    (of_decide_eq_true (by kernel_rfl)) (by unfold Func.isWrapper; first | (rw [if_pos (by decide +kernel)]; kernel_rfl) | (rw [if_neg (by decide +kernel)]; exact ⟨rfl, rfl⟩))
    (fun os started H enc _ => lifted os started H enc)

theorem proved : Rows.FnExactCodeReadSaid :=
  over
#print axioms proved
end Go.Proofs.Ytmjcifaihmecmaa.fnExactCodeRead
