/- At every list of instructions the program's CodeDepths is the specification's. -/
import Derived.Test.YtfmkgppkgmjpfaaDoorDepBoth
import Derived.Test.YtfmkgppkgmjpfaaDoorFactsI
import Derived.Test.YtfmkgppkgmjpfaaDoorOkWalk
namespace Go.Proofs.YtfmkgppkgmjpfaaDoor
open Go.RowKit

theorem depT_len (is : List In) : (depT is).length ≤ is.length := by
  unfold depT
  split
  · rename_i h
    rw [h.2.choose_spec.len]
    exact Nat.le_refl _
  · simp

/-- Two lists of numbers in a stretch of their own. -/
def TwoI (lo : Nat) (va vb : Value) (n m : Nat) (F G : Nat → Value) (X : World) : Prop := SliceR 3 1 lo X va n F ∧ SliceR 3 1 lo X vb m G

theorem fact_two {lo hi : Nat} {va vb : Value} {n m : Nat} (F G : Nat → Value) (h1 : n ≠ 0 → ∀ q, va.ownBlock = some q → q < hi) (h2 : m ≠ 0 → ∀ q, vb.ownBlock = some q → q < hi) : Fact lo hi (TwoI lo va vb n m F G) :=
  (fact_slice F h1).and (fact_slice G h2)

theorem own_in {t : TypeId} {sz B : Nat} {W : World} {v : Value} {n : Nat} {F : Nat → Value} (h : SliceR t sz B W v n F) : n ≠ 0 → ∀ q, v.ownBlock = some q → B ≤ q ∧ q < W.heap.size := fun h0 q e => by
  obtain ⟨g, e1, h1, h2⟩ := h.block h0
  rw [e1] at e
  cases e
  exact ⟨h1, h2⟩

theorem Held.markA {w0 W W' : World} {l2 : List Fc} {lo hi : Nat} {va vb : Value} {n m : Nat} {F G F' : Nat → Value} (h : Held w0 (⟨lo, hi, TwoI lo va vb n m F G⟩ :: l2) W) (hua : n ≠ 0 → ∀ q, va.ownBlock = some q → lo ≤ q ∧ q < hi) (hub : m ≠ 0 → ∀ q, vb.ownBlock = some q → lo ≤ q ∧ q < hi) (hap : n ≠ 0 → va.ownBlock ≠ vb.ownBlock) (ht : Turned W W' va n) (hG : SliceR 3 1 lo W' va n F') : Held w0 (⟨lo, hi, TwoI lo va vb n m F' G⟩ :: l2) W' :=
  Held.chg [] (P := fun q => n ≠ 0 ∧ va.ownBlock = some q) h (Chg.of_turned ht (fun _ h0 e => ⟨h0, e⟩)) (fun q hq => hua hq.1 q hq.2) (fact_two F' G (fun h0 q e => (hua h0 q e).2) (fun h0 q e => (hub h0 q e).2))
    ⟨hG, (h.tells _ List.mem_cons_self).2.chg (Chg.of_turned (P := fun q => n ≠ 0 ∧ va.ownBlock = some q) ht (fun _ h0 e => ⟨h0, e⟩)) (fun _ _ e hp => hap hp.1 (hp.2.trans e.symm))⟩

theorem Held.markB {w0 W W' : World} {l2 : List Fc} {lo hi : Nat} {va vb : Value} {n m : Nat} {F G G' : Nat → Value} (h : Held w0 (⟨lo, hi, TwoI lo va vb n m F G⟩ :: l2) W) (hua : n ≠ 0 → ∀ q, va.ownBlock = some q → lo ≤ q ∧ q < hi) (hub : m ≠ 0 → ∀ q, vb.ownBlock = some q → lo ≤ q ∧ q < hi) (hap : n ≠ 0 → va.ownBlock ≠ vb.ownBlock) (ht : Turned W W' vb m) (hG : SliceR 3 1 lo W' vb m G') : Held w0 (⟨lo, hi, TwoI lo va vb n m F G'⟩ :: l2) W' :=
  Held.chg [] (P := fun q => m ≠ 0 ∧ vb.ownBlock = some q) h (Chg.of_turned ht (fun _ h0 e => ⟨h0, e⟩)) (fun q hq => hub hq.1 q hq.2) (fact_two F G' (fun h0 q e => (hua h0 q e).2) (fun h0 q e => (hub h0 q e).2))
    ⟨(h.tells _ List.mem_cons_self).1.chg (Chg.of_turned (P := fun q => m ≠ 0 ∧ vb.ownBlock = some q) ht (fun _ h0 e => ⟨h0, e⟩)) (fun h0 _ e hp => hap h0 (e.trans hp.2.symm)), hG⟩

set_option maxHeartbeats 8000000 in
set_option maxRecDepth 100000 in
theorem depWalk {v : Value} {cs : List In} (w : World) (hL : LaidE w) (hv : InsSlice w v cs) (hm : cs.length ≤ maxLen) :
    Calls Tryd.prog 4 #[v] w fun e w' => e = .returned (.bool true) ∧ Below w.heap.size w w' := by
  have hv' := hv
  obtain ⟨a0, cap, hvv, _⟩ := hv'
  have HSZ : Hid (∀ w, Calls Tryd.prog 5 #[v, .int .i64 1048576] w fun e w' => (∃ r : Int, e = .returned (.int .i64 r) ∧ (r < 0 ∨ (0 ≤ r ∧ cs.length ≤ 1048576))) ∧ w = w') := fun w => by rw [hvv]; exact szInsS_calls a0 cs.length cap w hm
  clear hvv hm
  have eA : (depT cs).length = (envL cs).length := by unfold envL; rw [List.length_map]
  have eB : (depT cs).length = (stkL cs).length := by unfold stkL; rw [List.length_map]
  have hdl := depT_len cs
  have HS : Hid (∀ (w : World) (v : Value), InsSlice w v cs → cs.length ≤ 1048576 → Calls Tryd.prog 10 #[v] w fun e w' => ∃ va vb, e = .returned (.tuple #[va, vb, .bool (validZ cs)]) ∧ TwoI w.heap.size va vb (envL cs).length (stkL cs).length (intCells (envL cs)) (intCells (stkL cs)) w' ∧ Below w.heap.size w w') := fun w v h h' => (specBoth w h h').mono fun e w' ⟨va, vb, h1, h2, h3, h4⟩ => ⟨va, vb, h1, ⟨eA ▸ h2, eB ▸ h3⟩, h4⟩
  have HI : Hid (∀ (w : World) (g : Nat), LaidE w → InsSlice w (.slice (some ⟨g, 0, none⟩) cs.length cs.length) cs → Calls Tryd.prog 11 #[.slice (some ⟨g, 0, none⟩) cs.length cs.length] w fun e w' => ∃ va vb, e = .returned (.tuple #[va, vb, .bool (validZ cs)]) ∧ TwoI w.heap.size va vb (envL cs).length (stkL cs).length (intCells (envL cs)) (intCells (stkL cs)) w' ∧ ((envL cs).length ≠ 0 → va.ownBlock ≠ vb.ownBlock) ∧ Below w.heap.size w w') := fun w g hL h => (implBoth w hL h (Nat.le_refl _)).mono fun e w' ⟨va, vb, h1, h2, h3, h4, h5⟩ => ⟨va, vb, h1, ⟨eA ▸ h2, eB ▸ h3⟩, eA ▸ h4, h5⟩
  have HAB : Hid ((envL cs).length ≤ cs.length ∧ (stkL cs).length = (envL cs).length) := ⟨by omega, by omega⟩
  clear eA eB hdl
  generalize envL cs = A at HS HI HAB
  generalize stkL cs = B at HS HI HAB
  generalize validZ cs = ok at HS HI
  have HV : Hid (InsSlice w v cs) := hv
  have HLA : Hid (LaidE w) := hL
  clear hv hL
  go_enter Tryd.func4, Tryd.ntmps4
  go_wp2_with fail
  refine (HSZ.out _).mono ?_
  rintro e W0 ⟨⟨r, rfl, hr⟩, rfl⟩
  by_cases hneg : r < 0
  · go_wp2_with fail
    go_ret
    exact ⟨rfl, Below.refl _ _⟩
  have HL : Hid (cs.length ≤ 1048576) := (hr.resolve_left hneg).2
  have HLAb : Hid (A.length ≤ 1048576 ∧ B.length ≤ 1048576) := ⟨by have := HL.out; have := HAB.out; omega, by have := HL.out; have := HAB.out; omega⟩
  clear hr HSZ
  go_wp2_with fail
  refine (toInsS_any _ HV.out HL.out).mono ?_
  rintro e W1 ⟨⟨v1, rfl, hs1⟩, hb1⟩
  have HS1 := hid hs1.insSlice
  have M1 := hid ((Held.start w).keep hb1)
  clear hs1 hb1
  go_wp2_with fail
  refine (HS.out _ _ HS1.out HL.out).mono ?_
  rintro e W2 ⟨wa, wb, rfl, ht, hb2⟩
  obtain ⟨aw, cw, hwa, -⟩ := ht.1
  obtain ⟨aw2, cw2, hwb, -⟩ := ht.2
  have M2 := hid (M1.out.add hb2 (fact_two (intCells A) (intCells B) (fun h0 q e => (own_in ht.1 h0 q e).2) (fun h0 q e => (own_in ht.2 h0 q e).2)) ht)
  subst hwa hwb
  clear ht hb2 HS HS1 M1
  go_wp2_with fail
  refine (toInsC _ (HV.out.below M2.out.below) HL.out).mono ?_
  rintro e W3 ⟨⟨rfl, hs3⟩, hb3⟩
  have M3 := hid (M2.out.slice hb3 hs3)
  have HU3 := hid (own_in hs3)
  clear hs3 hb3 M2
  go_wp2_with fail
  have hx := M3.out.tells _ List.mem_cons_self
  dsimp only at hx
  refine (HI.out _ _ (HLA.out.stays M3.out.below) hx.insSlice).mono ?_
  rintro e W4 ⟨ga, gb, rfl, ht, hap, hb4⟩
  obtain ⟨ag, cg, hga, -⟩ := ht.1
  obtain ⟨ag2, cg2, hgb, -⟩ := ht.2
  have M4 := hid (M3.out.add hb4 (fact_two (intCells A) (intCells B) (fun h0 q e => (own_in ht.1 h0 q e).2) (fun h0 q e => (own_in ht.2 h0 q e).2)) ht)
  have HUa := hid (own_in ht.1)
  have HUb := hid (own_in ht.2)
  have HAp := hid hap
  subst hga hgb
  clear ht hap hb4 hx M3
  have hRR : (ok != ok) = false := by cases ok <;> rfl
  go_wp2_with fail
  refine (eqIntS_any _ HLAb.out.1 (M4.out.tells _ List.mem_cons_self).1.intSlice (M4.out.tells _ (List.mem_cons_of_mem _ (List.mem_cons_of_mem _ List.mem_cons_self))).1.intSlice).mono ?_
  rintro e W5 ⟨rfl, hb⟩
  have M5 := hid (M4.out.keep hb)
  clear hb M4
  go_wp2_with fail
  refine (eqIntS_any _ HLAb.out.2 (M5.out.tells _ List.mem_cons_self).2.intSlice (M5.out.tells _ (List.mem_cons_of_mem _ (List.mem_cons_of_mem _ List.mem_cons_self))).2.intSlice).mono ?_
  rintro e W6 ⟨rfl, hb⟩
  have M6 := hid (M5.out.keep hb)
  clear hb M5
  go_wp2_with fail
  refine (toInsS_any _ (HV.out.below M6.out.below) HL.out).mono ?_
  rintro e W7 ⟨⟨v7, rfl, hs7⟩, hb⟩
  have M7 := hid (M6.out.keep hb)
  have HS7 := hid hs7.insSlice
  clear hb hs7 M6
  go_wp2_with fail
  refine (eqInsS_any _ HL.out (SliceR.insSlice (M7.out.tells _ (List.mem_cons_of_mem _ List.mem_cons_self))) HS7.out).mono ?_
  rintro e W8 ⟨rfl, hb⟩
  have M8 := hid (M7.out.keep hb)
  clear hb HS7 M7
  go_wp2_with fail
  refine (markInsS_any _ HL.out (M8.out.tells _ (List.mem_cons_of_mem _ List.mem_cons_self))).mono ?_
  rintro e W9 ⟨rfl, hs, ht⟩
  have M9 := hid (Held.mark [_] M8.out (fun h0 q e => (HU3.out h0 q e).2) (Below.refl _ _) ht hs)
  obtain ⟨kk, hkk⟩ : ∃ kk : Int, 1 + 4 * (cs.length : Int) = kk := ⟨_, rfl⟩
  rw [hkk]
  have hk0 : ¬ kk < 0 := by omega
  clear hs ht hkk M8
  go_wp2_with fail
  refine (eqIntS_any _ HLAb.out.1 (M9.out.tells _ List.mem_cons_self).1.intSlice (M9.out.tells _ (List.mem_cons_of_mem _ (List.mem_cons_of_mem _ List.mem_cons_self))).1.intSlice).mono ?_
  rintro e W10 ⟨rfl, hb⟩
  have M10 := hid (M9.out.keep hb)
  clear hb M9
  go_wp2_with fail
  refine (eqIntS_any _ HLAb.out.2 (M10.out.tells _ List.mem_cons_self).2.intSlice (M10.out.tells _ (List.mem_cons_of_mem _ (List.mem_cons_of_mem _ List.mem_cons_self))).2.intSlice).mono ?_
  rintro e W11 ⟨rfl, hb⟩
  have M11 := hid (M10.out.keep hb)
  clear hb M10
  have HOne : Hid ((0 : Int) ≤ 1 ∧ (1 : Int) ≤ 1000000000) := ⟨by decide, by decide⟩
  obtain ⟨m1, hm1⟩ : ∃ m1 : Int, 1 + (A.length : Int) = m1 := ⟨_, rfl⟩
  obtain ⟨m2, hm2⟩ : ∃ m2 : Int, m1 + (B.length : Int) = m2 := ⟨_, rfl⟩
  have HM1 : Hid (0 ≤ m1 ∧ m1 ≤ 1000000000) := ⟨by omega, by have := HLAb.out; omega⟩
  have hp1 : ¬ m1 < 0 := by omega
  have hp2 : ¬ m2 < 0 := by omega
  have E1 := hid hm1
  have E2 := hid hm2
  clear hm1 hm2
  go_wp2_with fail
  refine (markIntS_any 1 HOne.out _ HLAb.out.1 (M11.out.tells _ List.mem_cons_self).1).mono ?_
  rintro e W12 ⟨rfl, hs, ht⟩
  have M12 := hid (Held.markA M11.out HUa.out HUb.out HAp.out ht hs)
  rw [E1.out]
  clear hs ht M11
  go_wp2_with fail
  refine (markIntS_any m1 HM1.out _ HLAb.out.2 (M12.out.tells _ List.mem_cons_self).2).mono ?_
  rintro e W13 ⟨rfl, hs, ht⟩
  have M13 := hid (Held.markB M12.out HUa.out HUb.out HAp.out ht hs)
  rw [E2.out]
  clear hs ht M12
  go_wp2_with fail
  refine (heldIntS_any 1 HOne.out _ HLAb.out.1 (M13.out.tells _ List.mem_cons_self).1).mono ?_
  rintro e W14 ⟨rfl, rfl⟩
  rw [E1.out]
  go_wp2_with fail
  refine (heldIntS_any m1 HM1.out _ HLAb.out.2 (M13.out.tells _ List.mem_cons_self).2).mono ?_
  rintro e W15 ⟨rfl, rfl⟩
  rw [E2.out]
  go_wp2_with fail
  refine (toInsC _ (HV.out.below M13.out.below) HL.out).mono ?_
  rintro e W16 ⟨⟨rfl, hs⟩, hb⟩
  have M16 := hid (M13.out.keep hb)
  have HSx := hid hs.insSlice
  clear hb hs M13
  go_wp2_with fail
  refine (HI.out _ _ (HLA.out.stays M16.out.below) HSx.out).mono ?_
  rintro e W17 ⟨ha, hb, rfl, ht, -, hbe⟩
  obtain ⟨ah, ch, hha, -⟩ := ht.1
  obtain ⟨ah2, ch2, hhb, -⟩ := ht.2
  have M17 := hid (M16.out.add hbe (fact_two (intCells A) (intCells B) (fun h0 q e => (own_in ht.1 h0 q e).2) (fun h0 q e => (own_in ht.2 h0 q e).2)) ht)
  subst hha hhb
  clear ht hbe HSx HI M16
  go_wp2_with fail
  refine (eqIntS_any _ HLAb.out.1 (M17.out.tells _ List.mem_cons_self).1.intSlice (M17.out.tells _ (List.mem_cons_of_mem _ (List.mem_cons_of_mem _ (List.mem_cons_of_mem _ List.mem_cons_self)))).1.intSlice).mono ?_
  rintro e W18 ⟨rfl, hb⟩
  have M18 := hid (M17.out.keep hb)
  clear hb M17
  go_wp2_with fail
  refine (eqIntS_any _ HLAb.out.2 (M18.out.tells _ List.mem_cons_self).2.intSlice (M18.out.tells _ (List.mem_cons_of_mem _ (List.mem_cons_of_mem _ (List.mem_cons_of_mem _ List.mem_cons_self)))).2.intSlice).mono ?_
  rintro e W19 ⟨rfl, hb⟩
  have M19 := hid (M18.out.keep hb)
  clear hb M18
  go_wp2_with fail
  refine (heldIntS_any 1 HOne.out _ HLAb.out.1 (M19.out.tells _ (List.mem_cons_of_mem _ List.mem_cons_self)).1).mono ?_
  rintro e W20 ⟨rfl, rfl⟩
  rw [E1.out]
  go_wp2_with fail
  refine (heldIntS_any m1 HM1.out _ HLAb.out.2 (M19.out.tells _ (List.mem_cons_of_mem _ List.mem_cons_self)).2).mono ?_
  rintro e W21 ⟨rfl, rfl⟩
  rw [E2.out]
  go_wp2_with fail
  go_ret
  exact ⟨rfl, M19.out.below⟩
end Go.Proofs.YtfmkgppkgmjpfaaDoor
