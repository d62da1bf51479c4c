/- The specification's text of a report is the plain one. -/
import Derived.Test.YtnoejhfpplddfaaDoorDrivePure
import Derived.Test.YtnoejhfpplddfaaDoorStages
import Derived.BigQuiet
namespace Go.Proofs.YtnoejhfpplddfaaDoor
open Go.RowKit

/-- Decimals, as the specification makes them. -/
theorem dec_any (n : Int) (X : World) (h : Long n) : Calls Tryd.prog 10 #[.int .i64 n] X fun e w' => e = .returned (.string (tx (Lib.itoa n))) ∧ Below X.heap.size X w' := l2Dec_calls n X h

set_option maxHeartbeats 2000000 in
set_option maxRecDepth 100000 in
theorem sDrive_fault {v : Value} {bs : List Int} (r : RpN) (w : World) (hv : IntSlice w v bs) (h1 : Long r.fc) (h2 : Long r.fa) (hfc : r.fc ≠ 0) :
    Calls Tryd.prog 5 #[repV v r] w fun e w' => e = .returned (.string (tx (driveZ r bs))) ∧ Below w.heap.size w w' := by
  obtain ⟨R, hR⟩ : ∃ R, tx (driveZ r bs) = R := ⟨_, rfl⟩
  have HR : Hid (R = tx [102, 97, 117, 108, 116, 32] ++ tx (Lib.itoa r.fc) ++ tx [32, 97, 116, 32] ++ tx (Lib.itoa r.fa)) := by
    show _ = _
    rw [← hR, driveZ, if_pos hfc, tx_append, tx_append, tx_append]
    simp
  rw [hR]
  clear hR
  obtain ⟨ad, cap, rfl, _⟩ := hv
  obtain ⟨fc, fa, ty, cd, ins, en, va, st, fl, to⟩ := r
  unfold repV
  dsimp only at *
  obtain ⟨D1, hD1⟩ : ∃ D1, tx (Lib.itoa fc) = D1 := ⟨_, rfl⟩
  obtain ⟨D2, hD2⟩ : ∃ D2, tx (Lib.itoa fa) = D2 := ⟨_, rfl⟩
  have s1 : D1.size ≤ 21 := by rw [← hD1, tx_size]; exact itoa_long h1
  have s2 : D2.size ≤ 21 := by rw [← hD2, tx_size]; exact itoa_long h2
  have HD : Hid (∀ (n : Int) (D : ByteArray) (X : World), (n = fc ∧ D = D1) ∨ (n = fa ∧ D = D2) → Calls Tryd.prog 10 #[.int .i64 n] X fun e w' => e = .returned (.string D) ∧ Below X.heap.size X w') := fun n D X h => by
    rcases h with ⟨rfl, rfl⟩ | ⟨rfl, rfl⟩
    · rw [← hD1]
      exact dec_any _ X h1
    · rw [← hD2]
      exact dec_any _ X h2
  rw [hD1, hD2] at HR
  have hc1 : ¬ 9223372036854775807 < 6 + D1.size := by omega
  have hc2 : ¬ 9223372036854775807 < 6 + D1.size + 4 := by omega
  have hc3 : ¬ 9223372036854775807 < 6 + D1.size + 4 + D2.size := by omega
  have hne : (fc != 0) = true := by simpa using hfc
  clear hD1 hD2 s1 s2 h1 h2
  have hK := (Below.refl w.heap.size w).alloc (Nat.le_refl _) (.cells #[.int .i64 fc, .int .i64 fa, .string ty, .int .i64 cd, .int .i64 ins, .int .i64 en, .slice ad bs.length cap, .string va, .int .i64 st, .int .i64 fl, .int .i64 to] 37)
  have hB := (MapKept.heap_alloc w (.cells #[.int .i64 fc, .int .i64 fa, .string ty, .int .i64 cd, .int .i64 ins, .int .i64 en, .slice ad bs.length cap, .string va, .int .i64 st, .int .i64 fl, .int .i64 to] 37)).1
  have HK := hid hK
  have HB := hid hB
  clear hK hB
  go_enter Tryd.func5, Tryd.ntmps5
  go_wp2_with fail
  generalize w.alloc (.cells #[.int .i64 fc, .int .i64 fa, .string ty, .int .i64 cd, .int .i64 ins, .int .i64 en, .slice ad bs.length cap, .string va, .int .i64 st, .int .i64 fl, .int .i64 to] 37) = W0 at *
  have c0 : ∀ y : Later W0.heap.size W0, y.w.cell? ⟨w.heap.size, 0, none⟩ = some (.int .i64 fc) := fun y => y.cell (heap_lt HB.out) (by rw [cell_of_heap HB.out]; rfl)
  have c1 : ∀ y : Later W0.heap.size W0, y.w.cell? ⟨w.heap.size, 1, none⟩ = some (.int .i64 fa) := fun y => y.cell (heap_lt HB.out) (by rw [cell_of_heap HB.out]; rfl)
  refine wp_region_calm W0.heap.size (by kernel_rfl) (by kernel_rfl) ?_
  repeat (go_big_quiet_step (first | (rename_i y; go_at_call 10; refine (HD.out _ _ _ (by first | exact Or.inl ⟨rfl, rfl⟩ | exact Or.inr ⟨rfl, rfl⟩)).mono ?_; rintro e w5 ⟨rfl, hb5⟩; exact ⟨rfl, ⟨w5, y.h.trans (hb5.mono y.h.size)⟩, rfl⟩)))
  refine wpQuiet_nil ?_
  rintro w6 ⟨y, rfl⟩
  have HB6 := hid (HK.out.trans (y.h.mono HK.out.size))
  generalize y.w = W2 at *
  go_wp2_with fail
  go_ret
  exact ⟨by rw [HR.out]; rfl, HB6.out⟩

set_option maxHeartbeats 2000000 in
set_option maxRecDepth 100000 in
theorem sDrive_type {v : Value} {bs : List Int} (r : RpN) (w : World) (hv : IntSlice w v bs) (h1 : Long r.cd) (hfc : r.fc = 0) (hcd : r.cd ≠ 0) :
    Calls Tryd.prog 5 #[repV v r] w fun e w' => e = .returned (.string (tx (driveZ r bs))) ∧ Below w.heap.size w w' := by
  obtain ⟨R, hR⟩ : ∃ R, tx (driveZ r bs) = R := ⟨_, rfl⟩
  have HR : Hid (R = tx [116, 121, 112, 101, 32] ++ tx (Lib.itoa r.cd)) := by
    show _ = _
    rw [← hR, driveZ, if_neg (by simpa using hfc), if_pos hcd, tx_append]
  rw [hR]
  clear hR
  obtain ⟨ad, cap, rfl, _⟩ := hv
  obtain ⟨fc, fa, ty, cd, ins, en, va, st, fl, to⟩ := r
  unfold repV
  dsimp only at *
  subst hfc
  obtain ⟨D1, hD1⟩ : ∃ D1, tx (Lib.itoa cd) = D1 := ⟨_, rfl⟩
  have s1 : D1.size ≤ 21 := by rw [← hD1, tx_size]; exact itoa_long h1
  have HD := hid (fun X => dec_any cd X h1)
  rw [hD1] at HR HD
  have hc1 : ¬ 9223372036854775807 < 5 + D1.size := by omega
  have hne : (cd != 0) = true := by simpa using hcd
  clear hD1 s1 h1
  go_enter Tryd.func5, Tryd.ntmps5
  go_wp2_with fail
  refine (HD.out _).mono ?_
  rintro e W1 ⟨rfl, hb1⟩
  have HB := hid (((Below.refl w.heap.size w).alloc (Nat.le_refl _) _).trans (hb1.mono (by simp)))
  clear hb1 HD
  go_wp2_with fail
  go_ret
  exact ⟨by rw [HR.out]; rfl, HB.out⟩

/-- The text ahead of the last stroke, k numbers written. -/
def runB (ty : ByteArray) (tr : List Int) (k : Nat) : List UInt8 := bytesOf ty ++ ([32, 124] ++ numsText (tr.take k))

theorem runB_next (ty : ByteArray) (tr : List Int) {k : Nat} (h : k < tr.length) : tx (runB ty tr (k + 1)) = tx (runB ty tr k) ++ tx [32] ++ tx (Lib.itoa (tr.getD k 0)) := by
  unfold runB
  rw [numsText_next tr h, tx_append, tx_append]
  simp

theorem runB_len (ty : ByteArray) (tr : List Int) (k : Nat) (hk : k ≤ 200) (hl : ∀ n ∈ tr, Long n) (hty : ty.size ≤ 1048576) : (tx (runB ty tr k)).size ≤ 1053000 := by
  rw [tx_size]
  unfold runB
  have h := numsText_len (tr.take k) (fun n hn => hl n (List.mem_of_mem_take hn))
  have h2 : (tr.take k).length ≤ k := by simp; omega
  rw [List.length_append, List.length_append, bytesOf_len]
  simp only [List.length_cons, List.length_nil]
  omega

set_option maxHeartbeats 4000000 in
set_option maxRecDepth 100000 in
theorem sDrive_run {v : Value} {bs : List Int} (r : RpN) (w : World) (hv : IntSlice w v bs) (hm : bs.length ≤ 1048576) (hl : ∀ n ∈ bs, Long n) (hen : Long r.en) (hty : r.ty.size ≤ 1048576) (hva : r.va.size ≤ 1048576) (hfc : r.fc = 0) (hcd : r.cd = 0) :
    Calls Tryd.prog 5 #[repV v r] w fun e w' => e = .returned (.string (tx (driveZ r bs))) ∧ Below w.heap.size w w' := by
  obtain ⟨R, hR⟩ : ∃ R, tx (driveZ r bs) = R := ⟨_, rfl⟩
  have HR : Hid (R = tx (runB r.ty bs 200) ++ (tx [32, 124, 32] ++ tx (endB r))) := by
    show _ = _
    rw [← hR, driveZ, if_neg (by simpa using hfc), if_neg (by simpa using hcd), tx_append, tx_append, runB]
    simp
  rw [hR]
  clear hR
  have HV := hid hv
  obtain ⟨ad, cap, rfl, _⟩ := hv
  obtain ⟨fc, fa, ty, cd, ins, en, va, st, fl, to⟩ := r
  unfold repV
  dsimp only at *
  subst hfc hcd
  have HL := hid hl
  have HM := hid hm
  have HTy := hid hty
  have HVa := hid hva
  have HDe := hid (fun X => dec_any en X hen)
  have HRl := hid (fun k hk => runB_len ty bs k hk hl hty)
  have HEl := hid (itoa_long hen)
  have hK := (Below.refl w.heap.size w).alloc (Nat.le_refl _) (.cells #[.int .i64 0, .int .i64 fa, .string ty, .int .i64 0, .int .i64 ins, .int .i64 en, .slice ad bs.length cap, .string va, .int .i64 st, .int .i64 fl, .int .i64 to] 37)
  have hB := (MapKept.heap_alloc w (.cells #[.int .i64 0, .int .i64 fa, .string ty, .int .i64 0, .int .i64 ins, .int .i64 en, .slice ad bs.length cap, .string va, .int .i64 st, .int .i64 fl, .int .i64 to] 37)).1
  have HK := hid hK
  have HB := hid hB
  have hc0 : ¬ 9223372036854775807 < ty.size + 2 := by omega
  have hT0 : ty ++ ⟨#[32, 124]⟩ = tx (runB ty bs 0) := by
    unfold runB
    rw [← tx_append, tx_of]
    rfl
  have HT0 := hid hT0
  clear hK hB hl hm hty hva hen hT0
  obtain ⟨len, hlen⟩ : ∃ len, bs.length = len := ⟨_, rfl⟩
  have Hlen := hid hlen
  rw [hlen] at HK HB HV ⊢
  clear hlen
  go_enter Tryd.func5, Tryd.ntmps5
  go_wp2_with fail
  generalize w.alloc (.cells #[.int .i64 0, .int .i64 fa, .string ty, .int .i64 0, .int .i64 ins, .int .i64 en, .slice ad len cap, .string va, .int .i64 st, .int .i64 fl, .int .i64 to] 37) = W0 at *
  go_loopw [3, 4] (fun o i wr => ∃ (ii : Int) (k : Nat) (T : ByteArray), o = .string T ∧ i = .int .i64 ii ∧ Hid (ii = (k : Int) ∧ k ≤ len ∧ k ≤ 200) ∧ Hid (T = tx (runB ty bs k)) ∧ Hid (Below W0.heap.size W0 wr)) (fun _ i _ => 200 - (intOf i).toNat)
  case atStart => exact ⟨0, 0, _, rfl, rfl, ⟨rfl, by omega, by omega⟩, HT0.out, Below.refl _ _⟩
  case round =>
    obtain ⟨ii, k, T, rfl, rfl, HQ, HT, HX⟩ := hrel
    have eB := (HX.out.block w.heap.size (heap_lt HB.out)).trans HB.out
    have HBr := hid eB
    have a5 := cell_of_heap eB 5
    have a6 := cell_of_heap eB 6
    have a7 := cell_of_heap eB 7
    simp at a5 a6 a7
    clear eB
    have hi0 : 0 ≤ ii := by have := HQ.out; omega
    by_cases hin : ii < (len : Int) ∧ ii < 200
    · obtain ⟨hlt, hl2⟩ := hin
      have hik : ii.toNat = k := by have := HQ.out; omega
      have hkb : k < bs.length := by have := HQ.out; have := Hlen.out; omega
      obtain ⟨ad', cap', e, hh⟩ := HV.out
      have hl3 := Hlen.out
      obtain ⟨rfl, rfl⟩ : ad = ad' ∧ cap = cap' := by cases e; exact ⟨rfl, rfl⟩
      obtain ⟨b', o', rfl, hb', hc⟩ := hh.resolve_left (fun h => by rw [h] at hkb; cases hkb)
      have hkw := HK.out.trans (HX.out.mono HK.out.size)
      have q0 := (hkw.cell (p := ⟨b', o' + k, none⟩) hb').trans (hc k hkb)
      have hxl : Long (bs.getD k 0) := HL.out _ (by simp [List.getD, hkb])
      have HDk := hid (fun X => dec_any (bs.getD k 0) X hxl)
      have HIl := hid (itoa_long hxl)
      have HNx := hid (runB_next ty bs hkb)
      clear hh hc hb' e hl3 hkw hxl
      obtain ⟨D, hD⟩ : ∃ D, tx (Lib.itoa (bs.getD k 0)) = D := ⟨_, rfl⟩
      rw [hD] at HDk HNx
      have sD : D.size ≤ 21 := by rw [← hD, tx_size]; exact HIl.out
      have sT : T.size ≤ 1053000 := by rw [HT.out]; exact HRl.out k (by have := HQ.out; omega)
      have hc1 : ¬ 9223372036854775807 < T.size + 1 := by omega
      have hc2 : ¬ 9223372036854775807 < T.size + 1 + D.size := by omega
      clear hD sD sT
      generalize bs.getD k 0 = x at *
      have hs : Hid (200 - (intOf (.int .i64 (ii + 1))).toNat < 200 - (intOf (.int .i64 ii)).toNat) := by show _ < _; simp only [intOf]; omega
      have hw : Hid (wrap64 (ii + 1) = ii + 1) := by show _ = _; unfold wrap64; omega
      have hdd : decide (ii < 200) = true := by simpa using hl2
      have hdl : decide (ii < (len : Int)) = true := by simpa using hlt
      go_wp2_with fail
      refine (HDk.out _).mono ?_
      rintro e W3 ⟨rfl, hb3⟩
      have HX3 := hid (HX.out.trans (hb3.mono HX.out.size))
      clear hb3 HDk q0 a5 a6 a7 HBr HX
      go_wp2_with fail
      try rw [hw.out]
      refine ⟨⟨ii + 1, k + 1, _, rfl, rfl, ⟨by have := HQ.out; push_cast; omega, by have := Hlen.out; omega, by have := HQ.out; omega⟩, ?_, HX3.out⟩, hs.out⟩
      show _ = _
      rw [HNx.out, HT.out]
      rfl
    · have HTe : Hid (T = tx (runB ty bs 200)) := by
        show _ = _
        rw [HT.out]
        by_cases hk2 : k = 200
        · rw [hk2]
        · have hkl : k = bs.length := by have := HQ.out; have := Hlen.out; omega
          unfold runB
          rw [hkl, List.take_length, List.take_of_length_le (by have := HQ.out; omega)]
      have sT : T.size ≤ 1053000 := by rw [HTe.out]; exact HRl.out 200 (by omega)
      have sV := HVa.out
      have hc1 : ¬ 9223372036854775807 < T.size + 3 := by omega
      have hc2 : ¬ 9223372036854775807 < T.size + 3 + va.size := by omega
      have hc3 : ¬ 9223372036854775807 < T.size + 7 := by omega
      have HKx := hid (HK.out.trans (HX.out.mono HK.out.size))
      have hq : (ii < (len : Int) ∧ ¬ ii < 200) ∨ ¬ ii < (len : Int) := by omega
      by_cases hen0 : en = 0
      · have HRe : Hid (R = T ++ ⟨#[32, 124, 32]⟩ ++ va) := by
          show _ = _
          rw [HR.out, ← HTe.out]
          unfold endB
          dsimp only
          rw [if_pos hen0, tx_of]
          exact (ByteArray.append_assoc ..).symm
        subst hen0
        clear sT sV HR HTe HT
        rcases hq with ⟨h1, h2⟩ | h1
        all_goals
          go_wp2_with fail
          go_ret
          exact ⟨by rw [HRe.out]; rfl, HKx.out⟩
      · obtain ⟨D, hD⟩ : ∃ D, tx (Lib.itoa en) = D := ⟨_, rfl⟩
        have sD : D.size ≤ 21 := by rw [← hD, tx_size]; exact HEl.out
        have hc4 : ¬ 9223372036854775807 < T.size + 7 + D.size := by omega
        have HRe : Hid (R = T ++ ⟨#[32, 124, 32, 101, 110, 100, 32]⟩ ++ D) := by
          show _ = _
          rw [HR.out, ← HTe.out]
          unfold endB
          dsimp only
          rw [if_neg hen0, ← hD, show (⟨#[32, 124, 32, 101, 110, 100, 32]⟩ : ByteArray) = tx [32, 124, 32, 101, 110, 100, 32] from rfl, tx_append, HTe.out, tx_append, tx_append, tx_append]
          simp
        rw [hD] at HDe
        have hne : (en == 0) = false := by simpa using hen0
        clear sT sV HR HTe HT hD sD
        rcases hq with ⟨h1, h2⟩ | h1
        all_goals
          go_wp2_with fail
          refine (HDe.out _).mono ?_
          rintro e W3 ⟨rfl, hb3⟩
          have HB3 := hid (HKx.out.trans (hb3.mono HKx.out.size))
          clear hb3
          go_wp2_with fail
          go_ret
          exact ⟨by rw [HRe.out]; rfl, HB3.out⟩
end Go.Proofs.YtnoejhfpplddfaaDoor
