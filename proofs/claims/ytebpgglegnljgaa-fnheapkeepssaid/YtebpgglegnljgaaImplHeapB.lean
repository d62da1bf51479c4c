/- The program's looks at words and at first words of objects. -/
import Derived.Test.YtebpgglegnljgaaImplHeapA
namespace Go.Proofs.Ytebpgglegnljgaa
open Go.RowKit

def wordOkZ (S : List Int) (h : HpN) (x : Int) : Bool := if x % 8 = 0 then leadsZ S h.size x h.to else decide (x % 8 ≤ 4)

set_option maxHeartbeats 1000000 in
set_option maxRecDepth 100000 in
theorem wordOk_calls (v : Value) (h : HpN) (gb goff gcap : Nat) (S : List Int) (x : Int) (w : World) (h0 : 0 ≤ h.to) (h1 : h.to ≤ 4000) (h2 : 0 ≤ h.size) (h3 : h.size ≤ 4000) (hl : h.to + h.size ≤ S.length)
    (hgb : gb < w.heap.size) (hs : ∀ k, k < S.length → w.cell? ⟨gb, goff + k, none⟩ = some (.int .i64 (S.getD k 0))) :
    Calls Try.prog 69 #[layV v h (.slice (some ⟨gb, goff, none⟩) S.length gcap), .int .i64 x] w fun e w' => e = .returned (.bool (wordOkZ S h x)) ∧ Below w.heap.size w w' := by
  have HLd := hid (fun (w' : World) (hb : Below w.heap.size w w') => leads_calls v h gb goff gcap S x h.to w' h0 h1 h2 h3 hl (Nat.lt_of_lt_of_le hgb hb.size) (fun k hk => (hb.cell (p := ⟨gb, goff + k, none⟩) hgb).trans (hs k hk)))
  clear hs hl
  by_cases ht : x % 8 = 0
  · have HT : Hid (∀ w, Calls Try.prog 23 #[.int .i64 x] w fun e w' => e = .returned (.int .i64 0) ∧ w = w') := fun w => by
      have := implTag_calls x w
      unfold tagZ at this
      rw [ht] at this
      exact this
    have hA : wordOkZ S h x = leadsZ S h.size x h.to := if_pos ht
    rw [hA]
    generalize leadsZ S h.size x h.to = R at *
    clear hA ht
    obtain ⟨g1, g2, g3, g4, g5, g6, g7, g8, g9⟩ := h
    unfold layV at *
    dsimp only at *
    go_enter Try.func69, Try.ntmps69
    go_wp2_with (first | (go_at_call 23; refine (HT.out _).mono ?_; rintro e w5 ⟨rfl, rfl⟩))
    have hk0 := (Below.refl w.heap.size w).alloc (Nat.le_refl _) (.cells #[v, .int .i64 g1, .int .i64 g2, .int .i64 g3, .int .i64 g4, .int .i64 g5, .int .i64 g6, .int .i64 g7, .int .i64 g8, .int .i64 g9, .slice (some ⟨gb, goff, none⟩) S.length gcap] 58)
    refine (HLd.out _ hk0).mono ?_
    rintro e W1 ⟨rfl, hb1⟩
    have HB1 := hid (hk0.trans (hb1.mono hk0.size))
    clear hb1 hk0 HLd
    go_wp2_with fail
    go_ret
    exact ⟨rfl, HB1.out⟩
  · have hA : wordOkZ S h x = decide (x % 8 ≤ 4) := if_neg ht
    rw [hA]
    have HT := hid (fun w => implTag_calls x w)
    unfold tagZ at HT
    have ht0 : (x % 8 == 0) = false := by simpa using ht
    clear hA HLd
    generalize x % 8 = t at *
    obtain ⟨g1, g2, g3, g4, g5, g6, g7, g8, g9⟩ := h
    unfold layV at *
    dsimp only at *
    go_enter Try.func69, Try.ntmps69
    go_wp2_with (first | (go_at_call 23; refine (HT.out _).mono ?_; rintro e w5 ⟨rfl, rfl⟩))
    go_ret
    exact ⟨rfl, (Below.refl _ _).alloc (Nat.le_refl _) _⟩

def kindOr (x : Int) : Int := if sizeZ x = 0 then 0 else x % 16

theorem size_moved {x : Int} (h : x % 16 = 15) : sizeZ x = if x / 16 = 3 ∨ x / 16 = 6 then x / 16 else 0 := by unfold sizeZ; rw [if_pos h]
theorem size_other {x : Int} (h : ¬ x % 16 = 15) : sizeZ x = if fieldsZ (x % 16) = 0 ∨ x / 16 ≠ 1 + fieldsZ (x % 16) then 0 else x / 16 := by unfold sizeZ; rw [if_neg h]
theorem fields15 : fieldsZ 15 = 0 := rfl
theorem fields3 : fieldsZ 3 = 2 := rfl
theorem fields6 : fieldsZ 6 = 5 := rfl

set_option maxHeartbeats 2000000 in
set_option maxRecDepth 100000 in
theorem objectAt_calls (b off N cap a : Nat) (x : Int) (w : World) (ha : a < N) (hbw : b < w.heap.size) (hc : w.cell? ⟨b, off + a, none⟩ = some (.int .i64 x)) :
    Calls Try.prog 33 #[.slice (some ⟨b, off, none⟩) N cap, .int .i64 a] w fun e w' => e = .returned (.tuple #[.int .i64 (kindOr x), .int .i64 (sizeZ x)]) ∧ Below w.heap.size w w' := by
  have hb15 := and15 x
  have HF := hid (fun (k : Int) (w : World) => implFields_calls k w)
  have hf := fields_three (x % 16)
  have H3 := hid fields3
  have H6 := hid fields6
  have vc : ∀ y : Later w.heap.size w, y.w.cell? ⟨b, off + a, none⟩ = some (.int .i64 x) := fun y => y.cell hbw hc
  by_cases hm : x % 16 = 15
  · have hZ := size_moved hm
    have hK : kindOr x = if sizeZ x = 0 then 0 else 15 := by unfold kindOr; rw [hm]
    rw [hm] at hb15
    have HZ := hid hZ
    have HK := hid hK
    have H15 := hid fields15
    generalize kindOr x = K at *
    generalize sizeZ x = Z at *
    clear hZ hK hf hc
    go_enter Try.func33, Try.ntmps33
    go_wp2_with fail
    refine wp_region_calm w.heap.size (by kernel_rfl) (by kernel_rfl) ?_
    repeat (go_big_quiet_step (fail))
    refine wpQuiet_nil ?_
    rintro w5 ⟨y, rfl⟩
    clear vc hb15 hm
    generalize x / 16 = n at *
    go_wp2_with (first | (go_at_call 40; refine (HF.out _ _).mono ?_; rintro e w5 ⟨rfl, rfl⟩; (first | rw [H3.out] | rw [H6.out] | rw [H15.out])))
    all_goals
      exact bodyPost_ret (results_tmp2 (fn := Try.f33) rfl _ _ _) rfl ⟨by
        have hZ := HZ.out
        have hK := HK.out
        clear HZ HK
        simp_all, y.h⟩
  · have hZ := size_other hm
    have hK : kindOr x = if sizeZ x = 0 then 0 else x % 16 := rfl
    have HZ := hid hZ
    have HK := hid hK
    have hm1 : (x % 16 == 15) = false := by simpa using hm
    generalize kindOr x = K at *
    generalize sizeZ x = Z at *
    clear hZ hK hc
    generalize x % 16 = k at *
    have hf1 : fieldsZ k ≤ 5 := by omega
    have hf0 : 0 ≤ fieldsZ k := by omega
    clear hf
    go_enter Try.func33, Try.ntmps33
    go_wp2_with fail
    refine wp_region_calm w.heap.size (by kernel_rfl) (by kernel_rfl) ?_
    repeat (go_big_quiet_step (fail))
    refine wpQuiet_nil ?_
    rintro w5 ⟨y, rfl⟩
    clear vc
    generalize x / 16 = n at *
    have HFk := hid (fun (w : World) => HF.out k w)
    generalize fieldsZ k = f at *
    go_wp2_with (first | (go_at_call 40; refine (HFk.out _).mono ?_; rintro e w5 ⟨rfl, rfl⟩))
    all_goals
      exact bodyPost_ret (results_tmp2 (fn := Try.f33) rfl _ _ _) rfl ⟨by
        have hZ := HZ.out
        have hK := HK.out
        clear HZ HK
        simp_all
        try omega, y.h⟩

set_option maxHeartbeats 1000000 in
set_option maxRecDepth 100000 in
theorem fieldsAt_calls (b off N cap a n : Nat) (x : Int) (w : World) (hn : sizeZ x = (n : Int)) (hn3 : 3 ≤ n) (ha : a + n ≤ N) (hcap : N ≤ cap) (hN : N ≤ 8000) (hbw : b < w.heap.size) (hc : w.cell? ⟨b, off + a, none⟩ = some (.int .i64 x)) :
    Calls Try.prog 34 #[.slice (some ⟨b, off, none⟩) N cap, .int .i64 a] w fun e w' => e = .returned (.slice (some ⟨b, off + (a + 1), none⟩) (n - 1) (cap - (a + 1))) ∧ Below w.heap.size w w' := by
  have HA := hid (objectAt_calls b off N cap a x w (by omega) hbw hc)
  rw [hn] at HA
  clear hc hn
  generalize kindOr x = K at *
  have h1 : (a : Int) + (n : Int) ≤ (N : Int) := by omega
  have h2 : (3 : Int) ≤ (n : Int) := by omega
  have h3 : (N : Int) ≤ (cap : Int) := by omega
  have h4 : (a : Int) + (n : Int) ≤ 8000 := by omega
  go_enter Try.func34, Try.ntmps34
  go_wp2_with fail
  refine HA.out.mono ?_
  rintro e W1 ⟨rfl, hb1⟩
  have HB1 := hid hb1
  clear HA hb1
  go_wp2_with fail
  go_ret
  refine ⟨?_, HB1.out⟩
  show Ending.returned (.slice (some ⟨b, off + (a + 1), none⟩) (a + n - (a + 1)) (cap - (a + 1))) = _
  rw [show a + n - (a + 1) = n - 1 by omega]
end Go.Proofs.Ytebpgglegnljgaa
