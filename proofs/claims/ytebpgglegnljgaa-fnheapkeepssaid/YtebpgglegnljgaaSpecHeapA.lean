/- The specification's looks at words of a heap. -/
import Derived.Test.YtebpgglegnljgaaHeapPure
namespace Go.Proofs.Ytebpgglegnljgaa
open Go.RowKit

set_option maxRecDepth 100000 in
theorem specSize_calls (x : Int) (w : World) :
    Calls Try.prog 65 #[.int .i64 x] w fun e w' => e = .returned (.int .i64 (sizeZ x)) ∧ w = w' := by
  have hf := fields_three (x % 16)
  have hb := and15 x
  have hZ : sizeZ x = if x % 16 = 15 then (if x / 16 = 3 ∨ x / 16 = 6 then x / 16 else 0) else if fieldsZ (x % 16) = 0 ∨ x / 16 ≠ 1 + fieldsZ (x % 16) then 0 else x / 16 := rfl
  have HZ := hid hZ
  clear hZ
  generalize sizeZ x = r at *
  generalize x % 16 = k at *
  have hf1 : fieldsZ k ≤ 5 := by omega
  have hf0 : 0 ≤ fieldsZ k := by omega
  clear hf
  go_enter Try.func65, Try.ntmps65
  go_wp2_with (first | (go_at_call 29; refine (specFields_calls _ _).mono ?_; rintro e w2 ⟨rfl, rfl⟩))
  all_goals
    go_ret
    refine ⟨?_, rfl⟩
    have hZ := HZ.out
    clear HZ
    simp_all
    try omega

set_option maxRecDepth 100000 in
theorem specFrom_calls (v : Value) (h : HpN) (w : World) (h0 : 0 ≤ h.to) (h1 : h.to ≤ 4000) (h2 : 0 ≤ h.size) (h3 : h.size ≤ 4000) :
    Calls Try.prog 63 #[heapV v h] w fun e w' => e = .returned (.int .i64 (h.size - h.to)) ∧ Below w.heap.size w w' := by
  obtain ⟨g1, g2, g3, g4, g5, g6, g7, g8, g9⟩ := h
  dsimp only at *
  unfold heapV
  dsimp only
  go_enter Try.func63, Try.ntmps63
  go_wp2
  go_ret
  exact ⟨rfl, (Below.refl _ _).alloc (Nat.le_refl _) _⟩

set_option maxHeartbeats 1000000 in
set_option maxRecDepth 100000 in
theorem specLeads_calls (b off cap gb gcap : Nat) (ws S : List Int) (h : HpN) (x : Int) (old : Bool) (w : World) (ho : Ordered h ws.length) (hlen : S.length = ws.length)
    (hb : b < w.heap.size) (hw : ∀ k, k < ws.length → w.cell? ⟨b, off + k, none⟩ = some (.int .i64 (ws.getD k 0)))
    (hgb : gb < w.heap.size) (hs : ∀ k, k < S.length → w.cell? ⟨gb, k, none⟩ = some (boolCells S k)) :
    Calls Try.prog 66 #[heapV (.slice (some ⟨b, off, none⟩) ws.length cap) h, .int .i64 x, .slice (some ⟨gb, 0, none⟩) S.length gcap, .bool old] w
      fun e w' => e = .returned (.bool (specLeads ws S h x old)) ∧ Below w.heap.size w w' := by
  have HW := hid hw
  have HS := hid hs
  have HO := hid ho
  obtain ⟨h1, h2, h3, h4, _⟩ := ho
  have hto0 : 0 ≤ h.to := by omega
  have hto1 : h.to ≤ 4000 := by omega
  have hs0 : 0 ≤ h.size := by omega
  rw [hlen]
  clear hw hs h3 h4 h1
  obtain ⟨g1, g2, g3, g4, g5, g6, g7, g8, g9⟩ := h
  dsimp only at *
  unfold heapV
  dsimp only
  by_cases ht : x % 8 = 0
  · have e1 : tagZ x = 0 := ht
    by_cases hneg : x / 8 < 0
    · have hA : specLeads ws S ⟨g1, g2, g3, g4, g5, g6, g7, g8, g9⟩ x old = false := by
        unfold specLeads
        rw [if_neg (by simpa using ht), if_pos (Or.inl hneg)]
      rw [hA]
      have hneg' : numZ x < 0 := hneg
      clear hA ht hneg
      go_enter Try.func66, Try.ntmps66
      go_wp2_with (first | (go_at_call 37; refine (specTag_calls _ _).mono ?_; rintro e w2 ⟨rfl, rfl⟩) | (go_at_call 54; refine (specNum_calls _ _).mono ?_; rintro e w2 ⟨rfl, rfl⟩))
      go_ret
      exact ⟨rfl, (Below.refl _ _).alloc (Nat.le_refl _) _⟩
    · obtain ⟨k, hk⟩ := Int.eq_ofNat_of_zero_le (show 0 ≤ x / 8 by omega)
      by_cases hbig : (ws.length : Int) ≤ k
      · have hA : specLeads ws S ⟨g1, g2, g3, g4, g5, g6, g7, g8, g9⟩ x old = false := by
          unfold specLeads
          rw [if_neg (by simpa using ht), if_pos (Or.inr (Or.inl (by omega)))]
        rw [hA]
        have e2 : numZ x = (k : Int) := hk
        clear hA ht hneg hk
        go_enter Try.func66, Try.ntmps66
        go_wp2_with (first | (go_at_call 37; refine (specTag_calls _ _).mono ?_; rintro e w2 ⟨rfl, rfl⟩) | (go_at_call 54; refine (specNum_calls _ _).mono ?_; rintro e w2 ⟨rfl, rfl⟩))
        go_ret
        exact ⟨rfl, (Below.refl _ _).alloc (Nat.le_refl _) _⟩
      · have c0 := HW.out k (by omega)
        have c1 := HS.out k (by omega)
        have e2 : numZ x = (k : Int) := hk
        have hin : inZ ⟨g1, g2, g3, g4, g5, g6, g7, g8, g9⟩ (x / 8) = decide (g2 ≤ (k : Int) ∧ (k : Int) < g2 + g1) := by rw [hk]; rfl
        have hA : specLeads ws S ⟨g1, g2, g3, g4, g5, g6, g7, g8, g9⟩ x old = if S.getD k 0 = 0 then false else (decide (g2 ≤ (k : Int) ∧ (k : Int) < g2 + g1) && decide (ws.getD k 0 % 16 ≠ 15)) || (!decide (g2 ≤ (k : Int) ∧ (k : Int) < g2 + g1) && old) := by
          unfold specLeads
          rw [if_neg (by simpa using ht), hin, hk]
          by_cases h0 : S.getD k 0 = 0
          · rw [if_pos h0, if_pos (Or.inr (Or.inr (by rw [Int.toNat_natCast]; exact h0)))]
          · rw [if_neg h0, if_neg (by rw [Int.toNat_natCast]; omega), Int.toNat_natCast]
        rw [hA]
        unfold boolCells at c1
        have hb15 := and15 (ws.getD k 0)
        clear hA ht hneg hk hin HW HS HO
        generalize ws.getD k 0 = y at *
        generalize S.getD k 0 = s at *
        cases hs : (s != 0)
        · rw [hs] at c1
          have h0 : s = 0 := by simpa using hs
          rw [if_pos h0]
          go_enter Try.func66, Try.ntmps66
          go_wp2_with (first | (go_at_call 37; refine (specTag_calls _ _).mono ?_; rintro e w2 ⟨rfl, rfl⟩) | (go_at_call 54; refine (specNum_calls _ _).mono ?_; rintro e w2 ⟨rfl, rfl⟩; rw [e2]))
          go_ret
          exact ⟨rfl, (Below.refl _ _).alloc (Nat.le_refl _) _⟩
        · rw [hs] at c1
          have h0 : s ≠ 0 := by simpa using hs
          rw [if_neg h0]
          go_enter Try.func66, Try.ntmps66
          go_wp2_with (first | (go_at_call 37; refine (specTag_calls _ _).mono ?_; rintro e w2 ⟨rfl, rfl⟩) | (go_at_call 54; refine (specNum_calls _ _).mono ?_; rintro e w2 ⟨rfl, rfl⟩; rw [e2]))
          all_goals
            go_ret
            refine ⟨?_, (Below.refl _ _).alloc (Nat.le_refl _) _⟩
            simp_all
            try first | (have h' : ¬ ((k : Int) < g2 + g1) := by omega
                         simp [h']) | (have h' : ¬ (g2 ≤ (k : Int)) := by omega
                                       simp [h'])
  · have hA : specLeads ws S ⟨g1, g2, g3, g4, g5, g6, g7, g8, g9⟩ x old = decide (x % 8 ≤ 4) := by
      unfold specLeads
      rw [if_pos ht]
    rw [hA]
    have e1 : tagZ x = x % 8 := rfl
    clear hA
    go_enter Try.func66, Try.ntmps66
    go_wp2_with (first | (go_at_call 37; refine (specTag_calls _ _).mono ?_; rintro e w2 ⟨rfl, rfl⟩; rw [e1]))
    go_ret
    exact ⟨rfl, (Below.refl _ _).alloc (Nat.le_refl _) _⟩
end Go.Proofs.Ytebpgglegnljgaa
