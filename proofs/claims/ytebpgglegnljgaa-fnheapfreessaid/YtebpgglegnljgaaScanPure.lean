/- To move a word keeps what is known of the other space; what is copied is copied whole. -/
import Derived.Test.YtebpgglegnljgaaImplHeapUW
import Derived.Test.YtebpgglegnljgaaHeapFacts
namespace Go.Proofs.Ytebpgglegnljgaa
open Go.RowKit

/-- The numbers of a heap at work. -/
structure Nums (h : HpN) (N : Nat) : Prop where
  s0 : 20 ≤ h.size
  s1 : h.size ≤ 4000
  len : (N : Int) = 2 * h.size
  to : h.to = 0 ∨ h.to = h.size
  b0 : h.to ≤ h.bottom
  bt : h.bottom ≤ h.top
  te : h.top ≤ h.to + h.size

/-- A place of the other space. -/
def Old (h : HpN) (a : Nat) : Prop := h.size - h.to ≤ (a : Int) ∧ (a : Int) < h.size - h.to + h.size

/-- What is known of the objects of the other space: their first words, and that they lie apart. -/
structure Fro (S ws : List Int) (h : HpN) : Prop where
  heads : ∀ a : Nat, Old h a → S.getD a 0 ≠ 0 → (S.getD a 0 = 3 ∨ S.getD a 0 = 6) ∧ (a : Int) + S.getD a 0 ≤ h.size - h.to + h.size ∧ ws.getD a 0 / 16 = S.getD a 0
  apart : ∀ a b : Nat, a < b → S.getD a 0 ≠ 0 → S.getD b 0 ≠ 0 → (a : Int) + S.getD a 0 ≤ (b : Int)

/-- A word that leads nowhere, into the space in use, or to where an object of the other one begins. -/
def Aim (S : List Int) (h : HpN) (N : Nat) (x : Int) : Prop := x % 8 = 0 → 0 ≤ x / 8 ∧ x / 8 < (N : Int) ∧ (Old h (x / 8).toNat → S.getD (x / 8).toNat 0 ≠ 0)

theorem late_old {h : HpN} {x : Int} (hl : lateZ h x = true) (hn : 0 ≤ h.size - h.to) : x % 8 = 0 ∧ 0 ≤ x / 8 ∧ Old h (x / 8).toNat := by
  unfold lateZ at hl
  rw [Bool.and_eq_true, decide_eq_true_eq, decide_eq_true_eq] at hl
  unfold Old
  omega

theorem aim_here {S : List Int} {h : HpN} {N : Nat} {x : Int} (hn : Nums h N) (hg : Aim S h N x) : hereZ h x = !lateZ h x := by
  have o1 := hn.s0
  have o3 := hn.len
  have o4 := hn.to
  unfold hereZ lateZ inZ
  by_cases hx : x % 8 = 0
  · obtain ⟨g1, g2, -⟩ := hg hx
    rw [if_pos hx, decide_eq_true hx, Bool.true_and, Bool.eq_iff_iff]
    simp
    omega
  · rw [if_neg hx, decide_eq_false hx]
    rfl

theorem aim_move {S ws : List Int} {h : HpN} {N : Nat} {x : Int} (hn : Nums h N) (hf : Fro S ws h) (hg : Aim S h N x) : MoveOk ws h N x := by
  intro hl
  have o1 := hn.s0
  have o3 := hn.len
  have o4 := hn.to
  obtain ⟨hx, h0, hold⟩ := late_old hl (by omega)
  obtain ⟨g1, g2, g3⟩ := hg hx
  obtain ⟨e1, e2, e3⟩ := hf.heads _ hold (g3 hold)
  refine ⟨by omega, fun _ => ?_⟩
  rw [e3]
  exact ⟨e1, by omega⟩

/-- What a copy holds: the object's words at its new place, all else as it was. -/
theorem copyW_at (ws : List Int) (a to : Nat) : ∀ n : Nat, (a + n ≤ to ∨ to + n ≤ a) → to + n ≤ ws.length → ∀ j, (copyW ws a to n).getD j 0 = if to ≤ j ∧ j < to + n then ws.getD (a + (j - to)) 0 else ws.getD j 0
  | 0, _, _, j => by
    rw [if_neg (by omega)]
    rfl
  | n + 1, hd, hl, j => by
    rw [copyW, getD_set, copyW_length]
    have ih := copyW_at ws a to n (by omega) (by omega)
    by_cases hj : j = to + n
    · rw [if_pos ⟨hj, by omega⟩, if_pos (by omega), ih, if_neg (by omega), hj]
      congr 1
      omega
    · rw [if_neg (by omega), ih]
      by_cases h2 : to ≤ j ∧ j < to + n
      · rw [if_pos h2, if_pos (by omega)]
      · rw [if_neg h2, if_neg (by omega)]

/-- What a move leaves. -/
structure Moved (S : List Int) (N : Nat) (s s' : CN) : Prop where
  len : s'.ws.length = s.ws.length
  h : s'.h = { s.h with bottom := s'.h.bottom }
  nums : Nums s'.h N
  fro : Fro S s'.ws s'.h
  grow : s.h.bottom ≤ s'.h.bottom
  kept : ∀ j : Nat, ¬ Old s.h j → ((j : Int) < s.h.bottom ∨ s'.h.bottom ≤ (j : Int)) → s'.ws.getD j 0 = s.ws.getD j 0
  rest : ∀ a : Nat, Old s.h a → S.getD a 0 ≠ 0 → s'.ws.getD a 0 % 16 ≠ 15 → s.ws.getD a 0 % 16 ≠ 15 ∧ ∀ i : Nat, (i : Int) < S.getD a 0 → s'.ws.getD (a + i) 0 = s.ws.getD (a + i) 0
  new : s'.h.bottom = s.h.bottom ∨ ∃ a : Nat, Old s.h a ∧ S.getD a 0 ≠ 0 ∧ s.ws.getD a 0 % 16 ≠ 15 ∧ s'.h.bottom = s.h.bottom + S.getD a 0 ∧ ∀ i : Nat, (i : Int) < S.getD a 0 → s'.ws.getD (s.h.bottom.toNat + i) 0 = s.ws.getD (a + i) 0
  r0 : s.r ≤ s'.r
  r1 : s'.r ≤ s.r + 2 + (s'.h.bottom - s.h.bottom)
  t0 : s.t ≤ s'.t
  t1 : s'.t ≤ s.t + 2 * (s'.h.bottom - s.h.bottom)

theorem Moved.same {S : List Int} {N : Nat} {s : CN} (hn : Nums s.h N) (hf : Fro S s.ws s.h) (r' : Int) (h0 : s.r ≤ r') (h1 : r' ≤ s.r + 2) : Moved S N s { s with r := r' } :=
  ⟨rfl, rfl, hn, hf, Int.le_refl _, fun _ _ _ => rfl, fun _ _ _ h => ⟨h, fun _ _ => rfl⟩, Or.inl rfl, h0, by dsimp only; omega, Int.le_refl _, by dsimp only; omega⟩

theorem moveZ_keeps {S : List Int} {N : Nat} {s : CN} {x : Int} (hN : s.ws.length = N) (hn : Nums s.h N) (hf : Fro S s.ws s.h) (hg : Aim S s.h N x) : Moved S N s (moveZ s x).2 := by
  unfold moveZ
  cases hl : lateZ s.h x with
  | false =>
    rw [if_pos rfl]
    exact Moved.same hn hf s.r (by omega) (by omega)
  | true =>
    rw [if_neg (by decide)]
    have o1 := hn.s0
    have o2 := hn.s1
    have o3 := hn.len
    have o4 := hn.to
    have o5 := hn.b0
    have o6 := hn.bt
    have o7 := hn.te
    obtain ⟨hx, hx0, hold⟩ := late_old hl (by omega)
    obtain ⟨g1, g2, g3⟩ := hg hx
    generalize (x / 8).toNat = a at *
    have hS := g3 hold
    obtain ⟨e1, e2, e3⟩ := hf.heads a hold hS
    split
    · exact Moved.same hn hf (s.r + 1 + 1) (by omega) (by omega)
    · rename_i hk
      split
      · rename_i hroom
        rw [e3] at hroom ⊢
        unfold Old at hold
        obtain ⟨b, hb⟩ := Int.eq_ofNat_of_zero_le (show 0 ≤ s.h.bottom by omega)
        obtain ⟨n, hnn⟩ := Int.eq_ofNat_of_zero_le (show 0 ≤ S.getD a 0 by omega)
        have hcw := copyW_at s.ws a b n (by omega) (by omega)
        have hat : ∀ j, (((copyW s.ws a b n).set a ((n : Int) * 16 + 15)).set (a + 1) (8 * s.h.bottom)).getD j 0 = if j = a + 1 then 8 * s.h.bottom else if j = a then (n : Int) * 16 + 15 else if b ≤ j ∧ j < b + n then s.ws.getD (a + (j - b)) 0 else s.ws.getD j 0 := fun j => by
          rw [getD_set, getD_set, hcw, List.length_set, copyW_length]
          by_cases h1 : j = a + 1
          · rw [if_pos ⟨h1, by omega⟩, if_pos h1]
          · rw [if_neg (by omega), if_neg h1]
            by_cases h2 : j = a
            · rw [if_pos ⟨h2, by omega⟩, if_pos h2]
            · rw [if_neg (by omega), if_neg h2]
        have hbn : s.h.bottom.toNat = b := by omega
        rw [hnn, hbn, Int.toNat_natCast]
        rw [hnn] at e1 e2 hroom
        refine ⟨by simp only [List.length_set, copyW_length], rfl, ⟨o1, o2, o3, o4, ?_, ?_, o7⟩, ⟨?_, hf.apart⟩, ?_, ?_, ?_, ?_, ?_, ?_, ?_, ?_⟩
        · dsimp only
          omega
        · dsimp only
          omega
        · intro c hc hSc
          obtain ⟨f1, f2, f3⟩ := hf.heads c hc hSc
          refine ⟨f1, f2, ?_⟩
          dsimp only
          rw [hat]
          unfold Old at hc
          dsimp only at hc
          by_cases hca : c = a
          · rw [if_neg (by omega), if_pos hca, hca, hnn]
            omega
          · have : ¬ c = a + 1 := by
              intro h
              have := hf.apart a c (by omega) hS hSc
              omega
            rw [if_neg this, if_neg hca, if_neg (by omega)]
            exact f3
        · dsimp only
          omega
        · intro j hj hj2
          dsimp only at hj2 ⊢
          rw [hat, if_neg (by unfold Old at hj; omega), if_neg (by unfold Old at hj; omega), if_neg (by omega)]
        · intro c hc hSc hm
          dsimp only at hm ⊢
          have hc' := hc
          unfold Old at hc'
          rw [hat] at hm
          have hca : ¬ c = a := by
            intro h
            rw [if_neg (by omega), if_pos h] at hm
            omega
          obtain ⟨f1, f2, f3⟩ := hf.heads c hc hSc
          have hap : (a : Int) + S.getD a 0 ≤ (c : Int) ∨ (c : Int) + S.getD c 0 ≤ (a : Int) := by
            by_cases h : a < c
            · exact Or.inl (hf.apart a c h hS hSc)
            · exact Or.inr (hf.apart c a (by omega) hSc hS)
          rw [hnn] at hap
          refine ⟨?_, fun i hi => ?_⟩
          · rw [if_neg (by omega), if_neg hca, if_neg (by omega)] at hm
            exact hm
          · rw [hat, if_neg (by omega), if_neg (by omega), if_neg (by omega)]
        · refine Or.inr ⟨a, by unfold Old; exact hold, hS, hk, ?_, fun i hi => ?_⟩
          · dsimp only
            rw [hnn]
          · dsimp only
            rw [hnn] at hi
            rw [hbn, hat, if_neg (by omega), if_neg (by omega), if_pos (by omega)]
            congr 1
            omega
        · dsimp only
          omega
        · dsimp only
          omega
        · dsimp only
          omega
        · dsimp only
          omega
      · exact Moved.same hn hf (s.r + 1) (by omega) (by omega)
end Go.Proofs.Ytebpgglegnljgaa
