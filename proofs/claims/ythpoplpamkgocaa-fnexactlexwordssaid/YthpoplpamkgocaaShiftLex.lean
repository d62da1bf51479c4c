/- The word at a place of a text is the first word of the rest from there on; it is ASCII throughout. -/
import Derived.Test.YthpoplpamkgocaaImplWord
namespace Go.Proofs.Ythpoplpamkgocaa
open Go.RowKit

theorem rest_size {s : ByteArray} {p : Nat} : (s.extract p s.size).size = s.size - p := by
  rw [ByteArray.size_extract]
  omega

theorem bz_rest {s : ByteArray} {p j : Nat} : bz (s.extract p s.size) j = bz s (p + j) := by
  unfold bz
  by_cases h : p + j < s.size
  · rw [dif_pos h, dif_pos (by rw [rest_size]; omega), ByteArray.getElem_extract]
  · rw [dif_neg h, dif_neg (by rw [rest_size]; omega)]

theorem run_rest {s : ByteArray} {l : Bool} {p : Nat} (hp : p ≤ s.size) : p + runTo (s.extract p s.size) l 0 = runTo s l p := by
  obtain ⟨h1, h2, h3, h4⟩ := isRun_runTo (s.extract p s.size) l (p := 0) (by omega)
  refine IsRun.eq ⟨by omega, by rw [rest_size] at h2; omega, fun j hj1 hj2 => ?_, fun h => ?_⟩
  · have := h3 (j - p) (by omega) (by omega)
    rw [bz_rest, show p + (j - p) = j by omega] at this
    exact this
  · have := h4 (by rw [rest_size]; omega)
    rwa [bz_rest] at this

theorem cut_rest {s : ByteArray} {p e : Nat} (h : p + e ≤ s.size) : (s.extract p s.size).extract 0 e = s.extract p (p + e) := by
  rw [ByteArray.extract_extract, Nat.add_zero, Nat.min_eq_left h]

/-- A word without its place. -/
def unplaced (p : Nat) : Except Int (Wd × Nat) → Except Int (Wd × Nat)
  | .error c => .error c
  | .ok (d, e) => .ok (⟨d.kind, d.text, 0⟩, e - p)

theorem wordAt_rest {s : ByteArray} {p : Nat} (hp : p < s.size) : wordAt (s.extract p s.size) 0 = unplaced p (wordAt s p) := by
  unfold wordAt
  have hb : bz (s.extract p s.size) 0 = bz s p := by rw [bz_rest, Nat.add_zero]
  have hself : (s.extract p s.size).extract 0 (s.extract p s.size).size = s.extract p s.size := by
    rw [rest_size, cut_rest (by omega), show p + (s.size - p) = s.size by omega]
  rw [hb, hself]
  by_cases hd : digitZ (bz s p) = true
  · have hr := run_rest (s := s) (l := false) (p := p) (by omega)
    obtain ⟨h1, h2, _, _⟩ := isRun_runTo s false (p := p) (by omega)
    rw [if_pos hd, if_pos hd]
    dsimp only
    have e : runTo (s.extract p s.size) false 0 = runTo s false p - p := by omega
    rw [e, Nat.sub_zero]
    split
    · rfl
    · show _ = Except.ok _
      rw [cut_rest (by omega), show p + (runTo s false p - p) = runTo s false p by omega]
  · rw [if_neg hd, if_neg hd]
    by_cases hL : letterZ (bz s p) = true
    · have hr := run_rest (s := s) (l := true) (p := p) (by omega)
      obtain ⟨h1, h2, _, _⟩ := isRun_runTo s true (p := p) (by omega)
      rw [if_pos hL, if_pos hL]
      dsimp only
      have e : runTo (s.extract p s.size) true 0 = runTo s true p - p := by omega
      rw [e, Nat.sub_zero]
      split
      · rfl
      · show _ = Except.ok _
        rw [cut_rest (by omega), show p + (runTo s true p - p) = runTo s true p by omega]
    · rw [if_neg hL, if_neg hL]
      dsimp only
      split
      · rfl
      · show _ = Except.ok _
        rw [show p + (signOf (s.extract p s.size)).size - p = 0 + (signOf (s.extract p s.size)).size by omega]

theorem restVal_unplaced (p : Nat) : ∀ x : Except Int (Wd × Nat), restVal (unplaced p x) = restVal x
  | .error _ => rfl
  | .ok (_, _) => rfl

theorem wordAt_text {s : ByteArray} {p : Nat} {d : Wd} {e : Nat} (hp : p < s.size) (h : wordAt s p = .ok (d, e)) : e = p + d.text.size ∧ d.at_ = p ∧ e ≤ s.size := by
  unfold wordAt at h
  by_cases hd : digitZ (bz s p) = true
  · obtain ⟨h1, h2, _, _⟩ := isRun_runTo s false (p := p) (by omega)
    rw [if_pos hd] at h
    dsimp only at h
    split at h
    · cases h
    · cases h
      refine ⟨?_, rfl, h2⟩
      rw [ByteArray.size_extract]
      omega
  · rw [if_neg hd] at h
    by_cases hL : letterZ (bz s p) = true
    · obtain ⟨h1, h2, _, _⟩ := isRun_runTo s true (p := p) (by omega)
      rw [if_pos hL] at h
      dsimp only at h
      split at h
      · cases h
      · cases h
        refine ⟨?_, rfl, h2⟩
        rw [ByteArray.size_extract]
        omega
    · rw [if_neg hL] at h
      dsimp only at h
      have hf := (signOf_fit (s.extract p s.size)).1
      rw [rest_size] at hf
      split at h
      · cases h
      · cases h
        exact ⟨rfl, rfl, by omega⟩

theorem okb_ascii {l : Bool} {x : Int} (h : okb l x = true) : x < 128 := by
  cases l <;> simp [okb, digitZ, letterZ] at h <;> omega

theorem sign_ascii : ∀ x ∈ signStrs, ∀ i, i < 2 → ∀ h : i < x.size, (x[i]'h).toNat < 128 := by decide

theorem at_eq {t : ByteArray} {a b : Nat} (h : a = b) (ha : a < t.size) (hb : b < t.size) : t[a]'ha = t[b]'hb := by
  subst h
  rfl

theorem wordAt_ascii {s : ByteArray} {p : Nat} {d : Wd} {e : Nat} (hp : p < s.size) (h : wordAt s p = .ok (d, e)) : ∀ j, p ≤ j → j < e → bz s j < 128 := by
  unfold wordAt at h
  by_cases hd : digitZ (bz s p) = true
  · obtain ⟨h1, h2, h3, _⟩ := isRun_runTo s false (p := p) (by omega)
    rw [if_pos hd] at h
    dsimp only at h
    split at h
    · cases h
    · cases h
      exact fun j hj1 hj2 => okb_ascii (h3 j hj1 hj2)
  · rw [if_neg hd] at h
    by_cases hL : letterZ (bz s p) = true
    · obtain ⟨h1, h2, h3, _⟩ := isRun_runTo s true (p := p) (by omega)
      rw [if_pos hL] at h
      dsimp only at h
      split at h
      · cases h
      · cases h
        exact fun j hj1 hj2 => okb_ascii (h3 j hj1 hj2)
    · rw [if_neg hL] at h
      dsimp only at h
      split at h
      · cases h
      · rename_i hg
        cases h
        intro j hj1 hj2
        obtain ⟨hf1, hf2⟩ := signOf_fit (s.extract p s.size)
        have hmem : signOf (s.extract p s.size) ∈ signStrs := by
          unfold signOf at hg ⊢
          cases hfi : signStrs.find? (signHit (s.extract p s.size)) with
          | none => rw [hfi] at hg; exact absurd rfl hg
          | some g => exact List.mem_of_find?_eq_some hfi
        have hs2 := signOf_size (s.extract p s.size)
        generalize hG : signOf (s.extract p s.size) = g at *
        have hi : j - p < g.size := by omega
        have ha := sign_ascii g hmem (j - p) (by omega) hi
        have e1 : bz s j = bz (s.extract p s.size) (j - p) := by rw [bz_rest, show p + (j - p) = j by omega]
        rw [e1]
        clear e1
        generalize s.extract p s.size = t at *
        have hi2 : j - p < t.size := by omega
        have e3 : g[j - p]'hi = (t.extract 0 g.size)[j - p]'(by rw [hf2]; exact hi) := by
          congr 1
          exact hf2.symm
        have e4 : (t.extract 0 g.size)[j - p]'(by rw [hf2]; exact hi) = t[j - p]'hi2 := by
          rw [ByteArray.getElem_extract]
          exact at_eq (by omega) _ _
        rw [bz_at t hi2, ← e4, ← e3]
        omega
end Go.Proofs.Ythpoplpamkgocaa
