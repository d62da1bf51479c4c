/- What holds of the words of a text. -/
import Derived.Test.YtkdipppeljpgmaaGreatDoorParseBound
import Derived.Test.YtkdipppeljpgmaaGreatDoorPzNum
namespace Go.Proofs.YtkdipppeljpgmaaGreatDoor
open Go.RowKit

structure WdOk (w : Wd) : Prop where
  size : w.text.size ≤ 9
  num : w.kind = 1 → ∀ b ∈ w.text.toList, 48 ≤ b.toNat ∧ b.toNat ≤ 57
  plain : w.kind < 3 → ∀ l ∈ keysZ, w.text.toList ≠ l
  ne : w.kind = 1 → w.text.toList ≠ []

theorem cut_list (s : ByteArray) (p e : Nat) : (s.extract p e).toList = (s.data.toList.drop p).take (e - p) := by
  rw [bytes_list, ByteArray.data_extract, Array.toList_extract]

theorem cut_mem {s : ByteArray} {p e : Nat} (he : e ≤ s.size) {b : UInt8} (h : b ∈ (s.extract p e).toList) : ∃ j, p ≤ j ∧ j < e ∧ bz s j = (b.toNat : Int) := by
  rw [cut_list] at h
  obtain ⟨i, hi, rfl⟩ := List.getElem_of_mem h
  rw [List.length_take, List.length_drop, Array.length_toList] at hi
  have hs : p + i < s.size := by have : s.data.size = s.size := rfl; omega
  refine ⟨p + i, Nat.le_add_right _ _, by omega, ?_⟩
  rw [bz_at s hs]
  simp
  rfl

theorem cut_head {s : ByteArray} {p e : Nat} (hp : p < s.size) (hpe : p < e) : ∃ b r, (s.extract p e).toList = b :: r ∧ bz s p = (b.toNat : Int) := by
  have hs : p < s.data.toList.length := by rw [Array.length_toList]; exact hp
  refine ⟨s[p]'hp, ((s.data.toList.drop (p + 1)).take (e - p - 1)), ?_, bz_at s hp⟩
  rw [cut_list, List.drop_eq_getElem_cons hs]
  obtain ⟨n, hn⟩ : ∃ n, e - p = n + 1 := ⟨e - p - 1, by omega⟩
  rw [hn, List.take_succ_cons, Nat.add_sub_cancel]
  rfl

theorem keys_begin : ∀ l ∈ keysZ, ∃ b r, l = b :: r ∧ ¬ (48 ≤ b.toNat ∧ b.toNat ≤ 57) := by
  intro l hl
  have h : ∀ l ∈ keysZ, (match l with | [] => false | b :: _ => !(decide (48 ≤ b.toNat) && decide (b.toNat ≤ 57))) = true := by decide
  have h1 := h l hl
  match l, h1 with
  | [], h1 => cases h1
  | b :: r, h1 =>
    refine ⟨b, r, rfl, fun hx => ?_⟩
    simp [hx.1, hx.2] at h1

theorem keys_split : ∀ l ∈ keysZ, l ∈ keyBytes ∨ ∃ b r, l = b :: r ∧ ¬ (97 ≤ b.toNat ∧ b.toNat ≤ 122) := by
  intro l hl
  have h : ∀ l ∈ keysZ, (keyBytes.contains l || (match l with | [] => false | b :: _ => !(decide (97 ≤ b.toNat) && decide (b.toNat ≤ 122)))) = true := by decide
  have h1 := h l hl
  rw [Bool.or_eq_true] at h1
  rcases h1 with h1 | h1
  · exact Or.inl (by simpa using h1)
  · match l, h1 with
    | [], h1 => cases h1
    | b :: r, h1 =>
      refine Or.inr ⟨b, r, rfl, fun hx => ?_⟩
      simp [hx.1, hx.2] at h1

theorem word_ok {s : ByteArray} {p e : Nat} {w : Wd} (hp : p < s.size) (h : wordAt s p = .ok (w, e)) : WdOk w := by
  unfold wordAt at h
  by_cases hd : digitZ (bz s p) = true
  · obtain ⟨h1, h2, h3, h4⟩ := isRun_runTo s false (p := p) (by omega)
    rw [if_pos hd] at h
    dsimp only at h
    split at h
    · cases h
    · rename_i hc
      cases h
      have hpe : p < runTo s false p := by
        refine Nat.lt_of_le_of_ne h1 fun e => ?_
        have := h4 (by omega)
        rw [← e, okb, hd] at this
        simp at this
      obtain ⟨b, r, hl, hb⟩ := cut_head (s := s) hp hpe
      refine ⟨by rw [ByteArray.size_extract]; omega, fun _ b hb => ?_, fun _ l hl' e' => ?_, fun _ e' => by rw [hl] at e'; cases e'⟩
      · obtain ⟨j, hj1, hj2, hj⟩ := cut_mem h2 hb
        have := h3 j hj1 hj2
        rw [hj] at this
        simp [okb, digitZ] at this
        omega
      · obtain ⟨b', r', rfl, hn⟩ := keys_begin l hl'
        dsimp only at e'
        rw [hl] at e'
        cases e'
        rw [hb] at hd
        simp [digitZ] at hd
        omega
  · rw [if_neg hd] at h
    by_cases hL : letterZ (bz s p) = true
    · obtain ⟨h1, h2, h3, h4⟩ := isRun_runTo s true (p := p) (by omega)
      rw [if_pos hL] at h
      dsimp only at h
      split at h
      · cases h
      · cases h
        have hpe : p < runTo s true p := by
          refine Nat.lt_of_le_of_ne h1 fun e => ?_
          have := h4 (by omega)
          rw [← e, okb, hL] at this
          simp at this
        obtain ⟨b, r, hl, hb⟩ := cut_head (s := s) hp hpe
        refine ⟨by rw [ByteArray.size_extract]; omega, fun hk => ?_, fun hk l hl' e' => ?_, fun _ e' => by rw [hl] at e'; cases e'⟩
        · dsimp only at hk
          split at hk <;> cases hk
        · dsimp only at hk e'
          rcases keys_split l hl' with hm | ⟨b', r', rfl, hn⟩
          · have hy : isKey (s.extract p (runTo s true p)) = true := by
              unfold isKey
              rw [List.any_eq_true]
              exact ⟨l, hm, by rw [e']; simp⟩
            rw [hy] at hk
            simp at hk
          · rw [hl] at e'
            cases e'
            rw [hb] at hL
            simp [letterZ] at hL
            omega
    · rw [if_neg hL] at h
      dsimp only at h
      have hz := signOf_size (s.extract p s.size)
      split at h
      · cases h
      · cases h
        exact ⟨by dsimp only; omega, fun hk => absurd (show (4 : Int) = 1 from hk) (by decide), fun hk => absurd (show (4 : Int) < 3 from hk) (by decide), fun hk => absurd (show (4 : Int) = 1 from hk) (by decide)⟩

theorem lexGo_ok {s : ByteArray} : ∀ (f p : Nat) (ws : List Wd), (∀ w ∈ ws, WdOk w) → (∀ w ∈ (lexGo s f p ws).1, WdOk w) ∧ (lexGo s f p ws).1.length ≤ ws.length + f
  | 0, _, ws, h => ⟨h, Nat.le_refl _⟩
  | f + 1, p, ws, h => by
    unfold lexGo
    split
    · rename_i hp
      split
      · have ih := lexGo_ok (s := s) f (p + 1) ws h
        exact ⟨ih.1, by have := ih.2; omega⟩
      · cases hw : wordAt s p with
        | error c => exact ⟨fun w hw => (by cases hw), Nat.zero_le _⟩
        | ok r =>
          obtain ⟨w, e⟩ := r
          have ih := lexGo_ok (s := s) f e (ws ++ [w]) (fun x hx => by
            rw [List.mem_append, List.mem_singleton] at hx
            rcases hx with hx | rfl
            · exact h x hx
            · exact word_ok hp hw)
          refine ⟨ih.1, ?_⟩
          have := ih.2
          rw [List.length_append] at this
          simp at this
          dsimp only
          omega
    · exact ⟨h, Nat.le_add_right _ _⟩

theorem lexAll_ok (s : ByteArray) : (∀ w ∈ (lexAll s).1, WdOk w) ∧ (lexAll s).1.length ≤ 1500 := by
  unfold lexAll
  split
  · exact ⟨fun w hw => (by cases hw), Nat.zero_le _⟩
  · obtain ⟨h1, h2⟩ := lexGo_ok (s := s) s.size 0 [] (fun w hw => by cases hw)
    exact ⟨h1, by simp at h2; omega⟩

theorem lexAll_brief (s : ByteArray) : BriefW (lexAll s).1 := fun w hw => by
  have := ((lexAll_ok s).1 w hw).size
  unfold Brief
  omega
theorem lexAll_num (s : ByteArray) : NumW (lexAll s).1 := fun w hw hk => ⟨((lexAll_ok s).1 w hw).size, ((lexAll_ok s).1 w hw).num hk⟩
theorem lexAll_ne (s : ByteArray) : ∀ w ∈ (lexAll s).1, w.kind = 1 → w.text.toList ≠ [] := fun w hw hk => ((lexAll_ok s).1 w hw).ne hk
theorem lexAll_words (s : ByteArray) : WordsOk (lexAll s).1 := ⟨fun w hw hk => ((lexAll_ok s).1 w hw).plain hk⟩
end Go.Proofs.YtkdipppeljpgmaaGreatDoor
