/- To move a word keeps what is known of the other space; what is copied is copied whole. -/
import Derived.Test.YtnoobonlmfgfhaaHHeapFlip3
import Derived.Test.YtnoobonlmfgfhaaHeapFactsRFlip
namespace Go.Proofs.Ytnoobonlmfgfhaa
open Go.RowKit

/-- The numbers of a heap at work. -/
structure Nums (h : HpN) (N : Nat) : Prop where
  s0 : 20 ≤ h.size
  s1 : h.size ≤ 4000
  len : (N : Int) = 2 * h.size
  to : h.to = 0 ∨ h.to = h.size
  b0 : h.to ≤ h.bottom
  bt : h.bottom ≤ h.top
  te : h.top ≤ h.to + h.size

/-- A place of the other space. -/
def Old (h : HpN) (a : Nat) : Prop := h.size - h.to ≤ (a : Int) ∧ (a : Int) < h.size - h.to + h.size

/-- What is known of the objects of the other space: their first words, and that they lie apart. -/
structure Fro (S ws : List Int) (h : HpN) : Prop where
  heads : ∀ a : Nat, Old h a → S.getD a 0 ≠ 0 → (S.getD a 0 = 3 ∨ S.getD a 0 = 6) ∧ (a : Int) + S.getD a 0 ≤ h.size - h.to + h.size ∧ ws.getD a 0 / 16 = S.getD a 0
  apart : ∀ a b : Nat, a < b → S.getD a 0 ≠ 0 → S.getD b 0 ≠ 0 → (a : Int) + S.getD a 0 ≤ (b : Int)

/-- A word that leads nowhere, into the space in use, or to where an object of the other one begins. -/
def Aim (S : List Int) (h : HpN) (N : Nat) (x : Int) : Prop := x % 8 = 0 → 0 ≤ x / 8 ∧ x / 8 < (N : Int) ∧ (Old h (x / 8).toNat → S.getD (x / 8).toNat 0 ≠ 0)

theorem late_old {h : HpN} {x : Int} (hl : lateZ h x = true) (hn : 0 ≤ h.size - h.to) : x % 8 = 0 ∧ 0 ≤ x / 8 ∧ Old h (x / 8).toNat := by
  unfold lateZ at hl
  rw [Bool.and_eq_true, decide_eq_true_eq, decide_eq_true_eq] at hl
  unfold Old
  omega

theorem aim_here {S : List Int} {h : HpN} {N : Nat} {x : Int} (hn : Nums h N) (hg : Aim S h N x) : hereZ h x = !lateZ h x := by
  have o1 := hn.s0
  have o3 := hn.len
  have o4 := hn.to
  unfold hereZ lateZ inZ
  by_cases hx : x % 8 = 0
  · obtain ⟨g1, g2, -⟩ := hg hx
    rw [if_pos hx, decide_eq_true hx, Bool.true_and, Bool.eq_iff_iff]
    simp
    omega
  · rw [if_neg hx, decide_eq_false hx]
    rfl

theorem aim_move {S ws : List Int} {h : HpN} {N : Nat} {x : Int} (hn : Nums h N) (hf : Fro S ws h) (hg : Aim S h N x) : MoveOk ws h N x := by
  intro hl
  have o1 := hn.s0
  have o3 := hn.len
  have o4 := hn.to
  obtain ⟨hx, h0, hold⟩ := late_old hl (by omega)
  obtain ⟨g1, g2, g3⟩ := hg hx
  obtain ⟨e1, e2, e3⟩ := hf.heads _ hold (g3 hold)
  refine ⟨by omega, fun _ => ?_⟩
  rw [e3]
  exact ⟨e1, by omega⟩

/-- What a copy holds: the object's words at its new place, all else as it was. -/
theorem copyW_at (ws : List Int) (a to : Nat) : ∀ n : Nat, (a + n ≤ to ∨ to + n ≤ a) → to + n ≤ ws.length → ∀ j, (copyW ws a to n).getD j 0 = if to ≤ j ∧ j < to + n then ws.getD (a + (j - to)) 0 else ws.getD j 0
  | 0, _, _, j => by
    rw [if_neg (by omega)]
    rfl
  | n + 1, hd, hl, j => by
    rw [copyW, getD_set, copyW_length]
    have ih := copyW_at ws a to n (by omega) (by omega)
    by_cases hj : j = to + n
    · rw [if_pos ⟨hj, by omega⟩, if_pos (by omega), ih, if_neg (by omega), hj]
      congr 1
      omega
    · rw [if_neg (by omega), ih]
      by_cases h2 : to ≤ j ∧ j < to + n
      · rw [if_pos h2, if_pos (by omega)]
      · rw [if_neg h2, if_neg (by omega)]

/-- What a move leaves. -/
structure Moved (S : List Int) (N : Nat) (s s' : CN) : Prop where
  len : s'.ws.length = s.ws.length
  h : s'.h = { s.h with bottom := s'.h.bottom }
  nums : Nums s'.h N
  fro : Fro S s'.ws s'.h
  grow : s.h.bottom ≤ s'.h.bottom
  kept : ∀ j : Nat, ¬ Old s.h j → ((j : Int) < s.h.bottom ∨ s'.h.bottom ≤ (j : Int)) → s'.ws.getD j 0 = s.ws.getD j 0
  rest : ∀ a : Nat, Old s.h a → S.getD a 0 ≠ 0 → s'.ws.getD a 0 % 16 ≠ 15 → s.ws.getD a 0 % 16 ≠ 15 ∧ ∀ i : Nat, (i : Int) < S.getD a 0 → s'.ws.getD (a + i) 0 = s.ws.getD (a + i) 0
  new : s'.h.bottom = s.h.bottom ∨ ∃ a : Nat, Old s.h a ∧ S.getD a 0 ≠ 0 ∧ s.ws.getD a 0 % 16 ≠ 15 ∧ s'.h.bottom = s.h.bottom + S.getD a 0 ∧ ∀ i : Nat, (i : Int) < S.getD a 0 → s'.ws.getD (s.h.bottom.toNat + i) 0 = s.ws.getD (a + i) 0
  r0 : s.r ≤ s'.r
  r1 : s'.r ≤ s.r + 2 + (s'.h.bottom - s.h.bottom)
  t0 : s.t ≤ s'.t
  t1 : s'.t ≤ s.t + 2 * (s'.h.bottom - s.h.bottom)

theorem Moved.same {S : List Int} {N : Nat} {s : CN} (hn : Nums s.h N) (hf : Fro S s.ws s.h) (r' : Int) (h0 : s.r ≤ r') (h1 : r' ≤ s.r + 2) : Moved S N s { s with r := r' } :=
  ⟨rfl, rfl, hn, hf, Int.le_refl _, fun _ _ _ => rfl, fun _ _ _ h => ⟨h, fun _ _ => rfl⟩, Or.inl rfl, h0, by dsimp only; omega, Int.le_refl _, by dsimp only; omega⟩

theorem moveZ_keeps {S : List Int} {N : Nat} {s : CN} {x : Int} (hN : s.ws.length = N) (hn : Nums s.h N) (hf : Fro S s.ws s.h) (hg : Aim S s.h N x) : Moved S N s (moveZ s x).2 := by
  unfold moveZ
  cases hl : lateZ s.h x with
  | false =>
    rw [if_pos rfl]
    exact Moved.same hn hf s.r (by omega) (by omega)
  | true =>
    rw [if_neg (by decide)]
    have o1 := hn.s0
    have o2 := hn.s1
    have o3 := hn.len
    have o4 := hn.to
    have o5 := hn.b0
    have o6 := hn.bt
    have o7 := hn.te
    obtain ⟨hx, hx0, hold⟩ := late_old hl (by omega)
    obtain ⟨g1, g2, g3⟩ := hg hx
    generalize (x / 8).toNat = a at *
    have hS := g3 hold
    obtain ⟨e1, e2, e3⟩ := hf.heads a hold hS
    split
    · exact Moved.same hn hf (s.r + 1 + 1) (by omega) (by omega)
    · rename_i hk
      split
      · rename_i hroom
        rw [e3] at hroom ⊢
        unfold Old at hold
        obtain ⟨b, hb⟩ := Int.eq_ofNat_of_zero_le (show 0 ≤ s.h.bottom by omega)
        obtain ⟨n, hnn⟩ := Int.eq_ofNat_of_zero_le (show 0 ≤ S.getD a 0 by omega)
        have hcw := copyW_at s.ws a b n (by omega) (by omega)
        have hat : ∀ j, (((copyW s.ws a b n).set a ((n : Int) * 16 + 15)).set (a + 1) (8 * s.h.bottom)).getD j 0 = if j = a + 1 then 8 * s.h.bottom else if j = a then (n : Int) * 16 + 15 else if b ≤ j ∧ j < b + n then s.ws.getD (a + (j - b)) 0 else s.ws.getD j 0 := fun j => by
          rw [getD_set, getD_set, hcw, List.length_set, copyW_length]
          by_cases h1 : j = a + 1
          · rw [if_pos ⟨h1, by omega⟩, if_pos h1]
          · rw [if_neg (by omega), if_neg h1]
            by_cases h2 : j = a
            · rw [if_pos ⟨h2, by omega⟩, if_pos h2]
            · rw [if_neg (by omega), if_neg h2]
        have hbn : s.h.bottom.toNat = b := by omega
        rw [hnn, hbn, Int.toNat_natCast]
        rw [hnn] at e1 e2 hroom
        refine ⟨by simp only [List.length_set, copyW_length], rfl, ⟨o1, o2, o3, o4, ?_, ?_, o7⟩, ⟨?_, hf.apart⟩, ?_, ?_, ?_, ?_, ?_, ?_, ?_, ?_⟩
        · dsimp only
          omega
        · dsimp only
          omega
        · intro c hc hSc
          obtain ⟨f1, f2, f3⟩ := hf.heads c hc hSc
          refine ⟨f1, f2, ?_⟩
          dsimp only
          rw [hat]
          unfold Old at hc
          dsimp only at hc
          by_cases hca : c = a
          · rw [if_neg (by omega), if_pos hca, hca, hnn]
            omega
          · have : ¬ c = a + 1 := by
              intro h
              have := hf.apart a c (by omega) hS hSc
              omega
            rw [if_neg this, if_neg hca, if_neg (by omega)]
            exact f3
        · dsimp only
          omega
        · intro j hj hj2
          dsimp only at hj2 ⊢
          rw [hat, if_neg (by unfold Old at hj; omega), if_neg (by unfold Old at hj; omega), if_neg (by omega)]
        · intro c hc hSc hm
          dsimp only at hm ⊢
          have hc' := hc
          unfold Old at hc'
          rw [hat] at hm
          have hca : ¬ c = a := by
            intro h
            rw [if_neg (by omega), if_pos h] at hm
            omega
          obtain ⟨f1, f2, f3⟩ := hf.heads c hc hSc
          have hap : (a : Int) + S.getD a 0 ≤ (c : Int) ∨ (c : Int) + S.getD c 0 ≤ (a : Int) := by
            by_cases h : a < c
            · exact Or.inl (hf.apart a c h hS hSc)
            · exact Or.inr (hf.apart c a (by omega) hSc hS)
          rw [hnn] at hap
          refine ⟨?_, fun i hi => ?_⟩
          · rw [if_neg (by omega), if_neg hca, if_neg (by omega)] at hm
            exact hm
          · rw [hat, if_neg (by omega), if_neg (by omega), if_neg (by omega)]
        · refine Or.inr ⟨a, by unfold Old; exact hold, hS, hk, ?_, fun i hi => ?_⟩
          · dsimp only
            rw [hnn]
          · dsimp only
            rw [hnn] at hi
            rw [hbn, hat, if_neg (by omega), if_neg (by omega), if_pos (by omega)]
            congr 1
            omega
        · dsimp only
          omega
        · dsimp only
          omega
        · dsimp only
          omega
        · dsimp only
          omega
      · exact Moved.same hn hf (s.r + 1) (by omega) (by omega)
end Go.Proofs.Ytnoobonlmfgfhaa

/- To look through objects, in plain words: what is known is kept from field to field and from object to object. -/
namespace Go.Proofs.Ytnoobonlmfgfhaa
open Go.RowKit

/-- What a read of a field leaves. -/
theorem fieldZ_keeps {S : List Int} {N : Nat} {s : CN} {q : Nat} (hN : s.ws.length = N) (hn : Nums s.h N) (hf : Fro S s.ws s.h) (hg : Aim S s.h N (s.ws.getD q 0)) (hq : ¬ Old s.h q) (hqb : (q : Int) < s.h.bottom) {y : Int} {s' : CN} (he : fieldZ s q = (some y, s')) :
    s'.ws.length = N ∧ s'.h = { s.h with bottom := s'.h.bottom } ∧ Nums s'.h N ∧ Fro S s'.ws s'.h ∧ s.h.bottom ≤ s'.h.bottom ∧
    (∀ j : Nat, ¬ Old s.h j → j ≠ q → ((j : Int) < s.h.bottom ∨ s'.h.bottom ≤ (j : Int)) → s'.ws.getD j 0 = s.ws.getD j 0) ∧
    (∀ a : Nat, Old s.h a → S.getD a 0 ≠ 0 → s'.ws.getD a 0 % 16 ≠ 15 → s.ws.getD a 0 % 16 ≠ 15 ∧ ∀ i : Nat, (i : Int) < S.getD a 0 → s'.ws.getD (a + i) 0 = s.ws.getD (a + i) 0) ∧
    (s'.h.bottom = s.h.bottom ∨ ∃ a : Nat, Old s.h a ∧ S.getD a 0 ≠ 0 ∧ s.ws.getD a 0 % 16 ≠ 15 ∧ s'.h.bottom = s.h.bottom + S.getD a 0 ∧ ∀ i : Nat, (i : Int) < S.getD a 0 → s'.ws.getD (s.h.bottom.toNat + i) 0 = s.ws.getD (a + i) 0) ∧
    s.r ≤ s'.r ∧ s'.r ≤ s.r + 3 + (s'.h.bottom - s.h.bottom) ∧ s.t ≤ s'.t ∧ s'.t ≤ s.t + 1 + 2 * (s'.h.bottom - s.h.bottom) := by
  unfold fieldZ at he
  split at he
  · cases he
    dsimp only
    exact ⟨hN, rfl, hn, hf, by omega, fun _ _ _ _ => rfl, fun _ _ _ h => ⟨h, fun _ _ => rfl⟩, Or.inl rfl, by omega, by omega, by omega, by omega⟩
  · have m := moveZ_keeps (s := { s with r := s.r + 1 }) (x := s.ws.getD q 0) hN hn hf hg
    generalize moveZ { s with r := s.r + 1 } (s.ws.getD q 0) = R at m he
    obtain ⟨o, s2⟩ := R
    cases o with
    | none => cases he
    | some z =>
      cases he
      dsimp only at m ⊢
      have e1 := m.h
      have e2 := m.grow
      have e3 := m.r0
      have e4 := m.r1
      have e5 := m.t0
      have e6 := m.t1
      dsimp only at e1 e2 e3 e4 e5 e6
      have oq : ∀ a : Nat, Old s.h a → ∀ i : Nat, (i : Int) < S.getD a 0 → S.getD a 0 ≠ 0 → a + i ≠ q := fun a ha i hi hS h => by
        have := (hf.heads a ha hS).2.1
        unfold Old at ha hq
        omega
      refine ⟨by rw [List.length_set, m.len]; exact hN, e1, m.nums, ⟨fun a ha hS => ?_, hf.apart⟩, e2, fun j hj hjq hjb => ?_, fun a ha hS hm => ?_, ?_, by omega, by omega, by omega, by omega⟩
      · have ha' : Old s.h a := by rw [e1] at ha; exact ha
        obtain ⟨f1, f2, f3⟩ := m.fro.heads a ha hS
        refine ⟨f1, f2, ?_⟩
        rw [getD_set, if_neg (by have := oq a ha' 0 (by omega) hS; omega)]
        exact f3
      · rw [getD_set, if_neg (by omega)]
        exact m.kept j hj hjb
      · have h0 := oq a ha 0 (by have := (hf.heads a ha hS).1; omega) hS
        rw [getD_set, if_neg (by omega)] at hm
        obtain ⟨f1, f2⟩ := m.rest a ha hS hm
        refine ⟨f1, fun i hi => ?_⟩
        rw [getD_set, if_neg (by have := oq a ha i hi hS; omega)]
        exact f2 i hi
      · rcases m.new with h | ⟨a, f1, f2, f3, f4, f5⟩
        · exact Or.inl h
        · refine Or.inr ⟨a, f1, f2, f3, f4, fun i hi => ?_⟩
          rw [getD_set, if_neg (by have := hn.b0; have := hn.to; have := hn.s0; omega)]
          exact f5 i hi

/-- Objects behind one another, each with fields that may be moved. -/
inductive RowOk (S ws : List Int) (h : HpN) (N : Nat) : Nat → Nat → Prop
  | nil (p : Nat) : RowOk S ws h N p p
  | cons {p q : Nat} (n : Nat) (hn : n = 3 ∨ n = 6) (hd : ws.getD p 0 / 16 = n) (hf : ∀ i, 1 ≤ i → i < n → Aim S h N (ws.getD (p + i) 0)) (rest : RowOk S ws h N (p + n) q) : RowOk S ws h N p q

theorem RowOk.le {S ws : List Int} {h : HpN} {N p q : Nat} (r : RowOk S ws h N p q) : p ≤ q := by
  induction r with
  | nil => exact Nat.le_refl _
  | cons n _ _ _ _ ih => omega

theorem RowOk.keep {S ws ws' : List Int} {h h' : HpN} {N p q : Nat} (r : RowOk S ws h N p q) (hh : ∀ a, Old h' a ↔ Old h a) (hw : ∀ j, p ≤ j → j < q → ws'.getD j 0 = ws.getD j 0) : RowOk S ws' h' N p q := by
  induction r with
  | nil p => exact RowOk.nil p
  | @cons p q n hn hd hf rest ih =>
    have hle := rest.le
    refine RowOk.cons n hn (by rw [hw p (Nat.le_refl _) (by omega)]; exact hd) (fun i h1 h2 => ?_) (ih (fun j h1 h2 => hw j (by omega) h2))
    rw [hw (p + i) (by omega) (by omega)]
    intro hx
    obtain ⟨a1, a2, a3⟩ := hf i h1 h2 hx
    exact ⟨a1, a2, fun ho => a3 ((hh _).1 ho)⟩

theorem RowOk.snoc {S ws : List Int} {h : HpN} {N p q : Nat} (r : RowOk S ws h N p q) (n : Nat) (hn : n = 3 ∨ n = 6) (hd : ws.getD q 0 / 16 = n) (hf : ∀ i, 1 ≤ i → i < n → Aim S h N (ws.getD (q + i) 0)) : RowOk S ws h N p (q + n) := by
  induction r with
  | nil p => exact RowOk.cons n hn hd hf (RowOk.nil _)
  | cons m hm hd' hf' _ ih => exact RowOk.cons m hm hd' hf' (ih hd hf)

/-- While objects are looked through: ahead of each. -/
structure Scn (S : List Int) (N : Nat) (s : CN) : Prop where
  len : s.ws.length = N
  nums : Nums s.h N
  fro : Fro S s.ws s.h
  olds : ∀ a : Nat, Old s.h a → S.getD a 0 ≠ 0 → s.ws.getD a 0 % 16 ≠ 15 → ∀ i : Nat, 1 ≤ i → (i : Int) < S.getD a 0 → Aim S s.h N (s.ws.getD (a + i) 0)
  sc0 : s.h.to ≤ s.h.scan
  row : RowOk S s.ws s.h N s.h.scan.toNat s.h.bottom.toNat
  r0 : 0 ≤ s.r
  r1 : s.r ≤ 4 * s.h.scan + s.h.bottom
  t0 : 0 ≤ s.t
  t1 : s.t ≤ s.h.scan + 2 * s.h.bottom

/-- While one object, at p with n words, is looked through: k of its fields are done. -/
structure Inn (S : List Int) (N p n k : Nat) (s : CN) : Prop where
  len : s.ws.length = N
  nums : Nums s.h N
  fro : Fro S s.ws s.h
  olds : ∀ a : Nat, Old s.h a → S.getD a 0 ≠ 0 → s.ws.getD a 0 % 16 ≠ 15 → ∀ i : Nat, 1 ≤ i → (i : Int) < S.getD a 0 → Aim S s.h N (s.ws.getD (a + i) 0)
  sc : s.h.scan = p
  sc0 : s.h.to ≤ p
  hn : n = 3 ∨ n = 6
  pn : (p : Int) + n ≤ s.h.bottom
  left : ∀ i, k < i → i < n → Aim S s.h N (s.ws.getD (p + i) 0)
  row : RowOk S s.ws s.h N (p + n) s.h.bottom.toNat
  r0 : 0 ≤ s.r
  r1 : s.r ≤ 4 * p + s.h.bottom + 1 + 3 * k
  t0 : 0 ≤ s.t
  t1 : s.t ≤ p + 2 * s.h.bottom + k

theorem Scn.enter {S : List Int} {N : Nat} {s : CN} (c : Scn S N s) (hb : s.h.scan ≠ s.h.bottom) : ∃ p n : Nat, s.h.scan = p ∧ s.ws.getD p 0 / 16 = n ∧ Inn S N p n 0 { s with r := s.r + 1 } := by
  have o1 := c.nums.s0
  have o4 := c.nums.to
  have o5 := c.sc0
  have o6 := c.nums.b0
  obtain ⟨p, hp⟩ := Int.eq_ofNat_of_zero_le (show 0 ≤ s.h.scan by omega)
  have hpn : s.h.scan.toNat = p := by omega
  have hr := c.row
  rw [hpn] at hr
  generalize hbt : s.h.bottom.toNat = b at hr
  have hle := hr.le
  cases hr with
  | nil => exact absurd (by omega) hb
  | cons n hn hd hf rest =>
    have hle2 := rest.le
    have e1 := c.r0
    have e2 := c.r1
    have e3 := c.t0
    have e4 := c.t1
    refine ⟨p, n, hp, hd, c.len, c.nums, c.fro, c.olds, hp, by dsimp only; omega, hn, by dsimp only; omega, fun i h1 h2 => hf i (by omega) h2, ?_, ?_, ?_, ?_, ?_⟩
    · dsimp only
      rw [hbt]
      exact rest
    · dsimp only
      omega
    · dsimp only
      omega
    · dsimp only
      omega
    · dsimp only
      omega

theorem Inn.exit {S : List Int} {N p n : Nat} {s : CN} (c : Inn S N p n (n - 1) s) : Scn S N { s with h := { s.h with scan := (p : Int) + n } } := by
  have e1 := c.r1
  have e2 := c.t1
  have e3 := c.hn
  have e4 := c.sc0
  refine ⟨c.len, ⟨c.nums.s0, c.nums.s1, c.nums.len, c.nums.to, c.nums.b0, c.nums.bt, c.nums.te⟩, ⟨c.fro.heads, c.fro.apart⟩, c.olds, ?_, ?_, c.r0, ?_, c.t0, ?_⟩
  · dsimp only
    omega
  · dsimp only
    rw [show ((p : Int) + n).toNat = p + n by omega]
    exact c.row.keep (fun a => Iff.rfl) (fun _ _ _ => rfl)
  · dsimp only
    omega
  · dsimp only
    omega

/-- What is asked ahead of reading the next field. -/
theorem Inn.asks {S : List Int} {N p n k : Nat} {s : CN} (c : Inn S N p n k s) (hk : k + 1 < n) : p + (k + 1) < N ∧ 0 ≤ s.h.to ∧ s.h.to ≤ s.h.size ∧ s.h.size ≤ 4000 ∧ 0 ≤ s.h.bottom ∧ s.h.bottom ≤ s.h.top ∧ s.h.top ≤ (N : Int) ∧ N ≤ 8000 ∧ s.r ≤ 60000 ∧ s.t ≤ 60000 ∧ MoveOk s.ws s.h N (s.ws.getD (p + (k + 1)) 0) ∧ hereZ s.h (s.ws.getD (p + (k + 1)) 0) = !lateZ s.h (s.ws.getD (p + (k + 1)) 0) := by
  have o1 := c.nums.s0
  have o2 := c.nums.s1
  have o3 := c.nums.len
  have o4 := c.nums.to
  have o5 := c.nums.b0
  have o6 := c.nums.bt
  have o7 := c.nums.te
  have e1 := c.r1
  have e2 := c.t1
  have e3 := c.pn
  have e4 := c.hn
  have ha := c.left (k + 1) (by omega) hk
  exact ⟨by omega, by omega, by omega, o2, by omega, o6, by omega, by omega, by omega, by omega, aim_move c.nums c.fro ha, aim_here c.nums ha⟩

theorem Inn.step {S : List Int} {N p n k : Nat} {s s' : CN} {y : Int} (c : Inn S N p n k s) (hk : k + 1 < n) (he : fieldZ s (p + (k + 1)) = (some y, s')) : Inn S N p n (k + 1) s' := by
  have o1 := c.nums.s0
  have o4 := c.nums.to
  have o5 := c.nums.b0
  have o6 := c.nums.bt
  have o7 := c.nums.te
  have e3 := c.pn
  have e4 := c.hn
  have e5 := c.sc0
  have hnq : ∀ j : Nat, s.h.to ≤ (j : Int) → (j : Int) < s.h.to + s.h.size → ¬ Old s.h j := fun j h1 h2 h3 => by unfold Old at h3; omega
  obtain ⟨f1, f2, f3, f4, f5, f6, f7, f8, f9, f10, f11, f12⟩ := fieldZ_keeps c.len c.nums c.fro (c.left (k + 1) (by omega) hk) (hnq _ (by omega) (by omega)) (by omega) he
  have hO : ∀ a, Old s'.h a ↔ Old s.h a := fun a => by rw [f2]; exact Iff.rfl
  have hA : ∀ x, Aim S s.h N x → Aim S s'.h N x := fun x hx hx8 => by
    obtain ⟨a1, a2, a3⟩ := hx hx8
    exact ⟨a1, a2, fun ho => a3 ((hO _).1 ho)⟩
  have g1 := c.r0
  have g2 := c.r1
  have g3 := c.t0
  have g4 := c.t1
  have hto : s'.h.to = s.h.to := by rw [f2]
  have hsz : s'.h.size = s.h.size := by rw [f2]
  refine ⟨f1, f3, f4, fun a ha hS hm i hi1 hi2 => ?_, by rw [f2]; exact c.sc, by rw [hto]; exact e5, e4, by omega, fun i h1 h2 => ?_, ?_, by omega, by push_cast; omega, by omega, by push_cast; omega⟩
  · obtain ⟨m1, m2⟩ := f7 a ((hO a).1 ha) hS hm
    rw [m2 i hi2]
    exact hA _ (c.olds a ((hO a).1 ha) hS m1 i hi1 hi2)
  · rw [f6 (p + i) (hnq _ (by omega) (by omega)) (by omega) (Or.inl (by omega))]
    exact hA _ (c.left i (by omega) h2)
  · have hrow : RowOk S s'.ws s'.h N (p + n) s.h.bottom.toNat := c.row.keep hO (fun j h1 h2 => f6 j (hnq j (by omega) (by omega)) (by omega) (Or.inl (by omega)))
    rcases f8 with h | ⟨a, n1, n2, n3, n4, n5⟩
    · rw [h]
      exact hrow
    · obtain ⟨e6, e7, e8⟩ := c.fro.heads a n1 n2
      obtain ⟨m, hm⟩ := Int.eq_ofNat_of_zero_le (show 0 ≤ S.getD a 0 by omega)
      rw [n4, hm, show (s.h.bottom + (m : Int)).toNat = s.h.bottom.toNat + m by omega]
      rw [hm] at e6 e8
      refine hrow.snoc m (by omega) ?_ (fun i h1 h2 => ?_)
      · have := n5 0 (by omega)
        rw [Nat.add_zero, Nat.add_zero] at this
        rw [this]
        exact e8
      · rw [n5 i (by omega)]
        exact hA _ (c.olds a n1 n2 n3 i h1 (by omega))

/-- The fields of an object, k of them. -/
def fieldsRun (p : Nat) : Nat → CN → Option CN
  | 0, s => some s
  | k + 1, s => match fieldsRun p k s with
    | none => none
    | some s' => match fieldZ s' (p + (k + 1)) with
      | (some _, s'') => some s''
      | (none, _) => none

/-- One object. -/
def scanOne (s : CN) : Option CN :=
  if s.h.scan = s.h.bottom then some s else
  match fieldsRun s.h.scan.toNat ((s.ws.getD s.h.scan.toNat 0 / 16).toNat - 1) { s with r := s.r + 1 } with
  | none => none
  | some s' => some { s' with h := { s'.h with scan := s.h.scan + s.ws.getD s.h.scan.toNat 0 / 16 } }

/-- So many objects. -/
def scanRun : Nat → CN → Option CN
  | 0, s => some s
  | k + 1, s => match scanRun k s with
    | none => none
    | some s' => scanOne s'

theorem fieldsRun_inn {S : List Int} {N p n : Nat} {s : CN} (c : Inn S N p n 0 s) : ∀ k, k < n → ∀ s', fieldsRun p k s = some s' → Inn S N p n k s'
  | 0, _, s', h => by cases h; exact c
  | k + 1, hk, s', h => by
    unfold fieldsRun at h
    cases h1 : fieldsRun p k s with
    | none => rw [h1] at h; cases h
    | some s1 =>
      rw [h1] at h
      have c1 := fieldsRun_inn c k (by omega) s1 h1
      dsimp only at h
      cases h2 : fieldZ s1 (p + (k + 1)) with
      | mk o s2 =>
        rw [h2] at h
        cases o with
        | none => cases h
        | some y =>
          cases h
          exact c1.step hk h2

theorem scanOne_scn {S : List Int} {N : Nat} {s s' : CN} (c : Scn S N s) (h : scanOne s = some s') : Scn S N s' := by
  unfold scanOne at h
  by_cases hb : s.h.scan = s.h.bottom
  · rw [if_pos hb] at h
    cases h
    exact c
  · rw [if_neg hb] at h
    obtain ⟨p, n, hp, hd, ci⟩ := c.enter hb
    rw [show s.h.scan.toNat = p by omega, hd, Int.toNat_natCast] at h
    have hn := ci.hn
    cases h1 : fieldsRun p (n - 1) { s with r := s.r + 1 } with
    | none => rw [h1] at h; cases h
    | some s1 =>
      rw [h1] at h
      cases h
      have c1 := fieldsRun_inn ci (n - 1) (by omega) s1 h1
      rw [hp]
      exact c1.exit

theorem scanRun_scn {S : List Int} {N : Nat} {s : CN} (c : Scn S N s) : ∀ k s', scanRun k s = some s' → Scn S N s'
  | 0, s', h => by cases h; exact c
  | k + 1, s', h => by
    unfold scanRun at h
    cases h1 : scanRun k s with
    | none => rw [h1] at h; cases h
    | some s1 =>
      rw [h1] at h
      exact scanOne_scn (scanRun_scn c k s1 h1) h

theorem scanRun_end {s s' : CN} {k : Nat} (h : scanRun k s = some s') (hb : s'.h.scan = s'.h.bottom) : ∀ j, scanRun (k + j) s = some s'
  | 0 => h
  | j + 1 => by
    rw [← Nat.add_assoc]
    unfold scanRun
    rw [scanRun_end h hb j]
    dsimp only
    unfold scanOne
    rw [if_pos hb]

theorem scanRun_none {s : CN} {k : Nat} (h : scanRun k s = none) : ∀ j, scanRun (k + j) s = none
  | 0 => h
  | j + 1 => by
    rw [← Nat.add_assoc]
    unfold scanRun
    rw [scanRun_none h j]
end Go.Proofs.Ytnoobonlmfgfhaa

/- A heap that may be: its objects lie apart, and those that are to be looked through lie one behind the other. -/
namespace Go.Proofs.Ytnoobonlmfgfhaa
open Go.RowKit

def Apart (S : List Int) : Prop := ∀ a b : Nat, a < b → S.getD a 0 ≠ 0 → S.getD b 0 ≠ 0 → (a : Int) + S.getD a 0 ≤ (b : Int)

theorem lay_apart {ws : List Int} {p to : Nat} {S S' : List Int} (h : lay ws p to S = some S') (hl : to ≤ S.length) (hA : Apart S) (h0 : ∀ a : Nat, 0 ≤ S.getD a 0) (hD : ∀ a : Nat, S.getD a 0 ≠ 0 → (a : Int) + S.getD a 0 ≤ p ∨ to ≤ a) :
    Apart S' ∧ (∀ a : Nat, 0 ≤ S'.getD a 0) ∧ S'.length = S.length ∧ ∀ a : Nat, S'.getD a 0 ≠ 0 → (S.getD a 0 ≠ 0 ∧ S'.getD a 0 = S.getD a 0) ∨ (p ≤ a ∧ (a : Int) + S'.getD a 0 ≤ to) := by
  by_cases hp : p < to
  · by_cases hn : sizeN (ws.getD p 0) = 0 ∨ to < p + sizeN (ws.getD p 0)
    · rw [lay_bad ws S hp hn] at h
      cases h
    · rw [lay_next ws S hp hn] at h
      have g : ∀ a : Nat, (S.set p ((sizeN (ws.getD p 0) : Nat) : Int)).getD a 0 = if a = p then ((sizeN (ws.getD p 0) : Nat) : Int) else S.getD a 0 := fun a => by
        rw [getD_set]
        by_cases e : a = p
        · rw [if_pos ⟨e, by omega⟩, if_pos e]
        · rw [if_neg (by omega), if_neg e]
      obtain ⟨i1, i2, i3, i4⟩ := lay_apart h (by rw [List.length_set]; exact hl) (fun a b hab ha hb => by
        rw [g] at ha hb ⊢
        by_cases ea : a = p
        · rw [if_pos ea] at ha ⊢
          rw [if_neg (by omega)] at hb
          have := hD b hb
          have := h0 b
          omega
        · rw [if_neg ea] at ha ⊢
          by_cases eb : b = p
          · have := hD a ha
            have := h0 a
            omega
          · rw [if_neg eb] at hb
            exact hA a b hab ha hb) (fun a => by
        rw [g]
        split
        · omega
        · exact h0 a) (fun a ha => by
        rw [g] at ha ⊢
        by_cases ea : a = p
        · rw [if_pos ea]
          omega
        · rw [if_neg ea] at ha ⊢
          have := hD a ha
          omega)
      refine ⟨i1, i2, by rw [i3, List.length_set], fun a ha => ?_⟩
      rcases i4 a ha with ⟨j1, j2⟩ | ⟨j1, j2⟩
      · rw [g] at j1 j2
        by_cases ea : a = p
        · rw [if_pos ea] at j2
          right
          omega
        · rw [if_neg ea] at j1 j2
          exact Or.inl ⟨j1, j2⟩
      · right
        omega
  · rw [lay_end ws S hp] at h
    cases h
    exact ⟨hA, h0, rfl, fun a ha => Or.inl ⟨ha, rfl⟩⟩
termination_by to - p
decreasing_by omega

/-- Objects behind one another, as they are noted. -/
inductive LayRow (S : List Int) : Nat → Nat → Prop
  | nil (p : Nat) : LayRow S p p
  | cons {p q : Nat} (n : Nat) (hn : n ≠ 0) (hd : S.getD p 0 = n) (rest : LayRow S (p + n) q) : LayRow S p q

theorem LayRow.le {S : List Int} {p q : Nat} (r : LayRow S p q) : p ≤ q := by
  induction r with
  | nil => exact Nat.le_refl _
  | cons n _ _ _ ih => omega

theorem LayRow.keep {S S' : List Int} {p q : Nat} (r : LayRow S p q) (hw : ∀ j, p ≤ j → j < q → S'.getD j 0 = S.getD j 0) : LayRow S' p q := by
  induction r with
  | nil p => exact LayRow.nil p
  | @cons p q n hn hd rest ih =>
    have hle := rest.le
    exact LayRow.cons n hn (by rw [hw p (Nat.le_refl _) (by omega)]; exact hd) (ih (fun j h1 h2 => hw j (by omega) h2))

theorem LayRow.from {S : List Int} {p q : Nat} (r : LayRow S p q) (hA : Apart S) {c : Nat} (h1 : p ≤ c) (h2 : c < q) (hc : S.getD c 0 ≠ 0) : LayRow S c q := by
  induction r with
  | nil p => omega
  | @cons p q n hn hd rest ih =>
    by_cases e : c = p
    · rw [e]
      exact LayRow.cons n hn hd rest
    · have := hA p c (by omega) (by omega) hc
      exact ih (by omega) h2

theorem lay_row {ws : List Int} {p to : Nat} {S S' : List Int} (h : lay ws p to S = some S') (hl : to ≤ S.length) (hpt : p ≤ to) : LayRow S' p to := by
  by_cases hp : p < to
  · by_cases hn : sizeN (ws.getD p 0) = 0 ∨ to < p + sizeN (ws.getD p 0)
    · rw [lay_bad ws S hp hn] at h
      cases h
    · rw [lay_next ws S hp hn] at h
      have e := lay_else h p (by omega)
      rw [getD_set, if_pos ⟨rfl, by omega⟩] at e
      exact LayRow.cons (sizeN (ws.getD p 0)) (by omega) e (lay_row h (by rw [List.length_set]; exact hl) (by omega))
  · rw [show p = to by omega]
    exact LayRow.nil _
termination_by to - p
decreasing_by omega

theorem zeros_getD (n a : Nat) : (List.replicate n (0 : Int)).getD a 0 = 0 := by
  simp only [List.getD, List.getElem?_replicate]
  split <;> rfl

/-- Where objects lie in a heap that may be. -/
theorem lay_places {ws S : List Int} {h : HpN} (ho : Ordered h ws.length) (hs : specLay ws h = some S) :
    Apart S ∧ (∀ a : Nat, Old h a → S.getD a 0 ≠ 0 → (a : Int) + S.getD a 0 ≤ h.size - h.to + h.size) ∧ LayRow S h.to.toNat h.bottom.toNat := by
  obtain ⟨o1, o2, o3, o4, o5, o6, o7, o8, o9, o10, o11, o12, o13⟩ := ho
  unfold specLay at hs
  cases h1 : lay ws h.to.toNat h.bottom.toNat (List.replicate ws.length 0) with
  | none => rw [h1] at hs; cases hs
  | some S1 =>
    rw [h1] at hs
    dsimp only at hs
    obtain ⟨a1, a2, a3, a4⟩ := lay_apart h1 (by simp; omega) (fun a b _ ha _ => absurd (zeros_getD _ a) ha) (fun a => by rw [zeros_getD]; omega) (fun a ha => absurd (zeros_getD _ a) ha)
    have r1 := lay_row h1 (by simp; omega) (by omega)
    have a4' : ∀ a : Nat, S1.getD a 0 ≠ 0 → h.to.toNat ≤ a ∧ (a : Int) + S1.getD a 0 ≤ h.bottom.toNat := fun a ha => by
      rcases a4 a ha with ⟨j, _⟩ | j
      · exact absurd (zeros_getD _ a) j
      · exact j
    rw [List.length_replicate] at a3
    cases h2 : lay ws h.top.toNat (h.to + h.size).toNat S1 with
    | none => rw [h2] at hs; cases hs
    | some S2 =>
      rw [h2] at hs
      dsimp only at hs
      obtain ⟨b1, b2, b3, b4⟩ := lay_apart h2 (by omega) a1 a2 (fun a ha => by have := a4' a ha; omega)
      have b4' : ∀ a : Nat, S2.getD a 0 ≠ 0 → h.to.toNat ≤ a ∧ (a : Int) + S2.getD a 0 ≤ (h.to + h.size).toNat := fun a ha => by
        rcases b4 a ha with ⟨j1, j2⟩ | j
        · have := a4' a j1
          omega
        · omega
      have r2 : LayRow S2 h.to.toNat h.bottom.toNat := r1.keep (fun j _ j2 => lay_else h2 j (by omega))
      by_cases hb : h.scan < h.bottom
      · rw [if_pos hb] at hs
        cases h3 : lay ws (h.size - h.to).toNat h.fb.toNat S2 with
        | none => rw [h3] at hs; cases hs
        | some S3 =>
          rw [h3] at hs
          dsimp only at hs
          obtain ⟨c1, c2, c3, c4⟩ := lay_apart h3 (by omega) b1 b2 (fun a ha => by have := b4' a ha; have := b2 a; omega)
          have c4' : ∀ a : Nat, S3.getD a 0 ≠ 0 → (S2.getD a 0 ≠ 0 ∧ S3.getD a 0 = S2.getD a 0) ∨ ((h.size - h.to).toNat ≤ a ∧ (a : Int) + S3.getD a 0 ≤ h.fb.toNat) := c4
          obtain ⟨d1, d2, d3, d4⟩ := lay_apart hs (by omega) c1 c2 (fun a ha => by
            rcases c4' a ha with ⟨j1, j2⟩ | j
            · have := b4' a j1
              have := b2 a
              omega
            · omega)
          refine ⟨d1, fun a ha hS => ?_, r2.keep (fun j j1 j2 => (lay_else hs j (by omega)).trans (lay_else h3 j (by omega)))⟩
          unfold Old at ha
          rcases d4 a hS with ⟨j1, j2⟩ | j
          · rcases c4' a j1 with ⟨k1, k2⟩ | k
            · have := b4' a k1
              have := b2 a
              omega
            · omega
          · omega
      · rw [if_neg hb] at hs
        cases hs
        refine ⟨b1, fun a ha hS => ?_, r2⟩
        unfold Old at ha
        have := b4' a hS
        have := b2 a
        omega

theorem good_aim {ws S : List Int} {h : HpN} {x : Int} (hg : GoodW ws S x) : Aim S h ws.length x := fun hx => ⟨(hg hx).1, (hg hx).2.1, fun _ => (hg hx).2.2⟩

/-- Looking through may begin. -/
theorem scn_start {ws S : List Int} {h : HpN} (ok : OkHeap ws S h) : Scn S ws.length ⟨ws, h, 0, 0⟩ := by
  obtain ⟨p1, p2, p3⟩ := lay_places ok.ord ok.spec
  have hd := heads_noted ok.noted
  obtain ⟨o1, o2, o3, o4, o5, o6, o7, o8, o9, o10, o11, o12, o13⟩ := id ok.ord
  have hfield : ∀ a : Nat, S.getD a 0 ≠ 0 → ws.getD a 0 % 16 ≠ 15 → ∀ i : Nat, 1 ≤ i → (i : Int) < S.getD a 0 → Aim S h ws.length (ws.getD (a + i) 0) := fun a hS hm i h1 h2 => by
    have e := field_good ok hS hm (i := i - 1) (by omega)
    rw [show a + 1 + (i - 1) = a + i by omega] at e
    exact good_aim e
  refine ⟨rfl, ⟨o1, o2, o3, o4, by dsimp only; omega, o9, o10⟩, ⟨fun a ha hS => ⟨(hd.2 a hS).1, p2 a ha hS, (hd.2 a hS).2.2⟩, p1⟩, fun a _ hS hm => hfield a hS hm, o7, ?_, by dsimp only; omega, by dsimp only; omega, by dsimp only; omega, by dsimp only; omega⟩
  dsimp only
  by_cases hb : h.scan < h.bottom
  · have r := p3.from p1 (c := h.scan.toNat) (by omega) (by omega) (ok.scan hb)
    have conv : ∀ p q, LayRow S p q → h.to ≤ (p : Int) → (q : Int) ≤ h.to + h.size → RowOk S ws h ws.length p q := by
      intro p q r
      induction r with
      | nil p => exact fun _ _ => RowOk.nil p
      | @cons p q n hn hd' rest ih =>
        intro h1 h2
        have hle := rest.le
        have hS : S.getD p 0 ≠ 0 := by omega
        obtain ⟨e1, e2, e3⟩ := hd.2 p hS
        have hm := used_stays ok hS (inZ_iff.2 ⟨h1, by omega⟩)
        exact RowOk.cons n (by omega) (by rw [e3, hd']) (fun i h3 h4 => hfield p hS hm i h3 (by omega)) (ih (by omega) h2)
    exact conv _ _ r (by omega) (by omega)
  · rw [show h.scan.toNat = h.bottom.toNat by omega]
    exact RowOk.nil _
end Go.Proofs.Ytnoobonlmfgfhaa
