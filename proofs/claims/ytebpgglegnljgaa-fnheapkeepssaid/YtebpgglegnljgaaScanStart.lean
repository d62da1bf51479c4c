/- A heap that may be: its objects lie apart, and those that are to be looked through lie one behind the other. -/
import Derived.Test.YtebpgglegnljgaaScanRun
namespace Go.Proofs.Ytebpgglegnljgaa
open Go.RowKit

def Apart (S : List Int) : Prop := ∀ a b : Nat, a < b → S.getD a 0 ≠ 0 → S.getD b 0 ≠ 0 → (a : Int) + S.getD a 0 ≤ (b : Int)

theorem lay_apart {ws : List Int} {p to : Nat} {S S' : List Int} (h : lay ws p to S = some S') (hl : to ≤ S.length) (hA : Apart S) (h0 : ∀ a : Nat, 0 ≤ S.getD a 0) (hD : ∀ a : Nat, S.getD a 0 ≠ 0 → (a : Int) + S.getD a 0 ≤ p ∨ to ≤ a) :
    Apart S' ∧ (∀ a : Nat, 0 ≤ S'.getD a 0) ∧ S'.length = S.length ∧ ∀ a : Nat, S'.getD a 0 ≠ 0 → (S.getD a 0 ≠ 0 ∧ S'.getD a 0 = S.getD a 0) ∨ (p ≤ a ∧ (a : Int) + S'.getD a 0 ≤ to) := by
  by_cases hp : p < to
  · by_cases hn : sizeN (ws.getD p 0) = 0 ∨ to < p + sizeN (ws.getD p 0)
    · rw [lay_bad ws S hp hn] at h
      cases h
    · rw [lay_next ws S hp hn] at h
      have g : ∀ a : Nat, (S.set p ((sizeN (ws.getD p 0) : Nat) : Int)).getD a 0 = if a = p then ((sizeN (ws.getD p 0) : Nat) : Int) else S.getD a 0 := fun a => by
        rw [getD_set]
        by_cases e : a = p
        · rw [if_pos ⟨e, by omega⟩, if_pos e]
        · rw [if_neg (by omega), if_neg e]
      obtain ⟨i1, i2, i3, i4⟩ := lay_apart h (by rw [List.length_set]; exact hl) (fun a b hab ha hb => by
        rw [g] at ha hb ⊢
        by_cases ea : a = p
        · rw [if_pos ea] at ha ⊢
          rw [if_neg (by omega)] at hb
          have := hD b hb
          have := h0 b
          omega
        · rw [if_neg ea] at ha ⊢
          by_cases eb : b = p
          · have := hD a ha
            have := h0 a
            omega
          · rw [if_neg eb] at hb
            exact hA a b hab ha hb) (fun a => by
        rw [g]
        split
        · omega
        · exact h0 a) (fun a ha => by
        rw [g] at ha ⊢
        by_cases ea : a = p
        · rw [if_pos ea]
          omega
        · rw [if_neg ea] at ha ⊢
          have := hD a ha
          omega)
      refine ⟨i1, i2, by rw [i3, List.length_set], fun a ha => ?_⟩
      rcases i4 a ha with ⟨j1, j2⟩ | ⟨j1, j2⟩
      · rw [g] at j1 j2
        by_cases ea : a = p
        · rw [if_pos ea] at j2
          right
          omega
        · rw [if_neg ea] at j1 j2
          exact Or.inl ⟨j1, j2⟩
      · right
        omega
  · rw [lay_end ws S hp] at h
    cases h
    exact ⟨hA, h0, rfl, fun a ha => Or.inl ⟨ha, rfl⟩⟩
termination_by to - p
decreasing_by omega

/-- Objects behind one another, as they are noted. -/
inductive LayRow (S : List Int) : Nat → Nat → Prop
  | nil (p : Nat) : LayRow S p p
  | cons {p q : Nat} (n : Nat) (hn : n ≠ 0) (hd : S.getD p 0 = n) (rest : LayRow S (p + n) q) : LayRow S p q

theorem LayRow.le {S : List Int} {p q : Nat} (r : LayRow S p q) : p ≤ q := by
  induction r with
  | nil => exact Nat.le_refl _
  | cons n _ _ _ ih => omega

theorem LayRow.keep {S S' : List Int} {p q : Nat} (r : LayRow S p q) (hw : ∀ j, p ≤ j → j < q → S'.getD j 0 = S.getD j 0) : LayRow S' p q := by
  induction r with
  | nil p => exact LayRow.nil p
  | @cons p q n hn hd rest ih =>
    have hle := rest.le
    exact LayRow.cons n hn (by rw [hw p (Nat.le_refl _) (by omega)]; exact hd) (ih (fun j h1 h2 => hw j (by omega) h2))

theorem LayRow.from {S : List Int} {p q : Nat} (r : LayRow S p q) (hA : Apart S) {c : Nat} (h1 : p ≤ c) (h2 : c < q) (hc : S.getD c 0 ≠ 0) : LayRow S c q := by
  induction r with
  | nil p => omega
  | @cons p q n hn hd rest ih =>
    by_cases e : c = p
    · rw [e]
      exact LayRow.cons n hn hd rest
    · have := hA p c (by omega) (by omega) hc
      exact ih (by omega) h2

theorem lay_row {ws : List Int} {p to : Nat} {S S' : List Int} (h : lay ws p to S = some S') (hl : to ≤ S.length) (hpt : p ≤ to) : LayRow S' p to := by
  by_cases hp : p < to
  · by_cases hn : sizeN (ws.getD p 0) = 0 ∨ to < p + sizeN (ws.getD p 0)
    · rw [lay_bad ws S hp hn] at h
      cases h
    · rw [lay_next ws S hp hn] at h
      have e := lay_else h p (by omega)
      rw [getD_set, if_pos ⟨rfl, by omega⟩] at e
      exact LayRow.cons (sizeN (ws.getD p 0)) (by omega) e (lay_row h (by rw [List.length_set]; exact hl) (by omega))
  · rw [show p = to by omega]
    exact LayRow.nil _
termination_by to - p
decreasing_by omega

theorem zeros_getD (n a : Nat) : (List.replicate n (0 : Int)).getD a 0 = 0 := by
  simp only [List.getD, List.getElem?_replicate]
  split <;> rfl

/-- Where objects lie in a heap that may be. -/
theorem lay_places {ws S : List Int} {h : HpN} (ho : Ordered h ws.length) (hs : specLay ws h = some S) :
    Apart S ∧ (∀ a : Nat, Old h a → S.getD a 0 ≠ 0 → (a : Int) + S.getD a 0 ≤ h.size - h.to + h.size) ∧ LayRow S h.to.toNat h.bottom.toNat := by
  obtain ⟨o1, o2, o3, o4, o5, o6, o7, o8, o9, o10, o11, o12, o13⟩ := ho
  unfold specLay at hs
  cases h1 : lay ws h.to.toNat h.bottom.toNat (List.replicate ws.length 0) with
  | none => rw [h1] at hs; cases hs
  | some S1 =>
    rw [h1] at hs
    dsimp only at hs
    obtain ⟨a1, a2, a3, a4⟩ := lay_apart h1 (by simp; omega) (fun a b _ ha _ => absurd (zeros_getD _ a) ha) (fun a => by rw [zeros_getD]; omega) (fun a ha => absurd (zeros_getD _ a) ha)
    have r1 := lay_row h1 (by simp; omega) (by omega)
    have a4' : ∀ a : Nat, S1.getD a 0 ≠ 0 → h.to.toNat ≤ a ∧ (a : Int) + S1.getD a 0 ≤ h.bottom.toNat := fun a ha => by
      rcases a4 a ha with ⟨j, _⟩ | j
      · exact absurd (zeros_getD _ a) j
      · exact j
    rw [List.length_replicate] at a3
    cases h2 : lay ws h.top.toNat (h.to + h.size).toNat S1 with
    | none => rw [h2] at hs; cases hs
    | some S2 =>
      rw [h2] at hs
      dsimp only at hs
      obtain ⟨b1, b2, b3, b4⟩ := lay_apart h2 (by omega) a1 a2 (fun a ha => by have := a4' a ha; omega)
      have b4' : ∀ a : Nat, S2.getD a 0 ≠ 0 → h.to.toNat ≤ a ∧ (a : Int) + S2.getD a 0 ≤ (h.to + h.size).toNat := fun a ha => by
        rcases b4 a ha with ⟨j1, j2⟩ | j
        · have := a4' a j1
          omega
        · omega
      have r2 : LayRow S2 h.to.toNat h.bottom.toNat := r1.keep (fun j _ j2 => lay_else h2 j (by omega))
      by_cases hb : h.scan < h.bottom
      · rw [if_pos hb] at hs
        cases h3 : lay ws (h.size - h.to).toNat h.fb.toNat S2 with
        | none => rw [h3] at hs; cases hs
        | some S3 =>
          rw [h3] at hs
          dsimp only at hs
          obtain ⟨c1, c2, c3, c4⟩ := lay_apart h3 (by omega) b1 b2 (fun a ha => by have := b4' a ha; have := b2 a; omega)
          have c4' : ∀ a : Nat, S3.getD a 0 ≠ 0 → (S2.getD a 0 ≠ 0 ∧ S3.getD a 0 = S2.getD a 0) ∨ ((h.size - h.to).toNat ≤ a ∧ (a : Int) + S3.getD a 0 ≤ h.fb.toNat) := c4
          obtain ⟨d1, d2, d3, d4⟩ := lay_apart hs (by omega) c1 c2 (fun a ha => by
            rcases c4' a ha with ⟨j1, j2⟩ | j
            · have := b4' a j1
              have := b2 a
              omega
            · omega)
          refine ⟨d1, fun a ha hS => ?_, r2.keep (fun j j1 j2 => (lay_else hs j (by omega)).trans (lay_else h3 j (by omega)))⟩
          unfold Old at ha
          rcases d4 a hS with ⟨j1, j2⟩ | j
          · rcases c4' a j1 with ⟨k1, k2⟩ | k
            · have := b4' a k1
              have := b2 a
              omega
            · omega
          · omega
      · rw [if_neg hb] at hs
        cases hs
        refine ⟨b1, fun a ha hS => ?_, r2⟩
        unfold Old at ha
        have := b4' a hS
        have := b2 a
        omega

theorem good_aim {ws S : List Int} {h : HpN} {x : Int} (hg : GoodW ws S x) : Aim S h ws.length x := fun hx => ⟨(hg hx).1, (hg hx).2.1, fun _ => (hg hx).2.2⟩

/-- Looking through may begin. -/
theorem scn_start {ws S : List Int} {h : HpN} (ok : OkHeap ws S h) : Scn S ws.length ⟨ws, h, 0, 0⟩ := by
  obtain ⟨p1, p2, p3⟩ := lay_places ok.ord ok.spec
  have hd := heads_noted ok.noted
  obtain ⟨o1, o2, o3, o4, o5, o6, o7, o8, o9, o10, o11, o12, o13⟩ := id ok.ord
  have hfield : ∀ a : Nat, S.getD a 0 ≠ 0 → ws.getD a 0 % 16 ≠ 15 → ∀ i : Nat, 1 ≤ i → (i : Int) < S.getD a 0 → Aim S h ws.length (ws.getD (a + i) 0) := fun a hS hm i h1 h2 => by
    have e := field_good ok hS hm (i := i - 1) (by omega)
    rw [show a + 1 + (i - 1) = a + i by omega] at e
    exact good_aim e
  refine ⟨rfl, ⟨o1, o2, o3, o4, by dsimp only; omega, o9, o10⟩, ⟨fun a ha hS => ⟨(hd.2 a hS).1, p2 a ha hS, (hd.2 a hS).2.2⟩, p1⟩, fun a _ hS hm => hfield a hS hm, o7, ?_, by dsimp only; omega, by dsimp only; omega, by dsimp only; omega, by dsimp only; omega⟩
  dsimp only
  by_cases hb : h.scan < h.bottom
  · have r := p3.from p1 (c := h.scan.toNat) (by omega) (by omega) (ok.scan hb)
    have conv : ∀ p q, LayRow S p q → h.to ≤ (p : Int) → (q : Int) ≤ h.to + h.size → RowOk S ws h ws.length p q := by
      intro p q r
      induction r with
      | nil p => exact fun _ _ => RowOk.nil p
      | @cons p q n hn hd' rest ih =>
        intro h1 h2
        have hle := rest.le
        have hS : S.getD p 0 ≠ 0 := by omega
        obtain ⟨e1, e2, e3⟩ := hd.2 p hS
        have hm := used_stays ok hS (inZ_iff.2 ⟨h1, by omega⟩)
        exact RowOk.cons n (by omega) (by rw [e3, hd']) (fun i h3 h4 => hfield p hS hm i h3 (by omega)) (ih (by omega) h2)
    exact conv _ _ r (by omega) (by omega)
  · rw [show h.scan.toNat = h.bottom.toNat by omega]
    exact RowOk.nil _
end Go.Proofs.Ytebpgglegnljgaa
