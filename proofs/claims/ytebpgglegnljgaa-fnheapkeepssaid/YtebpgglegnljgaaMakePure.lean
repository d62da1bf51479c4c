/- To look through objects leaves the first words of those in use as they were: roots may be moved behind it. -/
import Derived.Test.YtebpgglegnljgaaFlipPure
namespace Go.Proofs.Ytebpgglegnljgaa
open Go.RowKit

/-- Objects in use end ahead of Bottom or begin at Top or behind it. -/
theorem lay_sides {ws S : List Int} {h : HpN} (ho : Ordered h ws.length) (hs : specLay ws h = some S) : ∀ a : Nat, inZ h (a : Int) = true → S.getD a 0 ≠ 0 → (a : Int) + S.getD a 0 ≤ h.bottom ∨ h.top ≤ (a : Int) := by
  obtain ⟨o1, o2, o3, o4, o5, o6, o7, o8, o9, o10, o11, o12, o13⟩ := ho
  unfold specLay at hs
  intro a ha hS
  rw [inZ_iff] at ha
  cases h1 : lay ws h.to.toNat h.bottom.toNat (List.replicate ws.length 0) with
  | none => rw [h1] at hs; cases hs
  | some S1 =>
    rw [h1] at hs
    dsimp only at hs
    obtain ⟨a1, a2, a3, a4⟩ := lay_apart h1 (by simp; omega) (fun a b _ ha _ => absurd (zeros_getD _ a) ha) (fun a => by rw [zeros_getD]; omega) (fun a ha => absurd (zeros_getD _ a) ha)
    have a4' : ∀ a : Nat, S1.getD a 0 ≠ 0 → h.to.toNat ≤ a ∧ (a : Int) + S1.getD a 0 ≤ h.bottom.toNat := fun a ha => by
      rcases a4 a ha with ⟨j, _⟩ | j
      · exact absurd (zeros_getD _ a) j
      · exact j
    rw [List.length_replicate] at a3
    cases h2 : lay ws h.top.toNat (h.to + h.size).toNat S1 with
    | none => rw [h2] at hs; cases hs
    | some S2 =>
      rw [h2] at hs
      dsimp only at hs
      obtain ⟨b1, b2, b3, b4⟩ := lay_apart h2 (by omega) a1 a2 (fun a ha => by have := a4' a ha; omega)
      have b5 : ∀ a : Nat, S2.getD a 0 ≠ 0 → (a : Int) + S2.getD a 0 ≤ h.bottom ∨ h.top ≤ (a : Int) := fun a ha => by
        rcases b4 a ha with ⟨j1, j2⟩ | j
        · have := a4' a j1
          omega
        · omega
      by_cases hb : h.scan < h.bottom
      · rw [if_pos hb] at hs
        cases h3 : lay ws (h.size - h.to).toNat h.fb.toNat S2 with
        | none => rw [h3] at hs; cases hs
        | some S3 =>
          rw [h3] at hs
          dsimp only at hs
          have e1 := lay_else hs a (by omega)
          have e2 := lay_else h3 a (by omega)
          rw [e1, e2] at hS ⊢
          exact b5 a hS
      · rw [if_neg hb] at hs
        cases hs
        exact b5 a hS

/-- What is known of the heap that was handed in. -/
structure UsdF (S : List Int) (h : HpN) (W : List Int) : Prop where
  apart : Apart S
  sides : ∀ a : Nat, inZ h (a : Int) = true → S.getD a 0 ≠ 0 → (a : Int) + S.getD a 0 ≤ h.bottom ∨ h.top ≤ (a : Int)
  heads : ∀ a : Nat, S.getD a 0 ≠ 0 → (S.getD a 0 = 3 ∨ S.getD a 0 = 6) ∧ W.getD a 0 / 16 = S.getD a 0
  b0 : 0 ≤ h.bottom
  bt : h.bottom ≤ h.top
  te : h.top ≤ h.to + h.size

/-- While objects are looked through: those in use keep their first words. -/
structure Usd (S : List Int) (h : HpN) (W : List Int) (s : CN) : Prop where
  to : s.h.to = h.to
  size : s.h.size = h.size
  top : s.h.top = h.top
  bot : h.bottom ≤ s.h.bottom
  kept : ∀ a : Nat, inZ h (a : Int) = true → S.getD a 0 ≠ 0 → s.ws.getD a 0 = W.getD a 0
  row : s.h.scan < h.bottom → LayRow S s.h.scan.toNat h.bottom.toNat

theorem fields_usd {S W : List Int} {h : HpN} {N p n : Nat} {s : CN} (F : UsdF S h W) (c : Inn S N p n 0 s) (u : Usd S h W s) (hpn : (p : Int) < h.bottom → S.getD p 0 = n) : ∀ k, k < n → ∀ s', fieldsRun p k s = some s' → Usd S h W s'
  | 0, _, s', he => by cases he; exact u
  | k + 1, hk, s', he => by
    unfold fieldsRun at he
    cases h1 : fieldsRun p k s with
    | none => rw [h1] at he; cases he
    | some s1 =>
      rw [h1] at he
      have c1 := fieldsRun_inn c k (by omega) s1 h1
      have u1 := fields_usd F c u hpn k (by omega) s1 h1
      dsimp only at he
      cases h2 : fieldZ s1 (p + (k + 1)) with
      | mk o s2 =>
        rw [h2] at he
        cases o with
        | none => cases he
        | some y =>
          cases he
          have o1 := c1.nums.s0
          have o4 := c1.nums.to
          have o5 := c1.nums.b0
          have o6 := c1.nums.bt
          have o7 := c1.nums.te
          have e3 := c1.pn
          have e5 := c1.sc0
          have v1 := u1.to
          have v2 := u1.size
          have v3 := u1.top
          have v4 := u1.bot
          have hnq : ∀ j : Nat, s1.h.to ≤ (j : Int) → (j : Int) < s1.h.to + s1.h.size → ¬ Old s1.h j := fun j h1 h2 h3 => by unfold Old at h3; omega
          obtain ⟨f1, f2, f3, f4, f5, f6, f7, f8, f9, f10, f11, f12⟩ := fieldZ_keeps c1.len c1.nums c1.fro (c1.left (k + 1) (by omega) hk) (hnq _ (by omega) (by omega)) (by omega) h2
          have t1 : s'.h.to = s1.h.to := by rw [f2]
          have t2 : s'.h.size = s1.h.size := by rw [f2]
          have t3 : s'.h.top = s1.h.top := by rw [f2]
          have t4 : s'.h.scan = s1.h.scan := by rw [f2]
          have t5 := f3.bt
          refine ⟨by omega, by omega, by omega, by omega, fun a ha hS => ?_, fun hb => ?_⟩
          · have hz := inZ_iff.1 ha
            have hs := F.sides a ha hS
            have hh := (F.heads a hS).1
            have hb := F.bt
            rw [f6 a (hnq _ (by omega) (by omega)) ?_ (by omega)]
            · exact u1.kept a ha hS
            · intro e
              by_cases hp : (p : Int) < h.bottom
              · have hp' := hpn hp
                have := F.apart p a (by omega) (by omega) hS
                omega
              · omega
          · rw [t4] at hb ⊢
            exact u1.row hb

theorem scanOne_usd {S W : List Int} {h : HpN} {N : Nat} {s s' : CN} (F : UsdF S h W) (c : Scn S N s) (u : Usd S h W s) (he : scanOne s = some s') : Usd S h W s' := by
  unfold scanOne at he
  by_cases hb : s.h.scan = s.h.bottom
  · rw [if_pos hb] at he
    cases he
    exact u
  · rw [if_neg hb] at he
    obtain ⟨p, n, hp, hd, ci⟩ := c.enter hb
    have hpt : s.h.scan.toNat = p := by omega
    have hn := ci.hn
    have q1 := c.sc0
    have q2 := u.to
    have q3 := F.bt
    have q4 := F.te
    have q5 := F.b0
    have hrow : (p : Int) < h.bottom → S.getD p 0 = n ∧ LayRow S (p + n) h.bottom.toNat := fun hlt => by
      have r := u.row (by omega)
      rw [hpt] at r
      generalize hbb : h.bottom.toNat = b at r
      cases r with
      | nil => omega
      | cons m hm hS rest =>
        have hS0 : S.getD p 0 ≠ 0 := by omega
        have e1 := u.kept p (inZ_iff.2 ⟨by omega, by omega⟩) hS0
        have e2 := (F.heads p hS0).2
        rw [← e1, hd] at e2
        have e3 : m = n := by omega
        rw [e3] at rest
        exact ⟨e2.symm, rest⟩
    rw [hpt, hd, Int.toNat_natCast] at he
    cases h1 : fieldsRun p (n - 1) { s with r := s.r + 1 } with
    | none => rw [h1] at he; cases he
    | some s1 =>
      rw [h1] at he
      cases he
      have u1 := fields_usd F ci ⟨u.to, u.size, u.top, u.bot, u.kept, u.row⟩ (fun hlt => (hrow hlt).1) (n - 1) (by omega) s1 h1
      refine ⟨u1.to, u1.size, u1.top, u1.bot, u1.kept, fun hlt => ?_⟩
      dsimp only at hlt ⊢
      rw [hp, show ((p : Int) + (n : Int)).toNat = p + n by omega]
      exact (hrow (by omega)).2

theorem scanRun_usd {S W : List Int} {h : HpN} {N : Nat} {s : CN} (F : UsdF S h W) (c : Scn S N s) (u : Usd S h W s) : ∀ k s', scanRun k s = some s' → Usd S h W s'
  | 0, s', he => by cases he; exact u
  | k + 1, s', he => by
    unfold scanRun at he
    cases h1 : scanRun k s with
    | none => rw [h1] at he; cases he
    | some s1 =>
      rw [h1] at he
      exact scanOne_usd F (scanRun_scn c k s1 h1) (scanRun_usd F c u k s1 h1) he

theorem usd_facts {ws S : List Int} {h : HpN} (ok : OkHeap ws S h) : UsdF S h ws := by
  obtain ⟨p1, p2, p3⟩ := lay_places ok.ord ok.spec
  have hd := heads_noted ok.noted
  obtain ⟨o1, o2, o3, o4, o5, o6, o7, o8, o9, o10, o11, o12, o13⟩ := id ok.ord
  exact ⟨p1, lay_sides ok.ord ok.spec, fun a hS => ⟨(hd.2 a hS).1, (hd.2 a hS).2.2⟩, by omega, o9, o10⟩

theorem usd_start {ws S : List Int} {h : HpN} (ok : OkHeap ws S h) : Usd S h ws ⟨ws, h, 0, 0⟩ := by
  obtain ⟨p1, p2, p3⟩ := lay_places ok.ord ok.spec
  obtain ⟨o1, o2, o3, o4, o5, o6, o7, o8, o9, o10, o11, o12, o13⟩ := id ok.ord
  refine ⟨rfl, rfl, rfl, Int.le_refl _, fun _ _ _ => rfl, fun hb => ?_⟩
  dsimp only at hb ⊢
  exact p3.from p1 (c := h.scan.toNat) (by omega) (by omega) (ok.scan hb)

/-- Behind looking through, and a change of spaces, words may be moved. -/
theorem mvs_scanned {ws S : List Int} {h : HpN} (ok : OkHeap ws S h) {n : Nat} {s : CN} (hr : scanRun n ⟨ws, h, 0, 0⟩ = some s) : Mvs S ws.length 0 { s with h := flipH s.h } := by
  have c := scanRun_scn (scn_start ok) n s hr
  have u := scanRun_usd (usd_facts ok) (scn_start ok) (usd_start ok) n s hr
  have F := usd_facts ok
  have o1 := c.nums.s0
  have o2 := c.nums.s1
  have o4 := c.nums.to
  have o6 := c.nums.bt
  have o7 := c.nums.te
  have e1 := c.r1
  have e2 := c.t1
  have e3 := c.row.le
  have e4 := c.sc0
  have e5 := c.nums.b0
  exact mvs_start ok u.size u.to c.len (fun a ha hS => by rw [u.kept a ha hS]; exact (F.heads a hS).2) c.r0 (by omega) c.t0 (by omega)
end Go.Proofs.Ytebpgglegnljgaa
