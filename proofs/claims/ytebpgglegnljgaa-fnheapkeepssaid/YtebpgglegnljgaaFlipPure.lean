/- The spaces change, and words are moved in order, in plain words. -/
import Derived.Test.YtebpgglegnljgaaScanStart
namespace Go.Proofs.Ytebpgglegnljgaa
open Go.RowKit

/-- The numbers behind a change of spaces. -/
def flipH (h : HpN) : HpN := ⟨h.size, h.size - h.to, h.size - h.to, h.size - h.to + h.size, h.size - h.to, h.bottom, h.top, wrap64 (h.flips + 1), h.touched⟩

/-- Words are moved, k of them. -/
def movesRun (xs : List Int) : Nat → CN → Option (List Int × CN)
  | 0, s => some (xs, s)
  | k + 1, s => match movesRun xs k s with
    | none => none
    | some (ys, s') => match moveZ s' (ys.getD k 0) with
      | (some y, s'') => some (ys.set k y, s'')
      | (none, _) => none

theorem movesRun_none {xs : List Int} {s : CN} {k : Nat} (h : movesRun xs k s = none) : ∀ j, movesRun xs (k + j) s = none
  | 0 => h
  | j + 1 => by
    rw [← Nat.add_assoc]
    unfold movesRun
    rw [movesRun_none h j]

theorem movesRun_more {xs ys : List Int} {s s' s'' : CN} {k : Nat} {y : Int} (h : movesRun xs k s = some (ys, s')) (he : moveZ s' (ys.getD k 0) = (some y, s'')) : movesRun xs (k + 1) s = some (ys.set k y, s'') := by
  unfold movesRun
  rw [h]
  dsimp only
  rw [he]

theorem movesRun_stop {xs ys : List Int} {s s' s'' : CN} {k : Nat} (h : movesRun xs k s = some (ys, s')) (he : moveZ s' (ys.getD k 0) = (none, s'')) : movesRun xs (k + 1) s = none := by
  unfold movesRun
  rw [h]
  dsimp only
  rw [he]

/-- While words are moved: j moves were made. -/
structure Mvs (S : List Int) (N j : Nat) (s : CN) : Prop where
  len : s.ws.length = N
  nums : Nums s.h N
  fro : Fro S s.ws s.h
  r0 : 0 ≤ s.r
  r1 : s.r ≤ 40000 + 2 * j + s.h.bottom
  t0 : 0 ≤ s.t
  t1 : s.t ≤ 40000 + 2 * s.h.bottom

theorem Mvs.asks {S : List Int} {N j : Nat} {s : CN} {x : Int} (c : Mvs S N j s) (hj : j ≤ 30) (ha : Aim S s.h N x) : 0 ≤ s.h.to ∧ s.h.to ≤ s.h.size ∧ s.h.size ≤ 4000 ∧ 0 ≤ s.h.bottom ∧ s.h.bottom ≤ s.h.top ∧ s.h.top ≤ (N : Int) ∧ N ≤ 8000 ∧ s.r ≤ 70000 ∧ s.t ≤ 70000 ∧ MoveOk s.ws s.h N x ∧ hereZ s.h x = !lateZ s.h x := by
  have o1 := c.nums.s0
  have o2 := c.nums.s1
  have o3 := c.nums.len
  have o4 := c.nums.to
  have o5 := c.nums.b0
  have o6 := c.nums.bt
  have o7 := c.nums.te
  have e1 := c.r1
  have e2 := c.t1
  exact ⟨by omega, by omega, o2, by omega, o6, by omega, by omega, by omega, by omega, aim_move c.nums c.fro ha, aim_here c.nums ha⟩

theorem Mvs.step {S : List Int} {N j : Nat} {s : CN} {x : Int} (c : Mvs S N j s) (ha : Aim S s.h N x) : Mvs S N (j + 1) (moveZ s x).2 ∧ ∀ y, Aim S s.h N y → Aim S (moveZ s x).2.h N y := by
  have m := moveZ_keeps c.len c.nums c.fro ha
  have e1 := m.r0
  have e2 := m.r1
  have e3 := m.t0
  have e4 := m.t1
  have e5 := c.r0
  have e6 := c.r1
  have e7 := c.t0
  have e8 := c.t1
  have e9 := m.grow
  refine ⟨⟨m.len.trans c.len, m.nums, m.fro, by omega, by push_cast; omega, by omega, by omega⟩, fun y hy hy8 => ?_⟩
  obtain ⟨a1, a2, a3⟩ := hy hy8
  refine ⟨a1, a2, fun ho => a3 ?_⟩
  rw [m.h] at ho
  exact ho

theorem movesRun_mvs {S : List Int} {N j : Nat} {s : CN} {xs : List Int} (c : Mvs S N j s) (ha : ∀ i, i < xs.length → Aim S s.h N (xs.getD i 0)) : ∀ k, k ≤ xs.length → ∀ ys s', movesRun xs k s = some (ys, s') → Mvs S N (j + k) s' ∧ ys.length = xs.length ∧ ∀ i, k ≤ i → i < xs.length → ys.getD i 0 = xs.getD i 0 ∧ Aim S s'.h N (xs.getD i 0)
  | 0, _, ys, s', h => by
    cases h
    exact ⟨c, rfl, fun i _ hi => ⟨rfl, ha i hi⟩⟩
  | k + 1, hk, ys, s', h => by
    unfold movesRun at h
    cases h1 : movesRun xs k s with
    | none => rw [h1] at h; cases h
    | some r =>
      obtain ⟨zs, s1⟩ := r
      rw [h1] at h
      obtain ⟨c1, hl, hi⟩ := movesRun_mvs c ha k (by omega) zs s1 h1
      dsimp only at h
      obtain ⟨e1, e2⟩ := hi k (Nat.le_refl _) (by omega)
      rw [← e1] at e2
      obtain ⟨c2, hA⟩ := c1.step e2
      cases h2 : moveZ s1 (zs.getD k 0) with
      | mk o s2 =>
        rw [h2] at h c2 hA
        cases o with
        | none => cases h
        | some y =>
          cases h
          refine ⟨c2, by rw [List.length_set, hl], fun i h3 h4 => ?_⟩
          obtain ⟨f1, f2⟩ := hi i (by omega) h4
          refine ⟨?_, hA _ f2⟩
          rw [getD_set, if_neg (by omega)]
          exact f1

/-- Objects in use lie within their space. -/
theorem lay_used {ws S : List Int} {h : HpN} (ho : Ordered h ws.length) (hs : specLay ws h = some S) : ∀ a : Nat, inZ h (a : Int) = true → S.getD a 0 ≠ 0 → (a : Int) + S.getD a 0 ≤ h.to + h.size := by
  obtain ⟨o1, o2, o3, o4, o5, o6, o7, o8, o9, o10, o11, o12, o13⟩ := ho
  unfold specLay at hs
  intro a ha hS
  rw [inZ_iff] at ha
  cases h1 : lay ws h.to.toNat h.bottom.toNat (List.replicate ws.length 0) with
  | none => rw [h1] at hs; cases hs
  | some S1 =>
    rw [h1] at hs
    dsimp only at hs
    obtain ⟨a1, a2, a3, a4⟩ := lay_apart h1 (by simp; omega) (fun a b _ ha _ => absurd (zeros_getD _ a) ha) (fun a => by rw [zeros_getD]; omega) (fun a ha => absurd (zeros_getD _ a) ha)
    have a4' : ∀ a : Nat, S1.getD a 0 ≠ 0 → h.to.toNat ≤ a ∧ (a : Int) + S1.getD a 0 ≤ h.bottom.toNat := fun a ha => by
      rcases a4 a ha with ⟨j, _⟩ | j
      · exact absurd (zeros_getD _ a) j
      · exact j
    rw [List.length_replicate] at a3
    cases h2 : lay ws h.top.toNat (h.to + h.size).toNat S1 with
    | none => rw [h2] at hs; cases hs
    | some S2 =>
      rw [h2] at hs
      dsimp only at hs
      obtain ⟨b1, b2, b3, b4⟩ := lay_apart h2 (by omega) a1 a2 (fun a ha => by have := a4' a ha; omega)
      have b4' : ∀ a : Nat, S2.getD a 0 ≠ 0 → h.to.toNat ≤ a ∧ (a : Int) + S2.getD a 0 ≤ (h.to + h.size).toNat := fun a ha => by
        rcases b4 a ha with ⟨j1, j2⟩ | j
        · have := a4' a j1
          omega
        · omega
      by_cases hb : h.scan < h.bottom
      · rw [if_pos hb] at hs
        cases h3 : lay ws (h.size - h.to).toNat h.fb.toNat S2 with
        | none => rw [h3] at hs; cases hs
        | some S3 =>
          rw [h3] at hs
          dsimp only at hs
          have e1 := lay_else hs a (by omega)
          have e2 := lay_else h3 a (by omega)
          rw [e1, e2] at hS ⊢
          have := b4' a hS
          omega
      · rw [if_neg hb] at hs
        cases hs
        have := b4' a hS
        omega

/-- Behind a change of spaces words may be moved. -/
theorem mvs_start {ws ws' S : List Int} {h h' : HpN} (ok : OkHeap ws S h) (hsz : h'.size = h.size) (hto : h'.to = h.to) (hl : ws'.length = ws.length) (hd : ∀ a : Nat, inZ h (a : Int) = true → S.getD a 0 ≠ 0 → ws'.getD a 0 / 16 = S.getD a 0) {r t : Int} (hr : 0 ≤ r) (hr1 : r ≤ 40000) (ht : 0 ≤ t) (ht1 : t ≤ 40000) : Mvs S ws.length 0 ⟨ws', flipH h', r, t⟩ := by
  have hn := heads_noted ok.noted
  have hu := lay_used ok.ord ok.spec
  have hp := (lay_places ok.ord ok.spec).1
  obtain ⟨o1, o2, o3, o4, -⟩ := id ok.ord
  have hO : ∀ a : Nat, Old (flipH h') a → inZ h (a : Int) = true := fun a ha => by
    unfold Old flipH at ha
    dsimp only at ha
    rw [inZ_iff]
    omega
  refine ⟨hl, ⟨?_, ?_, ?_, ?_, ?_, ?_, ?_⟩, ⟨fun a ha hS => ⟨(hn.2 a hS).1, ?_, hd a (hO a ha) hS⟩, hp⟩, hr, ?_, ht, ?_⟩
  all_goals unfold flipH
  all_goals dsimp only
  all_goals try omega
  have := hu a (hO a ha) hS
  omega

theorem used_aim {ws S : List Int} {h h' : HpN} {x : Int} (ok : OkHeap ws S h) (hx : wordOkZ S h x = true) : Aim S (flipH h') ws.length x := by
  rw [used_same ok] at hx
  intro hx8
  obtain ⟨a1, a2, a3, a4⟩ := specLeads_at hx8 hx
  exact ⟨a1, a2, fun _ => a3⟩
end Go.Proofs.Ytebpgglegnljgaa
