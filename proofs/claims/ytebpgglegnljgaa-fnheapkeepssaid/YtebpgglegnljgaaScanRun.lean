/- To look through objects, in plain words: what is known is kept from field to field and from object to object. -/
import Derived.Test.YtebpgglegnljgaaScanPure
namespace Go.Proofs.Ytebpgglegnljgaa
open Go.RowKit

/-- What a read of a field leaves. -/
theorem fieldZ_keeps {S : List Int} {N : Nat} {s : CN} {q : Nat} (hN : s.ws.length = N) (hn : Nums s.h N) (hf : Fro S s.ws s.h) (hg : Aim S s.h N (s.ws.getD q 0)) (hq : ¬ Old s.h q) (hqb : (q : Int) < s.h.bottom) {y : Int} {s' : CN} (he : fieldZ s q = (some y, s')) :
    s'.ws.length = N ∧ s'.h = { s.h with bottom := s'.h.bottom } ∧ Nums s'.h N ∧ Fro S s'.ws s'.h ∧ s.h.bottom ≤ s'.h.bottom ∧
    (∀ j : Nat, ¬ Old s.h j → j ≠ q → ((j : Int) < s.h.bottom ∨ s'.h.bottom ≤ (j : Int)) → s'.ws.getD j 0 = s.ws.getD j 0) ∧
    (∀ a : Nat, Old s.h a → S.getD a 0 ≠ 0 → s'.ws.getD a 0 % 16 ≠ 15 → s.ws.getD a 0 % 16 ≠ 15 ∧ ∀ i : Nat, (i : Int) < S.getD a 0 → s'.ws.getD (a + i) 0 = s.ws.getD (a + i) 0) ∧
    (s'.h.bottom = s.h.bottom ∨ ∃ a : Nat, Old s.h a ∧ S.getD a 0 ≠ 0 ∧ s.ws.getD a 0 % 16 ≠ 15 ∧ s'.h.bottom = s.h.bottom + S.getD a 0 ∧ ∀ i : Nat, (i : Int) < S.getD a 0 → s'.ws.getD (s.h.bottom.toNat + i) 0 = s.ws.getD (a + i) 0) ∧
    s.r ≤ s'.r ∧ s'.r ≤ s.r + 3 + (s'.h.bottom - s.h.bottom) ∧ s.t ≤ s'.t ∧ s'.t ≤ s.t + 1 + 2 * (s'.h.bottom - s.h.bottom) := by
  unfold fieldZ at he
  split at he
  · cases he
    dsimp only
    exact ⟨hN, rfl, hn, hf, by omega, fun _ _ _ _ => rfl, fun _ _ _ h => ⟨h, fun _ _ => rfl⟩, Or.inl rfl, by omega, by omega, by omega, by omega⟩
  · have m := moveZ_keeps (s := { s with r := s.r + 1 }) (x := s.ws.getD q 0) hN hn hf hg
    generalize moveZ { s with r := s.r + 1 } (s.ws.getD q 0) = R at m he
    obtain ⟨o, s2⟩ := R
    cases o with
    | none => cases he
    | some z =>
      cases he
      dsimp only at m ⊢
      have e1 := m.h
      have e2 := m.grow
      have e3 := m.r0
      have e4 := m.r1
      have e5 := m.t0
      have e6 := m.t1
      dsimp only at e1 e2 e3 e4 e5 e6
      have oq : ∀ a : Nat, Old s.h a → ∀ i : Nat, (i : Int) < S.getD a 0 → S.getD a 0 ≠ 0 → a + i ≠ q := fun a ha i hi hS h => by
        have := (hf.heads a ha hS).2.1
        unfold Old at ha hq
        omega
      refine ⟨by rw [List.length_set, m.len]; exact hN, e1, m.nums, ⟨fun a ha hS => ?_, hf.apart⟩, e2, fun j hj hjq hjb => ?_, fun a ha hS hm => ?_, ?_, by omega, by omega, by omega, by omega⟩
      · have ha' : Old s.h a := by rw [e1] at ha; exact ha
        obtain ⟨f1, f2, f3⟩ := m.fro.heads a ha hS
        refine ⟨f1, f2, ?_⟩
        rw [getD_set, if_neg (by have := oq a ha' 0 (by omega) hS; omega)]
        exact f3
      · rw [getD_set, if_neg (by omega)]
        exact m.kept j hj hjb
      · have h0 := oq a ha 0 (by have := (hf.heads a ha hS).1; omega) hS
        rw [getD_set, if_neg (by omega)] at hm
        obtain ⟨f1, f2⟩ := m.rest a ha hS hm
        refine ⟨f1, fun i hi => ?_⟩
        rw [getD_set, if_neg (by have := oq a ha i hi hS; omega)]
        exact f2 i hi
      · rcases m.new with h | ⟨a, f1, f2, f3, f4, f5⟩
        · exact Or.inl h
        · refine Or.inr ⟨a, f1, f2, f3, f4, fun i hi => ?_⟩
          rw [getD_set, if_neg (by have := hn.b0; have := hn.to; have := hn.s0; omega)]
          exact f5 i hi

/-- Objects behind one another, each with fields that may be moved. -/
inductive RowOk (S ws : List Int) (h : HpN) (N : Nat) : Nat → Nat → Prop
  | nil (p : Nat) : RowOk S ws h N p p
  | cons {p q : Nat} (n : Nat) (hn : n = 3 ∨ n = 6) (hd : ws.getD p 0 / 16 = n) (hf : ∀ i, 1 ≤ i → i < n → Aim S h N (ws.getD (p + i) 0)) (rest : RowOk S ws h N (p + n) q) : RowOk S ws h N p q

theorem RowOk.le {S ws : List Int} {h : HpN} {N p q : Nat} (r : RowOk S ws h N p q) : p ≤ q := by
  induction r with
  | nil => exact Nat.le_refl _
  | cons n _ _ _ _ ih => omega

theorem RowOk.keep {S ws ws' : List Int} {h h' : HpN} {N p q : Nat} (r : RowOk S ws h N p q) (hh : ∀ a, Old h' a ↔ Old h a) (hw : ∀ j, p ≤ j → j < q → ws'.getD j 0 = ws.getD j 0) : RowOk S ws' h' N p q := by
  induction r with
  | nil p => exact RowOk.nil p
  | @cons p q n hn hd hf rest ih =>
    have hle := rest.le
    refine RowOk.cons n hn (by rw [hw p (Nat.le_refl _) (by omega)]; exact hd) (fun i h1 h2 => ?_) (ih (fun j h1 h2 => hw j (by omega) h2))
    rw [hw (p + i) (by omega) (by omega)]
    intro hx
    obtain ⟨a1, a2, a3⟩ := hf i h1 h2 hx
    exact ⟨a1, a2, fun ho => a3 ((hh _).1 ho)⟩

theorem RowOk.snoc {S ws : List Int} {h : HpN} {N p q : Nat} (r : RowOk S ws h N p q) (n : Nat) (hn : n = 3 ∨ n = 6) (hd : ws.getD q 0 / 16 = n) (hf : ∀ i, 1 ≤ i → i < n → Aim S h N (ws.getD (q + i) 0)) : RowOk S ws h N p (q + n) := by
  induction r with
  | nil p => exact RowOk.cons n hn hd hf (RowOk.nil _)
  | cons m hm hd' hf' _ ih => exact RowOk.cons m hm hd' hf' (ih hd hf)

/-- While objects are looked through: ahead of each. -/
structure Scn (S : List Int) (N : Nat) (s : CN) : Prop where
  len : s.ws.length = N
  nums : Nums s.h N
  fro : Fro S s.ws s.h
  olds : ∀ a : Nat, Old s.h a → S.getD a 0 ≠ 0 → s.ws.getD a 0 % 16 ≠ 15 → ∀ i : Nat, 1 ≤ i → (i : Int) < S.getD a 0 → Aim S s.h N (s.ws.getD (a + i) 0)
  sc0 : s.h.to ≤ s.h.scan
  row : RowOk S s.ws s.h N s.h.scan.toNat s.h.bottom.toNat
  r0 : 0 ≤ s.r
  r1 : s.r ≤ 4 * s.h.scan + s.h.bottom
  t0 : 0 ≤ s.t
  t1 : s.t ≤ s.h.scan + 2 * s.h.bottom

/-- While one object, at p with n words, is looked through: k of its fields are done. -/
structure Inn (S : List Int) (N p n k : Nat) (s : CN) : Prop where
  len : s.ws.length = N
  nums : Nums s.h N
  fro : Fro S s.ws s.h
  olds : ∀ a : Nat, Old s.h a → S.getD a 0 ≠ 0 → s.ws.getD a 0 % 16 ≠ 15 → ∀ i : Nat, 1 ≤ i → (i : Int) < S.getD a 0 → Aim S s.h N (s.ws.getD (a + i) 0)
  sc : s.h.scan = p
  sc0 : s.h.to ≤ p
  hn : n = 3 ∨ n = 6
  pn : (p : Int) + n ≤ s.h.bottom
  left : ∀ i, k < i → i < n → Aim S s.h N (s.ws.getD (p + i) 0)
  row : RowOk S s.ws s.h N (p + n) s.h.bottom.toNat
  r0 : 0 ≤ s.r
  r1 : s.r ≤ 4 * p + s.h.bottom + 1 + 3 * k
  t0 : 0 ≤ s.t
  t1 : s.t ≤ p + 2 * s.h.bottom + k

theorem Scn.enter {S : List Int} {N : Nat} {s : CN} (c : Scn S N s) (hb : s.h.scan ≠ s.h.bottom) : ∃ p n : Nat, s.h.scan = p ∧ s.ws.getD p 0 / 16 = n ∧ Inn S N p n 0 { s with r := s.r + 1 } := by
  have o1 := c.nums.s0
  have o4 := c.nums.to
  have o5 := c.sc0
  have o6 := c.nums.b0
  obtain ⟨p, hp⟩ := Int.eq_ofNat_of_zero_le (show 0 ≤ s.h.scan by omega)
  have hpn : s.h.scan.toNat = p := by omega
  have hr := c.row
  rw [hpn] at hr
  generalize hbt : s.h.bottom.toNat = b at hr
  have hle := hr.le
  cases hr with
  | nil => exact absurd (by omega) hb
  | cons n hn hd hf rest =>
    have hle2 := rest.le
    have e1 := c.r0
    have e2 := c.r1
    have e3 := c.t0
    have e4 := c.t1
    refine ⟨p, n, hp, hd, c.len, c.nums, c.fro, c.olds, hp, by dsimp only; omega, hn, by dsimp only; omega, fun i h1 h2 => hf i (by omega) h2, ?_, ?_, ?_, ?_, ?_⟩
    · dsimp only
      rw [hbt]
      exact rest
    · dsimp only
      omega
    · dsimp only
      omega
    · dsimp only
      omega
    · dsimp only
      omega

theorem Inn.exit {S : List Int} {N p n : Nat} {s : CN} (c : Inn S N p n (n - 1) s) : Scn S N { s with h := { s.h with scan := (p : Int) + n } } := by
  have e1 := c.r1
  have e2 := c.t1
  have e3 := c.hn
  have e4 := c.sc0
  refine ⟨c.len, ⟨c.nums.s0, c.nums.s1, c.nums.len, c.nums.to, c.nums.b0, c.nums.bt, c.nums.te⟩, ⟨c.fro.heads, c.fro.apart⟩, c.olds, ?_, ?_, c.r0, ?_, c.t0, ?_⟩
  · dsimp only
    omega
  · dsimp only
    rw [show ((p : Int) + n).toNat = p + n by omega]
    exact c.row.keep (fun a => Iff.rfl) (fun _ _ _ => rfl)
  · dsimp only
    omega
  · dsimp only
    omega

/-- What is asked ahead of reading the next field. -/
theorem Inn.asks {S : List Int} {N p n k : Nat} {s : CN} (c : Inn S N p n k s) (hk : k + 1 < n) : p + (k + 1) < N ∧ 0 ≤ s.h.to ∧ s.h.to ≤ s.h.size ∧ s.h.size ≤ 4000 ∧ 0 ≤ s.h.bottom ∧ s.h.bottom ≤ s.h.top ∧ s.h.top ≤ (N : Int) ∧ N ≤ 8000 ∧ s.r ≤ 60000 ∧ s.t ≤ 60000 ∧ MoveOk s.ws s.h N (s.ws.getD (p + (k + 1)) 0) ∧ hereZ s.h (s.ws.getD (p + (k + 1)) 0) = !lateZ s.h (s.ws.getD (p + (k + 1)) 0) := by
  have o1 := c.nums.s0
  have o2 := c.nums.s1
  have o3 := c.nums.len
  have o4 := c.nums.to
  have o5 := c.nums.b0
  have o6 := c.nums.bt
  have o7 := c.nums.te
  have e1 := c.r1
  have e2 := c.t1
  have e3 := c.pn
  have e4 := c.hn
  have ha := c.left (k + 1) (by omega) hk
  exact ⟨by omega, by omega, by omega, o2, by omega, o6, by omega, by omega, by omega, by omega, aim_move c.nums c.fro ha, aim_here c.nums ha⟩

theorem Inn.step {S : List Int} {N p n k : Nat} {s s' : CN} {y : Int} (c : Inn S N p n k s) (hk : k + 1 < n) (he : fieldZ s (p + (k + 1)) = (some y, s')) : Inn S N p n (k + 1) s' := by
  have o1 := c.nums.s0
  have o4 := c.nums.to
  have o5 := c.nums.b0
  have o6 := c.nums.bt
  have o7 := c.nums.te
  have e3 := c.pn
  have e4 := c.hn
  have e5 := c.sc0
  have hnq : ∀ j : Nat, s.h.to ≤ (j : Int) → (j : Int) < s.h.to + s.h.size → ¬ Old s.h j := fun j h1 h2 h3 => by unfold Old at h3; omega
  obtain ⟨f1, f2, f3, f4, f5, f6, f7, f8, f9, f10, f11, f12⟩ := fieldZ_keeps c.len c.nums c.fro (c.left (k + 1) (by omega) hk) (hnq _ (by omega) (by omega)) (by omega) he
  have hO : ∀ a, Old s'.h a ↔ Old s.h a := fun a => by rw [f2]; exact Iff.rfl
  have hA : ∀ x, Aim S s.h N x → Aim S s'.h N x := fun x hx hx8 => by
    obtain ⟨a1, a2, a3⟩ := hx hx8
    exact ⟨a1, a2, fun ho => a3 ((hO _).1 ho)⟩
  have g1 := c.r0
  have g2 := c.r1
  have g3 := c.t0
  have g4 := c.t1
  have hto : s'.h.to = s.h.to := by rw [f2]
  have hsz : s'.h.size = s.h.size := by rw [f2]
  refine ⟨f1, f3, f4, fun a ha hS hm i hi1 hi2 => ?_, by rw [f2]; exact c.sc, by rw [hto]; exact e5, e4, by omega, fun i h1 h2 => ?_, ?_, by omega, by push_cast; omega, by omega, by push_cast; omega⟩
  · obtain ⟨m1, m2⟩ := f7 a ((hO a).1 ha) hS hm
    rw [m2 i hi2]
    exact hA _ (c.olds a ((hO a).1 ha) hS m1 i hi1 hi2)
  · rw [f6 (p + i) (hnq _ (by omega) (by omega)) (by omega) (Or.inl (by omega))]
    exact hA _ (c.left i (by omega) h2)
  · have hrow : RowOk S s'.ws s'.h N (p + n) s.h.bottom.toNat := c.row.keep hO (fun j h1 h2 => f6 j (hnq j (by omega) (by omega)) (by omega) (Or.inl (by omega)))
    rcases f8 with h | ⟨a, n1, n2, n3, n4, n5⟩
    · rw [h]
      exact hrow
    · obtain ⟨e6, e7, e8⟩ := c.fro.heads a n1 n2
      obtain ⟨m, hm⟩ := Int.eq_ofNat_of_zero_le (show 0 ≤ S.getD a 0 by omega)
      rw [n4, hm, show (s.h.bottom + (m : Int)).toNat = s.h.bottom.toNat + m by omega]
      rw [hm] at e6 e8
      refine hrow.snoc m (by omega) ?_ (fun i h1 h2 => ?_)
      · have := n5 0 (by omega)
        rw [Nat.add_zero, Nat.add_zero] at this
        rw [this]
        exact e8
      · rw [n5 i (by omega)]
        exact hA _ (c.olds a n1 n2 n3 i h1 (by omega))

/-- The fields of an object, k of them. -/
def fieldsRun (p : Nat) : Nat → CN → Option CN
  | 0, s => some s
  | k + 1, s => match fieldsRun p k s with
    | none => none
    | some s' => match fieldZ s' (p + (k + 1)) with
      | (some _, s'') => some s''
      | (none, _) => none

/-- One object. -/
def scanOne (s : CN) : Option CN :=
  if s.h.scan = s.h.bottom then some s else
  match fieldsRun s.h.scan.toNat ((s.ws.getD s.h.scan.toNat 0 / 16).toNat - 1) { s with r := s.r + 1 } with
  | none => none
  | some s' => some { s' with h := { s'.h with scan := s.h.scan + s.ws.getD s.h.scan.toNat 0 / 16 } }

/-- So many objects. -/
def scanRun : Nat → CN → Option CN
  | 0, s => some s
  | k + 1, s => match scanRun k s with
    | none => none
    | some s' => scanOne s'

theorem fieldsRun_inn {S : List Int} {N p n : Nat} {s : CN} (c : Inn S N p n 0 s) : ∀ k, k < n → ∀ s', fieldsRun p k s = some s' → Inn S N p n k s'
  | 0, _, s', h => by cases h; exact c
  | k + 1, hk, s', h => by
    unfold fieldsRun at h
    cases h1 : fieldsRun p k s with
    | none => rw [h1] at h; cases h
    | some s1 =>
      rw [h1] at h
      have c1 := fieldsRun_inn c k (by omega) s1 h1
      dsimp only at h
      cases h2 : fieldZ s1 (p + (k + 1)) with
      | mk o s2 =>
        rw [h2] at h
        cases o with
        | none => cases h
        | some y =>
          cases h
          exact c1.step hk h2

theorem scanOne_scn {S : List Int} {N : Nat} {s s' : CN} (c : Scn S N s) (h : scanOne s = some s') : Scn S N s' := by
  unfold scanOne at h
  by_cases hb : s.h.scan = s.h.bottom
  · rw [if_pos hb] at h
    cases h
    exact c
  · rw [if_neg hb] at h
    obtain ⟨p, n, hp, hd, ci⟩ := c.enter hb
    rw [show s.h.scan.toNat = p by omega, hd, Int.toNat_natCast] at h
    have hn := ci.hn
    cases h1 : fieldsRun p (n - 1) { s with r := s.r + 1 } with
    | none => rw [h1] at h; cases h
    | some s1 =>
      rw [h1] at h
      cases h
      have c1 := fieldsRun_inn ci (n - 1) (by omega) s1 h1
      rw [hp]
      exact c1.exit

theorem scanRun_scn {S : List Int} {N : Nat} {s : CN} (c : Scn S N s) : ∀ k s', scanRun k s = some s' → Scn S N s'
  | 0, s', h => by cases h; exact c
  | k + 1, s', h => by
    unfold scanRun at h
    cases h1 : scanRun k s with
    | none => rw [h1] at h; cases h
    | some s1 =>
      rw [h1] at h
      exact scanOne_scn (scanRun_scn c k s1 h1) h

theorem scanRun_end {s s' : CN} {k : Nat} (h : scanRun k s = some s') (hb : s'.h.scan = s'.h.bottom) : ∀ j, scanRun (k + j) s = some s'
  | 0 => h
  | j + 1 => by
    rw [← Nat.add_assoc]
    unfold scanRun
    rw [scanRun_end h hb j]
    dsimp only
    unfold scanOne
    rw [if_pos hb]

theorem scanRun_none {s : CN} {k : Nat} (h : scanRun k s = none) : ∀ j, scanRun (k + j) s = none
  | 0 => h
  | j + 1 => by
    rw [← Nat.add_assoc]
    unfold scanRun
    rw [scanRun_none h j]
end Go.Proofs.Ytebpgglegnljgaa
