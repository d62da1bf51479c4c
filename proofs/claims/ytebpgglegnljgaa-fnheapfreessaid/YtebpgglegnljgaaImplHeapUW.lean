/- A field that cannot be moved. -/
import Derived.Test.YtebpgglegnljgaaImplHeapT
namespace Go.Proofs.Ytebpgglegnljgaa
open Go.RowKit

set_option maxRecDepth 100000 in
/-- A field that leads to what is old, and there is no room for it. -/
theorem field_fails {w0 W : World} {bc bw N cap : Nat} {ws : List Int} {h : HpN} {r t : Int} (c : Col w0 bc bw N cap ws h r t W) (q : Nat) (hq : q < N) (h0 : 0 ≤ h.to) (h1 : h.to ≤ h.size) (h3 : h.size ≤ 4000) (hr0 : 0 ≤ r) (hr1 : r ≤ 70000) (hold : lateZ h (ws.getD q 0) = true)
    (ws' : List Int) (h' : HpN) (r' t' : Int)
    (hm : ∀ X, Col w0 bc bw N cap ws h (r + 1) t X → Calls Try.prog 80 #[.pointer (some ⟨bc, 0, none⟩), .int .i64 (ws.getD q 0)] X fun e w' => e = .returned (.tuple #[.int .i64 0, .bool false]) ∧ Col w0 bc bw N cap ws' h' r' t' w') :
    Calls Try.prog 53 #[.pointer (some ⟨bc, 0, none⟩), .int .i64 (q : Int)] W fun e w' => e = .returned (.tuple #[.int .i64 0, .bool false]) ∧ Col w0 bc bw N cap ws' h' r' t' w' := by
  have HRd := hid (read_calls c (i := q) hq hr0 (by omega))
  have HM := hid hm
  clear c hm
  go_enter Try.func53, Try.ntmps53
  go_wp2_with fail
  refine HRd.out.mono ?_
  rintro e W1 ⟨rfl, hC1⟩
  have HIo := hid (fun (X : World) (b : Below W1.heap.size W1 X) => isOld_calls (hC1.keep b) (ws.getD q 0) h0 h1 h3)
  rw [hold] at HIo
  have HC1 := hid hC1
  clear hC1 HRd
  go_wp2_with fail
  refine (HIo.out _ (by first | exact Below.refl _ _ | exact (Below.refl _ _).drew)).mono ?_
  rintro e W2 ⟨rfl, hb2⟩
  have HC2 := hid (HC1.out.keep (by first | exact hb2 | exact (Below.refl _ _).drew.trans hb2))
  clear hb2 HIo HC1
  go_wp2_with fail
  refine (HM.out _ (by first | exact HC2.out | exact HC2.out.keep (Below.refl _ _).drew)).mono ?_
  rintro e W3 ⟨rfl, hC3⟩
  have HC4 := hid hC3
  clear hC3 HM HC2
  go_wp2_with fail
  exact bodyPost_ret (v := .tuple #[.int .i64 0, .bool false]) (by simp [results, Try.results53, go_sem]) rfl ⟨rfl, by first | exact HC4.out | exact HC4.out.keep (Below.refl _ _).drew⟩
end Go.Proofs.Ytebpgglegnljgaa

namespace Go.Proofs.Ytebpgglegnljgaa
open Go.RowKit

/-- A collector in plain words: the words, the numbers, how many were read and written. -/
structure CN where
  ws : List Int
  h : HpN
  r : Int
  t : Int

/-- Where a word leads once its object was moved; none, if there is no room. -/
def moveZ (s : CN) (x : Int) : Option Int × CN :=
  if lateZ s.h x = false then (some x, s) else
  if s.ws.getD (x / 8).toNat 0 % 16 = 15 then (some (s.ws.getD ((x / 8).toNat + 1) 0), { s with r := s.r + 1 + 1 }) else
  if s.ws.getD (x / 8).toNat 0 / 16 ≤ s.h.top - s.h.bottom then
    (some (8 * s.h.bottom), ⟨((copyW s.ws (x / 8).toNat s.h.bottom.toNat (s.ws.getD (x / 8).toNat 0 / 16).toNat).set (x / 8).toNat (s.ws.getD (x / 8).toNat 0 / 16 * 16 + 15)).set ((x / 8).toNat + 1) (8 * s.h.bottom), { s.h with bottom := s.h.bottom + s.ws.getD (x / 8).toNat 0 / 16 }, s.r + s.ws.getD (x / 8).toNat 0 / 16, s.t + s.ws.getD (x / 8).toNat 0 / 16 + 2⟩)
  else (none, { s with r := s.r + 1 })

def moveV : Option Int → Value
  | some y => .tuple #[.int .i64 y, .bool true]
  | none => .tuple #[.int .i64 0, .bool false]

/-- What a move asks of a word that leads into the other space. -/
def MoveOk (ws : List Int) (h : HpN) (N : Nat) (x : Int) : Prop :=
  lateZ h x = true → (x / 8).toNat + 1 < N ∧ (ws.getD (x / 8).toNat 0 % 16 ≠ 15 → (ws.getD (x / 8).toNat 0 / 16 = 3 ∨ ws.getD (x / 8).toNat 0 / 16 = 6) ∧ (x / 8).toNat + (ws.getD (x / 8).toNat 0 / 16).toNat ≤ N)

theorem move_calls {w0 W : World} {bc bw N cap : Nat} (s : CN) (c : Col w0 bc bw N cap s.ws s.h s.r s.t W) (x : Int) (h0 : 0 ≤ s.h.to) (h1 : s.h.to ≤ s.h.size) (h3 : s.h.size ≤ 4000) (hb0 : 0 ≤ s.h.bottom) (hbt : s.h.bottom ≤ s.h.top) (htN : s.h.top ≤ N) (hN : N ≤ 8000)
    (hr0 : 0 ≤ s.r) (hr1 : s.r ≤ 70000) (ht0 : 0 ≤ s.t) (ht1 : s.t ≤ 70000) (hm : MoveOk s.ws s.h N x) :
    Calls Try.prog 80 #[.pointer (some ⟨bc, 0, none⟩), .int .i64 x] W fun e w' => e = .returned (moveV (moveZ s x).1) ∧ Col w0 bc bw N cap (moveZ s x).2.ws (moveZ s x).2.h (moveZ s x).2.r (moveZ s x).2.t w' := by
  obtain ⟨ws, h, r, t⟩ := s
  dsimp only at *
  unfold moveZ
  dsimp only
  cases ho : lateZ h x with
  | false =>
    rw [if_pos rfl]
    exact move_stays c x h0 h1 h3 ho
  | true =>
    rw [if_neg (by decide)]
    obtain ⟨ha1, ha2⟩ := hm ho
    have hx0 : 0 ≤ x / 8 := by
      unfold lateZ at ho
      rw [Bool.and_eq_true, decide_eq_true_eq, decide_eq_true_eq] at ho
      omega
    obtain ⟨a, ha⟩ := Int.eq_ofNat_of_zero_le hx0
    rw [ha, Int.toNat_natCast] at ha1 ha2 ⊢
    by_cases hk : ws.getD a 0 % 16 = 15
    · rw [if_pos hk]
      exact move_moved c x a h0 h1 h3 ho ha hk ha1 hN hr0 hr1
    · rw [if_neg hk]
      obtain ⟨hs, han⟩ := ha2 hk
      obtain ⟨n, hn⟩ := Int.eq_ofNat_of_zero_le (show 0 ≤ ws.getD a 0 / 16 by omega)
      obtain ⟨to, hto⟩ := Int.eq_ofNat_of_zero_le hb0
      rw [hn, Int.toNat_natCast] at han
      by_cases hroom : ws.getD a 0 / 16 ≤ h.top - h.bottom
      · rw [if_pos hroom]
        have := move_copies c x a to n h0 h1 h3 ho ha hto hN (by omega) hn hk (by omega) htN han hr0 hr1 ht0 ht1
        dsimp only
        rw [hn, hto, Int.toNat_natCast, Int.toNat_natCast]
        exact this
      · rw [if_neg hroom]
        exact move_full c x a n h0 h1 h3 ho ha hn hk (by omega) (by omega) hr0 hr1 hb0 (by omega) (by omega) (by omega)
end Go.Proofs.Ytebpgglegnljgaa

namespace Go.Proofs.Ytebpgglegnljgaa
open Go.RowKit

/-- What a field holds, moved if need be; none, if there is no room. -/
def fieldZ (s : CN) (q : Nat) : Option Int × CN :=
  if lateZ s.h (s.ws.getD q 0) = false then (some (s.ws.getD q 0), { s with r := s.r + 1 }) else
  match moveZ { s with r := s.r + 1 } (s.ws.getD q 0) with
  | (some y, s2) => (some y, ⟨s2.ws.set q y, s2.h, s2.r, s2.t + 1⟩)
  | (none, s2) => (none, s2)

theorem moveZ_t {s : CN} {N : Nat} {x : Int} (hm : MoveOk s.ws s.h N x) : s.t ≤ (moveZ s x).2.t ∧ (moveZ s x).2.t ≤ s.t + 8 := by
  unfold moveZ
  cases ho : lateZ s.h x with
  | false =>
    rw [if_pos rfl]
    dsimp only
    omega
  | true =>
    rw [if_neg (by decide)]
    have h2 := (hm ho).2
    split
    · dsimp only
      omega
    · rename_i hk
      have h3 := (h2 hk).1
      split
      · dsimp only
        omega
      · dsimp only
        omega

theorem field_calls {w0 W : World} {bc bw N cap : Nat} (s : CN) (c : Col w0 bc bw N cap s.ws s.h s.r s.t W) (q : Nat) (hq : q < N) (h0 : 0 ≤ s.h.to) (h1 : s.h.to ≤ s.h.size) (h3 : s.h.size ≤ 4000) (hb0 : 0 ≤ s.h.bottom) (hbt : s.h.bottom ≤ s.h.top) (htN : s.h.top ≤ N) (hN : N ≤ 8000)
    (hr0 : 0 ≤ s.r) (hr1 : s.r ≤ 60000) (ht0 : 0 ≤ s.t) (ht1 : s.t ≤ 60000) (hm : MoveOk s.ws s.h N (s.ws.getD q 0)) :
    Calls Try.prog 53 #[.pointer (some ⟨bc, 0, none⟩), .int .i64 (q : Int)] W fun e w' => e = .returned (moveV (fieldZ s q).1) ∧ Col w0 bc bw N cap (fieldZ s q).2.ws (fieldZ s q).2.h (fieldZ s q).2.r (fieldZ s q).2.t w' := by
  cases ho : lateZ s.h (s.ws.getD q 0) with
  | false =>
    have e : fieldZ s q = (some (s.ws.getD q 0), { s with r := s.r + 1 }) := by unfold fieldZ; rw [if_pos ho]
    rw [e]
    exact field_stays c q hq h0 h1 h3 hr0 (by omega) ho
  | true =>
    have hc := fun (X : World) (hX : Col w0 bc bw N cap s.ws s.h (s.r + 1) s.t X) => move_calls { s with r := s.r + 1 } hX (s.ws.getD q 0) h0 h1 h3 hb0 hbt htN hN (show 0 ≤ s.r + 1 by omega) (show s.r + 1 ≤ 70000 by omega) ht0 (show s.t ≤ 70000 by omega) hm
    have hb := moveZ_t (s := { s with r := s.r + 1 }) hm
    have e : fieldZ s q = match moveZ { s with r := s.r + 1 } (s.ws.getD q 0) with
        | (some y, s2) => (some y, ⟨s2.ws.set q y, s2.h, s2.r, s2.t + 1⟩)
        | (none, s2) => (none, s2) := by unfold fieldZ; rw [if_neg (by rw [ho]; decide)]
    rw [e]
    generalize moveZ { s with r := s.r + 1 } (s.ws.getD q 0) = m at *
    obtain ⟨o, s2⟩ := m
    dsimp only at hb hc
    cases o with
    | some y => exact field_moves c q hq h0 h1 h3 hr0 (by omega) ho y s2.ws s2.h s2.r s2.t (by omega) (by omega) hc
    | none => exact field_fails c q hq h0 h1 h3 hr0 (by omega) ho s2.ws s2.h s2.r s2.t hc
end Go.Proofs.Ytebpgglegnljgaa
