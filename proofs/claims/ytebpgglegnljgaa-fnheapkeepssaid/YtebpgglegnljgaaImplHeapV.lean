/- The program's move of a word as one plain function. -/
import Derived.Test.YtebpgglegnljgaaImplHeapU
namespace Go.Proofs.Ytebpgglegnljgaa
open Go.RowKit

/-- A collector in plain words: the words, the numbers, how many were read and written. -/
structure CN where
  ws : List Int
  h : HpN
  r : Int
  t : Int

/-- Where a word leads once its object was moved; none, if there is no room. -/
def moveZ (s : CN) (x : Int) : Option Int × CN :=
  if lateZ s.h x = false then (some x, s) else
  if s.ws.getD (x / 8).toNat 0 % 16 = 15 then (some (s.ws.getD ((x / 8).toNat + 1) 0), { s with r := s.r + 1 + 1 }) else
  if s.ws.getD (x / 8).toNat 0 / 16 ≤ s.h.top - s.h.bottom then
    (some (8 * s.h.bottom), ⟨((copyW s.ws (x / 8).toNat s.h.bottom.toNat (s.ws.getD (x / 8).toNat 0 / 16).toNat).set (x / 8).toNat (s.ws.getD (x / 8).toNat 0 / 16 * 16 + 15)).set ((x / 8).toNat + 1) (8 * s.h.bottom), { s.h with bottom := s.h.bottom + s.ws.getD (x / 8).toNat 0 / 16 }, s.r + s.ws.getD (x / 8).toNat 0 / 16, s.t + s.ws.getD (x / 8).toNat 0 / 16 + 2⟩)
  else (none, { s with r := s.r + 1 })

def moveV : Option Int → Value
  | some y => .tuple #[.int .i64 y, .bool true]
  | none => .tuple #[.int .i64 0, .bool false]

/-- What a move asks of a word that leads into the other space. -/
def MoveOk (ws : List Int) (h : HpN) (N : Nat) (x : Int) : Prop :=
  lateZ h x = true → (x / 8).toNat + 1 < N ∧ (ws.getD (x / 8).toNat 0 % 16 ≠ 15 → (ws.getD (x / 8).toNat 0 / 16 = 3 ∨ ws.getD (x / 8).toNat 0 / 16 = 6) ∧ (x / 8).toNat + (ws.getD (x / 8).toNat 0 / 16).toNat ≤ N)

theorem move_calls {w0 W : World} {bc bw N cap : Nat} (s : CN) (c : Col w0 bc bw N cap s.ws s.h s.r s.t W) (x : Int) (h0 : 0 ≤ s.h.to) (h1 : s.h.to ≤ s.h.size) (h3 : s.h.size ≤ 4000) (hb0 : 0 ≤ s.h.bottom) (hbt : s.h.bottom ≤ s.h.top) (htN : s.h.top ≤ N) (hN : N ≤ 8000)
    (hr0 : 0 ≤ s.r) (hr1 : s.r ≤ 70000) (ht0 : 0 ≤ s.t) (ht1 : s.t ≤ 70000) (hm : MoveOk s.ws s.h N x) :
    Calls Try.prog 80 #[.pointer (some ⟨bc, 0, none⟩), .int .i64 x] W fun e w' => e = .returned (moveV (moveZ s x).1) ∧ Col w0 bc bw N cap (moveZ s x).2.ws (moveZ s x).2.h (moveZ s x).2.r (moveZ s x).2.t w' := by
  obtain ⟨ws, h, r, t⟩ := s
  dsimp only at *
  unfold moveZ
  dsimp only
  cases ho : lateZ h x with
  | false =>
    rw [if_pos rfl]
    exact move_stays c x h0 h1 h3 ho
  | true =>
    rw [if_neg (by decide)]
    obtain ⟨ha1, ha2⟩ := hm ho
    have hx0 : 0 ≤ x / 8 := by
      unfold lateZ at ho
      rw [Bool.and_eq_true, decide_eq_true_eq, decide_eq_true_eq] at ho
      omega
    obtain ⟨a, ha⟩ := Int.eq_ofNat_of_zero_le hx0
    rw [ha, Int.toNat_natCast] at ha1 ha2 ⊢
    by_cases hk : ws.getD a 0 % 16 = 15
    · rw [if_pos hk]
      exact move_moved c x a h0 h1 h3 ho ha hk ha1 hN hr0 hr1
    · rw [if_neg hk]
      obtain ⟨hs, han⟩ := ha2 hk
      obtain ⟨n, hn⟩ := Int.eq_ofNat_of_zero_le (show 0 ≤ ws.getD a 0 / 16 by omega)
      obtain ⟨to, hto⟩ := Int.eq_ofNat_of_zero_le hb0
      rw [hn, Int.toNat_natCast] at han
      by_cases hroom : ws.getD a 0 / 16 ≤ h.top - h.bottom
      · rw [if_pos hroom]
        have := move_copies c x a to n h0 h1 h3 ho ha hto hN (by omega) hn hk (by omega) htN han hr0 hr1 ht0 ht1
        dsimp only
        rw [hn, hto, Int.toNat_natCast, Int.toNat_natCast]
        exact this
      · rw [if_neg hroom]
        exact move_full c x a n h0 h1 h3 ho ha hn hk (by omega) (by omega) hr0 hr1 hb0 (by omega) (by omega) (by omega)
end Go.Proofs.Ytebpgglegnljgaa
