/- The program's read of a field as one plain function. -/
import Derived.Test.YtebpgglegnljgaaImplHeapV
namespace Go.Proofs.Ytebpgglegnljgaa
open Go.RowKit

/-- What a field holds, moved if need be; none, if there is no room. -/
def fieldZ (s : CN) (q : Nat) : Option Int × CN :=
  if lateZ s.h (s.ws.getD q 0) = false then (some (s.ws.getD q 0), { s with r := s.r + 1 }) else
  match moveZ { s with r := s.r + 1 } (s.ws.getD q 0) with
  | (some y, s2) => (some y, ⟨s2.ws.set q y, s2.h, s2.r, s2.t + 1⟩)
  | (none, s2) => (none, s2)

theorem moveZ_t {s : CN} {N : Nat} {x : Int} (hm : MoveOk s.ws s.h N x) : s.t ≤ (moveZ s x).2.t ∧ (moveZ s x).2.t ≤ s.t + 8 := by
  unfold moveZ
  cases ho : lateZ s.h x with
  | false =>
    rw [if_pos rfl]
    dsimp only
    omega
  | true =>
    rw [if_neg (by decide)]
    have h2 := (hm ho).2
    split
    · dsimp only
      omega
    · rename_i hk
      have h3 := (h2 hk).1
      split
      · dsimp only
        omega
      · dsimp only
        omega

theorem field_calls {w0 W : World} {bc bw N cap : Nat} (s : CN) (c : Col w0 bc bw N cap s.ws s.h s.r s.t W) (q : Nat) (hq : q < N) (h0 : 0 ≤ s.h.to) (h1 : s.h.to ≤ s.h.size) (h3 : s.h.size ≤ 4000) (hb0 : 0 ≤ s.h.bottom) (hbt : s.h.bottom ≤ s.h.top) (htN : s.h.top ≤ N) (hN : N ≤ 8000)
    (hr0 : 0 ≤ s.r) (hr1 : s.r ≤ 60000) (ht0 : 0 ≤ s.t) (ht1 : s.t ≤ 60000) (hm : MoveOk s.ws s.h N (s.ws.getD q 0)) :
    Calls Try.prog 53 #[.pointer (some ⟨bc, 0, none⟩), .int .i64 (q : Int)] W fun e w' => e = .returned (moveV (fieldZ s q).1) ∧ Col w0 bc bw N cap (fieldZ s q).2.ws (fieldZ s q).2.h (fieldZ s q).2.r (fieldZ s q).2.t w' := by
  cases ho : lateZ s.h (s.ws.getD q 0) with
  | false =>
    have e : fieldZ s q = (some (s.ws.getD q 0), { s with r := s.r + 1 }) := by unfold fieldZ; rw [if_pos ho]
    rw [e]
    exact field_stays c q hq h0 h1 h3 hr0 (by omega) ho
  | true =>
    have hc := fun (X : World) (hX : Col w0 bc bw N cap s.ws s.h (s.r + 1) s.t X) => move_calls { s with r := s.r + 1 } hX (s.ws.getD q 0) h0 h1 h3 hb0 hbt htN hN (show 0 ≤ s.r + 1 by omega) (show s.r + 1 ≤ 70000 by omega) ht0 (show s.t ≤ 70000 by omega) hm
    have hb := moveZ_t (s := { s with r := s.r + 1 }) hm
    have e : fieldZ s q = match moveZ { s with r := s.r + 1 } (s.ws.getD q 0) with
        | (some y, s2) => (some y, ⟨s2.ws.set q y, s2.h, s2.r, s2.t + 1⟩)
        | (none, s2) => (none, s2) := by unfold fieldZ; rw [if_neg (by rw [ho]; decide)]
    rw [e]
    generalize moveZ { s with r := s.r + 1 } (s.ws.getD q 0) = m at *
    obtain ⟨o, s2⟩ := m
    dsimp only at hb hc
    cases o with
    | some y => exact field_moves c q hq h0 h1 h3 hr0 (by omega) ho y s2.ws s2.h s2.r s2.t (by omega) (by omega) hc
    | none => exact field_fails c q hq h0 h1 h3 hr0 (by omega) ho s2.ws s2.h s2.r s2.t hc
end Go.Proofs.Ytebpgglegnljgaa
