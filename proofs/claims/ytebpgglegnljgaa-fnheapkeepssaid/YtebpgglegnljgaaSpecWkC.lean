/- The specification's move of a word, all ways. -/
import Derived.Test.YtebpgglegnljgaaSpecWkB
namespace Go.Proofs.Ytebpgglegnljgaa
open Go.RowKit

theorem here_not {h : HpN} {x : Int} (hg : hereZ h x = !lateZ h x) {b : Bool} (hl : lateZ h x = b) : hereZ h x = !b := by rw [hg, hl]

set_option maxRecDepth 100000 in
theorem smove_stays {w0 W : World} {bm bw N cap : Nat} {s : CN} (c : Wk w0 bm bw N cap s false W) (x : Int) (h0 : 0 ≤ s.h.to) (h1 : s.h.to ≤ s.h.size) (h3 : s.h.size ≤ 4000) (hh : hereZ s.h x = true) :
    Calls Try.prog 75 #[.pointer (some ⟨bm, 0, none⟩), .int .i64 x] W fun e w' => e = .returned (.int .i64 x) ∧ Wk w0 bm bw N cap s false w' := by
  have HIo := hid (here_calls c x h0 (by omega) (by omega) h3)
  rw [hh] at HIo
  have HC := hid c
  clear c
  go_enter Try.func75, Try.ntmps75
  go_wp2_with fail
  refine HIo.out.mono ?_
  rintro e W1 ⟨rfl, hb1⟩
  have HC1 := hid (HC.out.keep hb1)
  clear hb1 HIo
  go_wp2_with fail
  go_ret
  exact ⟨rfl, HC1.out⟩

set_option maxRecDepth 100000 in
theorem smove_moved {w0 W : World} {bm bw N cap : Nat} {s : CN} (c : Wk w0 bm bw N cap s false W) (x : Int) (a : Nat) (h0 : 0 ≤ s.h.to) (h1 : s.h.to ≤ s.h.size) (h3 : s.h.size ≤ 4000) (hh : hereZ s.h x = false)
    (ha : x / 8 = a) (hk : s.ws.getD a 0 % 16 = 15) (han : a + 1 < N) (hN : N ≤ 8000) :
    Calls Try.prog 75 #[.pointer (some ⟨bm, 0, none⟩), .int .i64 x] W fun e w' => e = .returned (.int .i64 (s.ws.getD (a + 1) 0)) ∧ Wk w0 bm bw N cap ⟨s.ws, s.h, s.r + 1 + 1, s.t⟩ false w' := by
  have HIo := hid (here_calls c x h0 (by omega) (by omega) h3)
  rw [hh] at HIo
  have HNum := hid (fun w => specNum_calls x w)
  unfold numZ at HNum
  rw [ha] at HNum
  have hk1 : (bits .and .i64 (s.ws.getD a 0) 15 == 15) = true := by rw [and15]; simpa using hk
  have hk2 : bits .and .i64 (s.ws.getD a 0) 15 = 15 := by rw [and15]; exact hk
  have HC := hid c
  clear c ha hk hh
  go_enter Try.func75, Try.ntmps75
  go_wp2_with fail
  refine HIo.out.mono ?_
  rintro e W1 ⟨rfl, hb1⟩
  have HC1 := hid (HC.out.keep hb1)
  have HRd := hid (sread_calls HC1.out (i := a) (by omega))
  clear hb1 HIo HC
  go_wp2_with fail
  refine (HNum.out _).mono ?_
  rintro e W2 ⟨rfl, rfl⟩
  go_wp2_with fail
  refine HRd.out.mono ?_
  rintro e W3 ⟨rfl, hC3⟩
  have HRe := hid (sread_calls hC3 (i := a + 1) han)
  dsimp only at HRe
  rw [show ((a + 1 : Nat) : Int) = (a : Int) + 1 from rfl] at HRe
  clear hC3 HRd HC1 HNum
  generalize s.ws.getD a 0 = F at *
  go_wp2_with fail
  refine HRe.out.mono ?_
  rintro e W4 ⟨rfl, hC4⟩
  have HC4 := hid hC4
  clear hC4 HRe
  go_wp2_with fail
  go_ret
  exact ⟨rfl, HC4.out⟩

set_option maxRecDepth 100000 in
theorem smove_full {w0 W : World} {bm bw N cap : Nat} {s : CN} (c : Wk w0 bm bw N cap s false W) (x : Int) (a n : Nat) (h0 : 0 ≤ s.h.to) (h1 : s.h.to ≤ s.h.size) (h3 : s.h.size ≤ 4000) (hh : hereZ s.h x = false)
    (ha : x / 8 = a) (hf : s.ws.getD a 0 / 16 = n) (hn : n ≤ 6) (hk : s.ws.getD a 0 % 16 ≠ 15) (hroom : ¬ (n : Int) ≤ s.h.top - s.h.bottom) (han : a < N) (hb0 : 0 ≤ s.h.bottom) (hb1 : s.h.bottom ≤ 8000) :
    Calls Try.prog 75 #[.pointer (some ⟨bm, 0, none⟩), .int .i64 x] W fun e w' => e = .returned (.int .i64 x) ∧ Wk w0 bm bw N cap ⟨s.ws, s.h, s.r + 1, s.t⟩ true w' := by
  have HIo := hid (here_calls c x h0 (by omega) (by omega) h3)
  rw [hh] at HIo
  have HNum := hid (fun w => specNum_calls x w)
  unfold numZ at HNum
  rw [ha] at HNum
  have hk1 : (bits .and .i64 (s.ws.getD a 0) 15 == 15) = false := by rw [and15]; simpa using hk
  have HC := hid c
  clear c ha hk hh
  go_enter Try.func75, Try.ntmps75
  go_wp2_with fail
  refine HIo.out.mono ?_
  rintro e W1 ⟨rfl, hb1⟩
  have HC1 := hid (HC.out.keep hb1)
  have HRd := hid (sread_calls HC1.out (i := a) han)
  clear hb1 HIo HC
  go_wp2_with fail
  refine (HNum.out _).mono ?_
  rintro e W2 ⟨rfl, rfl⟩
  go_wp2_with fail
  refine HRd.out.mono ?_
  rintro e W3 ⟨rfl, hC3⟩
  have HC3 := hid hC3
  obtain ⟨-, -, -, c3, c4, -, -, -, -, -, -⟩ := hC3.blk.cells
  dsimp only at c3 c4
  clear hC3 HRd HC1 HNum
  generalize s.ws.getD a 0 = F at *
  have hroom' : s.h.top < s.h.bottom + (n : Int) := by omega
  clear hroom
  generalize s.h.top = tp at *
  generalize s.h.bottom = bt at *
  go_wp2_with fail
  go_quiet (fail)
  have hC4 := HC3.out.keep (below_drewN (Below.refl _ _) nq)
  have c10 := hC4.blk.cells.2.2.2.2.2.2.2.2.2.2
  have f10 := frozen_of_heap hC4.blk 10
  have HC4 := hid (hC4.filled true)
  clear hC4 HC3 c3 c4
  generalize W3.drewN nq = W4 at *
  go_wp2_with fail
  go_ret
  exact ⟨rfl, HC4.out⟩

set_option maxHeartbeats 1000000 in
set_option maxRecDepth 100000 in
theorem smove_copies {w0 W : World} {bm bw N cap : Nat} {s : CN} (c : Wk w0 bm bw N cap s false W) (x : Int) (a to n : Nat) (h0 : 0 ≤ s.h.to) (h1 : s.h.to ≤ s.h.size) (h3 : s.h.size ≤ 4000) (hh : hereZ s.h x = false)
    (ha : x / 8 = a) (hto : s.h.bottom = to) (hN : N ≤ 8000) (hn : n = 3 ∨ n = 6) (hf : s.ws.getD a 0 / 16 = n) (hk : s.ws.getD a 0 % 16 ≠ 15) (hroom : (n : Int) ≤ s.h.top - to) (htop : s.h.top ≤ N) (han : a + n ≤ N) :
    Calls Try.prog 75 #[.pointer (some ⟨bm, 0, none⟩), .int .i64 x] W fun e w' => e = .returned (.int .i64 (8 * (to : Int))) ∧ Wk w0 bm bw N cap ⟨((copyW s.ws a to n).set a ((n : Int) * 16 + 15)).set (a + 1) (8 * (to : Int)), { s.h with bottom := (to : Int) + n }, s.r + n, s.t + n + 2⟩ false w' := by
  have HIo := hid (here_calls c x h0 (by omega) (by omega) h3)
  rw [hh] at HIo
  have HNum := hid (fun w => specNum_calls x w)
  unfold numZ at HNum
  rw [ha] at HNum
  have hk1 : (bits .and .i64 (s.ws.getD a 0) 15 == 15) = false := by rw [and15]; simpa using hk
  have HC := hid c
  clear c ha hk hh
  have hto1 : to + n ≤ N := by omega
  have HTo := hid hto
  have HRoom := hid hroom
  go_enter Try.func75, Try.ntmps75
  go_wp2_with fail
  refine HIo.out.mono ?_
  rintro e W1 ⟨rfl, hb1⟩
  have HC1 := hid (HC.out.keep hb1)
  have HRd := hid (sread_calls HC1.out (i := a) (by omega))
  clear hb1 HIo HC
  go_wp2_with fail
  refine (HNum.out _).mono ?_
  rintro e W2 ⟨rfl, rfl⟩
  go_wp2_with fail
  refine HRd.out.mono ?_
  rintro e W3 ⟨rfl, hC3⟩
  have HC3 := hid hC3
  have HF0 : Hid (copyW s.ws a to 1 = s.ws.set to (s.ws.getD a 0)) := rfl
  obtain ⟨-, -, -, c3, c4, -, -, -, -, -, -⟩ := hC3.blk.cells
  dsimp only at c3 c4
  rw [HTo.out] at c3
  have HWr := hid (fun nq => swrite_calls (HC3.out.keep (below_drewN (Below.refl _ _) nq)) (i := to) (by omega) (s.ws.getD a 0))
  dsimp only at HWr
  rw [← HF0.out] at HWr
  clear hC3 HRd HC1 HNum HF0
  generalize s.ws.getD a 0 = F at *
  have hroom' : (to : Int) + (n : Int) ≤ s.h.top := by omega
  clear hroom hto htop
  generalize hTp : s.h.top = tp at *
  go_wp2_with fail
  go_quiet (fail)
  have HW9 := hid (HWr.out nq)
  have c3' : (W3.drewN nq).cell? ⟨bm, 3, none⟩ = some (.int .i64 (to : Int)) := c3
  clear c3 c4 HWr HC3
  generalize W3.drewN nq = W4 at *
  go_wp2_with fail
  refine HW9.out.mono ?_
  rintro e W5 ⟨rfl, hC5⟩
  have HC5 := hid hC5
  clear hC5 HW9 c3'
  go_wp2_with fail
  go_loopw [9] (fun i wr => ∃ p : Nat, i = .int .i64 p ∧ p ≤ n ∧ Hid (1 ≤ p) ∧ Hid (Wk w0 bm bw N cap ⟨copyW s.ws a to p, s.h, s.r + p, s.t + p⟩ false wr)) (fun i _ => n - (intOf i).toNat)
  case atStart => exact ⟨1, rfl, by omega, Nat.le_refl _, HC5.out⟩
  case round =>
    obtain ⟨p, rfl, hpn, HP, HI⟩ := hrel
    clear HC5
    by_cases hlt : (p : Int) < (n : Int)
    · have HRd := hid (sread_calls HI.out (i := a + p) (by omega))
      rw [Int.natCast_add] at HRd
      dsimp only at HRd
      go_wp2_with fail
      refine HRd.out.mono ?_
      rintro e W6 ⟨rfl, hC6⟩
      have HWr := hid (swrite_calls hC6 (i := to + p) (by omega) ((copyW s.ws a to p).getD (a + p) 0))
      rw [Int.natCast_add] at HWr
      dsimp only at HWr
      have HS : Hid (copyW s.ws a to (p + 1) = (copyW s.ws a to p).set (to + p) ((copyW s.ws a to p).getD (a + p) 0)) := rfl
      rw [← HS.out] at HWr
      clear hC6 HRd HS HI
      generalize (copyW s.ws a to p).getD (a + p) 0 = y at *
      go_wp2_with fail
      refine HWr.out.mono ?_
      rintro e W7 ⟨rfl, hC7⟩
      have HC7 := hid hC7
      clear hC7 HWr
      go_wp2_with fail
      have hs : n - (intOf (.int .i64 ((p : Int) + 1))).toNat < n - (intOf (.int .i64 (p : Int))).toNat := by simp only [intOf, Int.toNat_natCast]; omega
      refine ⟨⟨p + 1, ?_, by omega, Nat.le_add_left _ _, ?_⟩, hs⟩
      · push_cast
        rfl
      · push_cast
        rw [← Int.add_assoc, ← Int.add_assoc]
        exact HC7.out
    · obtain rfl : p = n := by omega
      have f3 := frozen_of_heap HI.out.blk 3
      have c3 := HI.out.blk.cells.2.2.2.1
      have HMk := hid (fun w => specMake_calls 0 (to : Int) w)
      have HMz : Hid (makeZ 0 (to : Int) = 8 * (to : Int)) := by
        show _ = _
        unfold makeZ wrap64
        rw [if_neg (by omega)]
        omega
      rw [HMz.out] at HMk
      have HW1 := hid (swrite_calls (HI.out.bottom ((to : Int) + p)) (i := a) (by omega) ((p : Int) * 16 + 15))
      dsimp only at HW1 c3
      clear HMz HI
      go_wp2_with fail
      rw [Int.mul_comm 16 (p : Int)]
      refine HW1.out.mono ?_
      rintro e W7 ⟨rfl, hC7⟩
      have HW2 := hid (swrite_calls hC7 (i := a + 1) (by omega) (8 * (to : Int)))
      dsimp only at HW2
      rw [show ((a + 1 : Nat) : Int) = (a : Int) + 1 from rfl] at HW2
      clear hC7 HW1 c3 f3
      go_wp2_with fail
      refine (HMk.out _).mono ?_
      rintro e W8 ⟨rfl, rfl⟩
      go_wp2_with fail
      refine HW2.out.mono ?_
      rintro e W9 ⟨rfl, hC9⟩
      have HC9 := hid hC9
      clear hC9 HW2
      go_wp2_with fail
      refine (HMk.out _).mono ?_
      rintro e W8 ⟨rfl, rfl⟩
      go_wp2_with fail
      go_ret
      refine ⟨rfl, ?_⟩
      have E : s.t + (p : Int) + 1 + 1 = s.t + p + 2 := by omega
      rw [← E]
      exact HC9.out

def smoveV (x : Int) : Option Int → Int
  | some y => y
  | none => x

/-- The specification's move is the plain one; where there is no room it says so. -/
theorem smove_calls {w0 W : World} {bm bw N cap : Nat} {s : CN} (c : Wk w0 bm bw N cap s false W) (x : Int) (h0 : 0 ≤ s.h.to) (h1 : s.h.to ≤ s.h.size) (h3 : s.h.size ≤ 4000) (hb0 : 0 ≤ s.h.bottom) (hbt : s.h.bottom ≤ s.h.top) (htN : s.h.top ≤ N) (hN : N ≤ 8000)
    (hm : MoveOk s.ws s.h N x) (hg : hereZ s.h x = !lateZ s.h x) :
    Calls Try.prog 75 #[.pointer (some ⟨bm, 0, none⟩), .int .i64 x] W fun e w' => e = .returned (.int .i64 (smoveV x (moveZ s x).1)) ∧ Wk w0 bm bw N cap (moveZ s x).2 (moveZ s x).1.isNone w' := by
  unfold moveZ
  cases ho : lateZ s.h x with
  | false =>
    rw [if_pos rfl]
    exact smove_stays c x h0 h1 h3 (here_not hg ho)
  | true =>
    rw [if_neg (by decide)]
    obtain ⟨ha1, ha2⟩ := hm ho
    have hh := here_not hg ho
    have hx0 : 0 ≤ x / 8 := by
      unfold lateZ at ho
      rw [Bool.and_eq_true, decide_eq_true_eq, decide_eq_true_eq] at ho
      omega
    obtain ⟨a, ha⟩ := Int.eq_ofNat_of_zero_le hx0
    rw [ha, Int.toNat_natCast] at ha1 ha2 ⊢
    by_cases hk : s.ws.getD a 0 % 16 = 15
    · rw [if_pos hk]
      exact smove_moved c x a h0 h1 h3 hh ha hk ha1 hN
    · rw [if_neg hk]
      obtain ⟨hs, han⟩ := ha2 hk
      obtain ⟨n, hn⟩ := Int.eq_ofNat_of_zero_le (show 0 ≤ s.ws.getD a 0 / 16 by omega)
      obtain ⟨to, hto⟩ := Int.eq_ofNat_of_zero_le hb0
      rw [hn, Int.toNat_natCast] at han
      by_cases hroom : s.ws.getD a 0 / 16 ≤ s.h.top - s.h.bottom
      · rw [if_pos hroom]
        have := smove_copies c x a to n h0 h1 h3 hh ha hto hN (by omega) hn hk (by omega) htN han
        dsimp only
        rw [hn, hto, Int.toNat_natCast, Int.toNat_natCast]
        exact this
      · rw [if_neg hroom]
        exact smove_full c x a n h0 h1 h3 hh ha hn (by omega) hk (by omega) (by omega) hb0 (by omega)
end Go.Proofs.Ytebpgglegnljgaa
