/- The program moves an object. -/
import Derived.Test.YtebpgglegnljgaaImplHeapM
namespace Go.Proofs.Ytebpgglegnljgaa
open Go.RowKit

/-- The first n words of an object are copied, one behind the other. -/
def copyW (ws : List Int) (a to : Nat) : Nat → List Int
  | 0 => ws
  | n + 1 => (copyW ws a to n).set (to + n) ((copyW ws a to n).getD (a + n) 0)

theorem copyW_length (ws : List Int) (a to n : Nat) : (copyW ws a to n).length = ws.length := by
  induction n with
  | zero => rfl
  | succ n ih => rw [copyW, List.length_set, ih]

set_option maxRecDepth 100000 in
theorem head_calls (n : Nat) (hn : n = 3 ∨ n = 6) (w : World) : Calls Try.prog 73 #[.int .i64 15, .int .i64 (n : Int)] w fun e w' => e = .returned (.int .i64 ((n : Int) * 16 + 15)) ∧ w = w' := by
  rcases hn with rfl | rfl
  · go_enter Try.func73, Try.ntmps73
    go_wp2
    go_ret
    exact ⟨rfl, rfl⟩
  · go_enter Try.func73, Try.ntmps73
    go_wp2
    go_ret
    exact ⟨rfl, rfl⟩

set_option maxRecDepth 100000 in
theorem move_stays {w0 W : World} {bc bw N cap : Nat} {ws : List Int} {h : HpN} {r t : Int} (c : Col w0 bc bw N cap ws h r t W) (x : Int) (h0 : 0 ≤ h.to) (h1 : h.to ≤ h.size) (h3 : h.size ≤ 4000) (hold : lateZ h x = false) :
    Calls Try.prog 80 #[.pointer (some ⟨bc, 0, none⟩), .int .i64 x] W fun e w' => e = .returned (.tuple #[.int .i64 x, .bool true]) ∧ Col w0 bc bw N cap ws h r t w' := by
  have HIo := hid (isOld_calls c x h0 h1 h3)
  rw [hold] at HIo
  have HC := hid c
  clear c
  go_enter Try.func80, Try.ntmps80
  go_wp2_with fail
  refine HIo.out.mono ?_
  rintro e W1 ⟨rfl, hb1⟩
  have HC1 := hid (HC.out.keep hb1)
  clear hb1 HIo
  go_wp2_with fail
  exact bodyPost_ret (v := .tuple #[.int .i64 x, .bool true]) (by simp [results, Try.results80, go_sem]) rfl ⟨rfl, HC1.out⟩

set_option maxRecDepth 100000 in
theorem move_copies {w0 W : World} {bc bw N cap : Nat} {ws : List Int} {h : HpN} {r t : Int} (c : Col w0 bc bw N cap ws h r t W) (x : Int) (a to n : Nat) (h0 : 0 ≤ h.to) (h1 : h.to ≤ h.size) (h3 : h.size ≤ 4000) (hold : lateZ h x = true)
    (ha : x / 8 = a) (hto : h.bottom = to) (hN : N ≤ 8000) (hn : n = 3 ∨ n = 6) (hf : ws.getD a 0 / 16 = n) (hk : ws.getD a 0 % 16 ≠ 15) (hroom : (n : Int) ≤ h.top - to) (htop : h.top ≤ N) (han : a + n ≤ N) (hr0 : 0 ≤ r) (hr1 : r ≤ 70000) (ht0 : 0 ≤ t) (ht1 : t ≤ 70000) :
    Calls Try.prog 80 #[.pointer (some ⟨bc, 0, none⟩), .int .i64 x] W fun e w' => e = .returned (.tuple #[.int .i64 (8 * (to : Int)), .bool true]) ∧ Col w0 bc bw N cap (((copyW ws a to n).set a ((n : Int) * 16 + 15)).set (a + 1) (8 * (to : Int))) { h with bottom := (to : Int) + n } (r + n) (t + n + 2) w' := by
  have HIo := hid (isOld_calls c x h0 h1 h3)
  rw [hold] at HIo
  have HNum := hid (fun w => implNum_calls x w)
  unfold numZ at HNum
  rw [ha] at HNum
  have HC := hid c
  clear c
  go_enter Try.func80, Try.ntmps80
  go_wp2_with fail
  refine HIo.out.mono ?_
  rintro e W1 ⟨rfl, hb1⟩
  have HC1 := hid (HC.out.keep hb1)
  have v3 := (HC1.out.blk.later (B := W1.heap.size) (heap_lt HC1.out.blk)).2.2.2.1
  rw [hto] at v3
  have hk1 : (bits .and .i64 (ws.getD a 0) 15 == 15) = false := by rw [and15]; simpa using hk
  clear hk
  have HTo := hid hto
  have HTp := hid htop
  have HRoom := hid hroom
  clear hb1 HIo hold ha hto htop hroom
  go_wp2_with fail
  refine wp_region_calm W1.heap.size (by kernel_rfl) (by kernel_rfl) ?_
  repeat (go_big_quiet_step (first | (rename_i x; go_at_call 52; refine (HNum.out _).mono ?_; rintro e w5 ⟨rfl, rfl⟩; exact ⟨rfl, x, rfl⟩)))
  refine wpQuiet_nil ?_
  rintro w5 ⟨y, rfl⟩
  have HC2 := hid (HC1.out.keep y.h)
  have HRd := hid (read_calls HC2.out (i := a) (by omega) hr0 (by omega))
  clear v3
  generalize y.w = W2 at *
  go_wp2_with fail
  refine HRd.out.mono ?_
  rintro e W3 ⟨rfl, hC3⟩
  have HC3 := hid hC3
  clear hC3 HRd
  have HF0 : Hid (copyW ws a to 1 = ws.set to (ws.getD a 0)) := rfl
  have HHr := hid (hasRoom_calls HC3.out (n : Int) (by rw [HTo.out]; omega) (by have := HRoom.out; have := HTp.out; rw [HTo.out]; omega) (by have := HRoom.out; omega) (by have := HTp.out; omega))
  rw [HTo.out, decide_eq_true HRoom.out] at HHr
  have hto1 : to + n ≤ N := by have := HRoom.out; have := HTp.out; omega
  generalize ws.getD a 0 = F at *
  have HWr := hid (fun (X : World) (b : Below W3.heap.size W3 X) => write_calls (HC3.out.keep b) (i := to) (by omega) F ht0 (by omega))
  go_wp2_with fail
  refine HHr.out.mono ?_
  rintro e W4 ⟨rfl, hb4⟩
  have HW4 := hid (HWr.out W4 hb4)
  rw [← HF0.out] at HW4
  clear hb4 HWr HHr HC3 HC2 HC1 HC HNum
  go_wp2_with fail
  refine HW4.out.mono ?_
  rintro e W5 ⟨rfl, hC5⟩
  clear HW4
  have HC5 := hid hC5
  clear hC5
  go_wp2_with fail
  go_loopw [11] (fun i wr => ∃ p : Nat, i = .int .i64 p ∧ p ≤ n ∧ Hid (1 ≤ p) ∧ Hid (Col w0 bc bw N cap (copyW ws a to p) h (r + p) (t + p) wr)) (fun i _ => n - (intOf i).toNat)
  case atStart => exact ⟨1, rfl, by omega, Nat.le_refl _, HC5.out⟩
  case round =>
    obtain ⟨p, rfl, hpn, HP, HI⟩ := hrel
    clear HC5
    by_cases hlt : (p : Int) < (n : Int)
    · have HRd := hid (read_calls HI.out (i := a + p) (by omega) (by omega) (by omega))
      rw [Int.natCast_add] at HRd
      go_wp2_with fail
      refine HRd.out.mono ?_
      rintro e W6 ⟨rfl, hC6⟩
      have HWr := hid (write_calls hC6 (i := to + p) (by omega) ((copyW ws a to p).getD (a + p) 0) (by omega) (by omega))
      rw [Int.natCast_add] at HWr
      have HS : Hid (copyW ws a to (p + 1) = (copyW ws a to p).set (to + p) ((copyW ws a to p).getD (a + p) 0)) := rfl
      rw [← HS.out] at HWr
      clear hC6 HRd HS HI
      generalize (copyW ws a to p).getD (a + p) 0 = y at *
      go_wp2_with fail
      refine HWr.out.mono ?_
      rintro e W7 ⟨rfl, hC7⟩
      have HC7 := hid hC7
      clear hC7 HWr
      go_wp2_with fail
      have hs : n - (intOf (.int .i64 ((p : Int) + 1))).toNat < n - (intOf (.int .i64 (p : Int))).toNat := by simp only [intOf, Int.toNat_natCast]; omega
      refine ⟨⟨p + 1, ?_, by omega, Nat.le_add_left _ _, ?_⟩, hs⟩
      · push_cast
        rfl
      · push_cast
        rw [← Int.add_assoc, ← Int.add_assoc]
        exact HC7.out
    · obtain rfl : p = n := by omega
      have c3 := HI.out.blk.cells.2.2.2.1
      rw [HTo.out] at c3
      have f3 := frozen_of_heap HI.out.blk 3
      have HMk := hid (fun w => implMake_calls 0 (to : Int) w)
      have HMz : Hid (makeZ 0 (to : Int) = 8 * (to : Int)) := by
        show _ = _
        unfold makeZ wrap64
        rw [if_neg (by omega)]
        omega
      rw [HMz.out] at HMk
      have HHd := hid (fun w => head_calls p hn w)
      have HW1 := hid (fun (X : World) (b : Below (wr.setCell ⟨bc, 3, none⟩ (.int .i64 ((to : Int) + p))).heap.size (wr.setCell ⟨bc, 3, none⟩ (.int .i64 ((to : Int) + p))) X) => write_calls ((HI.out.bottom ((to : Int) + p)).keep b) (i := a) (by omega) ((p : Int) * 16 + 15) (by omega) (by omega))
      clear HMz HI
      go_wp2_with fail
      refine (HHd.out _).mono ?_
      rintro e W6 ⟨rfl, rfl⟩
      go_wp2_with fail
      refine (HW1.out _ (by first | exact Below.refl _ _ | exact (Below.refl _ _).drew)).mono ?_
      rintro e W7 ⟨rfl, hC7⟩
      have HC7 := hid hC7
      clear hC7 HW1 HHd c3 f3
      have HW2 := hid (fun (X : World) (b : Below W7.heap.size W7 X) => write_calls (HC7.out.keep b) (i := a + 1) (by omega) (8 * (to : Int)) (by omega) (by omega))
      rw [show ((a + 1 : Nat) : Int) = (a : Int) + 1 from rfl] at HW2
      go_wp2_with fail
      refine (HMk.out _).mono ?_
      rintro e W8 ⟨rfl, rfl⟩
      go_wp2_with fail
      refine (HW2.out _ (by first | exact Below.refl _ _ | exact (Below.refl _ _).drew)).mono ?_
      rintro e W9 ⟨rfl, hC9⟩
      have HC9 := hid hC9
      clear hC9 HW2 HC7
      go_wp2_with fail
      refine (HMk.out _).mono ?_
      rintro e W8 ⟨rfl, rfl⟩
      go_wp2_with fail
      refine bodyPost_ret (v := .tuple #[.int .i64 (8 * (to : Int)), .bool true]) (by simp [results, Try.results80, go_sem]) rfl ⟨rfl, ?_⟩
      have E : t + (p : Int) + 1 + 1 = t + p + 2 := by omega
      rw [← E]
      first | exact HC9.out | exact HC9.out.keep (Below.refl _ _).drew
end Go.Proofs.Ytebpgglegnljgaa
