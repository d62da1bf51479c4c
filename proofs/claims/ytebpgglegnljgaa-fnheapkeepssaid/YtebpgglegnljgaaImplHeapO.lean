/- The program's move of a word, all ways; a field read. -/
import Derived.Test.YtebpgglegnljgaaImplHeapN
namespace Go.Proofs.Ytebpgglegnljgaa
open Go.RowKit

set_option maxRecDepth 100000 in
theorem move_moved {w0 W : World} {bc bw N cap : Nat} {ws : List Int} {h : HpN} {r t : Int} (c : Col w0 bc bw N cap ws h r t W) (x : Int) (a : Nat) (h0 : 0 ≤ h.to) (h1 : h.to ≤ h.size) (h3 : h.size ≤ 4000) (hold : lateZ h x = true)
    (ha : x / 8 = a) (hk : ws.getD a 0 % 16 = 15) (han : a + 1 < N) (hN : N ≤ 8000) (hr0 : 0 ≤ r) (hr1 : r ≤ 70000) :
    Calls Try.prog 80 #[.pointer (some ⟨bc, 0, none⟩), .int .i64 x] W fun e w' => e = .returned (.tuple #[.int .i64 (ws.getD (a + 1) 0), .bool true]) ∧ Col w0 bc bw N cap ws h (r + 1 + 1) t w' := by
  have HIo := hid (isOld_calls c x h0 h1 h3)
  rw [hold] at HIo
  have HNum := hid (fun w => implNum_calls x w)
  unfold numZ at HNum
  rw [ha] at HNum
  have HC := hid c
  clear c
  go_enter Try.func80, Try.ntmps80
  go_wp2_with fail
  refine HIo.out.mono ?_
  rintro e W1 ⟨rfl, hbb⟩
  have HC1 := hid (HC.out.keep hbb)
  have v3 := (HC1.out.blk.later (B := W1.heap.size) (heap_lt HC1.out.blk)).2.2.2.1
  have hk1 : (bits .and .i64 (ws.getD a 0) 15 == 15) = true := by rw [and15]; simpa using hk
  have hk2 : bits .and .i64 (ws.getD a 0) 15 = 15 := by rw [and15]; exact hk
  clear hbb HIo hold ha hk HC
  go_wp2_with fail
  refine wp_region_calm W1.heap.size (by kernel_rfl) (by kernel_rfl) ?_
  repeat (go_big_quiet_step (first | (rename_i x; go_at_call 52; refine (HNum.out _).mono ?_; rintro e w5 ⟨rfl, rfl⟩; exact ⟨rfl, x, rfl⟩)))
  refine wpQuiet_nil ?_
  rintro w5 ⟨y, rfl⟩
  have HC2 := hid (HC1.out.keep y.h)
  have HRd := hid (read_calls HC2.out (i := a) (by omega) hr0 (by omega))
  clear v3 HNum
  generalize y.w = W2 at *
  clear HC1
  go_wp2_with fail
  refine HRd.out.mono ?_
  rintro e W3 ⟨rfl, hC3⟩
  have HRe := hid (fun (X : World) (b : Below W3.heap.size W3 X) => read_calls (hC3.keep b) (i := a + 1) (by omega) (by omega) (by omega))
  rw [show ((a + 1 : Nat) : Int) = (a : Int) + 1 from rfl] at HRe
  clear hC3 HRd HC2
  generalize ws.getD a 0 = F at *
  go_wp2_with fail
  refine (HRe.out _ (by first | exact Below.refl _ _ | exact (Below.refl _ _).drew)).mono ?_
  rintro e W4 ⟨rfl, hC4⟩
  have HC4 := hid hC4
  clear hC4 HRe
  go_wp2_with fail
  exact bodyPost_ret (v := .tuple #[.int .i64 (ws.getD (a + 1) 0), .bool true]) (by simp [results, Try.results80, go_sem]) rfl ⟨rfl, by first | exact HC4.out | exact HC4.out.keep (Below.refl _ _).drew⟩

set_option maxRecDepth 100000 in
theorem move_full {w0 W : World} {bc bw N cap : Nat} {ws : List Int} {h : HpN} {r t : Int} (c : Col w0 bc bw N cap ws h r t W) (x : Int) (a n : Nat) (h0 : 0 ≤ h.to) (h1 : h.to ≤ h.size) (h3 : h.size ≤ 4000) (hold : lateZ h x = true)
    (ha : x / 8 = a) (hf : ws.getD a 0 / 16 = n) (hk : ws.getD a 0 % 16 ≠ 15) (hroom : ¬ (n : Int) ≤ h.top - h.bottom) (han : a < N) (hr0 : 0 ≤ r) (hr1 : r ≤ 70000) (hb0 : 0 ≤ h.bottom) (hb1 : h.bottom ≤ 8000) (ht0 : 0 ≤ h.top) (ht1 : h.top ≤ 8000) :
    Calls Try.prog 80 #[.pointer (some ⟨bc, 0, none⟩), .int .i64 x] W fun e w' => e = .returned (.tuple #[.int .i64 0, .bool false]) ∧ Col w0 bc bw N cap ws h (r + 1) t w' := by
  have HIo := hid (isOld_calls c x h0 h1 h3)
  rw [hold] at HIo
  have HNum := hid (fun w => implNum_calls x w)
  unfold numZ at HNum
  rw [ha] at HNum
  have HC := hid c
  clear c
  go_enter Try.func80, Try.ntmps80
  go_wp2_with fail
  refine HIo.out.mono ?_
  rintro e W1 ⟨rfl, hbb⟩
  have HC1 := hid (HC.out.keep hbb)
  have v3 := (HC1.out.blk.later (B := W1.heap.size) (heap_lt HC1.out.blk)).2.2.2.1
  have hk1 : (bits .and .i64 (ws.getD a 0) 15 == 15) = false := by rw [and15]; simpa using hk
  have HRoom := hid hroom
  clear hbb HIo hold ha hk HC hroom
  go_wp2_with fail
  refine wp_region_calm W1.heap.size (by kernel_rfl) (by kernel_rfl) ?_
  repeat (go_big_quiet_step (first | (rename_i x; go_at_call 52; refine (HNum.out _).mono ?_; rintro e w5 ⟨rfl, rfl⟩; exact ⟨rfl, x, rfl⟩)))
  refine wpQuiet_nil ?_
  rintro w5 ⟨y, rfl⟩
  have HC2 := hid (HC1.out.keep y.h)
  have HRd := hid (read_calls HC2.out (i := a) han hr0 (by omega))
  clear v3 HNum
  generalize y.w = W2 at *
  clear HC1
  go_wp2_with fail
  refine HRd.out.mono ?_
  rintro e W3 ⟨rfl, hC3⟩
  have HC3 := hid hC3
  have HHr := hid (hasRoom_calls HC3.out (n : Int) hb0 hb1 ht0 ht1)
  rw [decide_eq_false (show ¬ (n : Int) ≤ h.top - h.bottom by have := HRoom.out; omega)] at HHr
  clear hC3 HRd HC2
  generalize ws.getD a 0 = F at *
  go_wp2_with fail
  refine HHr.out.mono ?_
  rintro e W4 ⟨rfl, hb4⟩
  have HC4 := hid (HC3.out.keep hb4)
  clear hb4 HHr HC3
  go_wp2_with fail
  exact bodyPost_ret (v := .tuple #[.int .i64 0, .bool false]) (by simp [results, Try.results80, go_sem]) rfl ⟨rfl, by first | exact HC4.out | exact HC4.out.keep (Below.refl _ _).drew⟩

set_option maxRecDepth 100000 in
/-- A field that leads nowhere old. -/
theorem field_stays {w0 W : World} {bc bw N cap : Nat} {ws : List Int} {h : HpN} {r t : Int} (c : Col w0 bc bw N cap ws h r t W) (q : Nat) (hq : q < N) (h0 : 0 ≤ h.to) (h1 : h.to ≤ h.size) (h3 : h.size ≤ 4000) (hr0 : 0 ≤ r) (hr1 : r ≤ 70000) (hold : lateZ h (ws.getD q 0) = false) :
    Calls Try.prog 53 #[.pointer (some ⟨bc, 0, none⟩), .int .i64 (q : Int)] W fun e w' => e = .returned (.tuple #[.int .i64 (ws.getD q 0), .bool true]) ∧ Col w0 bc bw N cap ws h (r + 1) t w' := by
  have HRd := hid (read_calls c (i := q) hq hr0 (by omega))
  clear c
  go_enter Try.func53, Try.ntmps53
  go_wp2_with fail
  refine HRd.out.mono ?_
  rintro e W1 ⟨rfl, hC1⟩
  have HIo := hid (fun (X : World) (b : Below W1.heap.size W1 X) => isOld_calls (hC1.keep b) (ws.getD q 0) h0 h1 h3)
  rw [hold] at HIo
  have HC1 := hid hC1
  clear hC1 HRd
  go_wp2_with fail
  refine (HIo.out _ (by first | exact Below.refl _ _ | exact (Below.refl _ _).drew)).mono ?_
  rintro e W2 ⟨rfl, hb2⟩
  have HC2 := hid (HC1.out.keep (by first | exact hb2 | exact (Below.refl _ _).drew.trans hb2))
  clear hb2 HIo HC1
  go_wp2_with fail
  exact bodyPost_ret (v := .tuple #[.int .i64 (ws.getD q 0), .bool true]) (by simp [results, Try.results53, go_sem]) rfl ⟨rfl, by first | exact HC2.out | exact HC2.out.keep (Below.refl _ _).drew⟩

set_option maxRecDepth 100000 in
/-- A field that leads to what is old: what its move answers is written there. -/
theorem field_moves {w0 W : World} {bc bw N cap : Nat} {ws : List Int} {h : HpN} {r t : Int} (c : Col w0 bc bw N cap ws h r t W) (q : Nat) (hq : q < N) (h0 : 0 ≤ h.to) (h1 : h.to ≤ h.size) (h3 : h.size ≤ 4000) (hr0 : 0 ≤ r) (hr1 : r ≤ 70000) (hold : lateZ h (ws.getD q 0) = true)
    (y : Int) (ws' : List Int) (h' : HpN) (r' t' : Int) (ht0 : 0 ≤ t') (ht1 : t' ≤ 80000)
    (hm : ∀ X, Col w0 bc bw N cap ws h (r + 1) t X → Calls Try.prog 80 #[.pointer (some ⟨bc, 0, none⟩), .int .i64 (ws.getD q 0)] X fun e w' => e = .returned (.tuple #[.int .i64 y, .bool true]) ∧ Col w0 bc bw N cap ws' h' r' t' w') :
    Calls Try.prog 53 #[.pointer (some ⟨bc, 0, none⟩), .int .i64 (q : Int)] W fun e w' => e = .returned (.tuple #[.int .i64 y, .bool true]) ∧ Col w0 bc bw N cap (ws'.set q y) h' r' (t' + 1) w' := by
  have HRd := hid (read_calls c (i := q) hq hr0 (by omega))
  have HM := hid hm
  clear c hm
  go_enter Try.func53, Try.ntmps53
  go_wp2_with fail
  refine HRd.out.mono ?_
  rintro e W1 ⟨rfl, hC1⟩
  have HIo := hid (fun (X : World) (b : Below W1.heap.size W1 X) => isOld_calls (hC1.keep b) (ws.getD q 0) h0 h1 h3)
  rw [hold] at HIo
  have HC1 := hid hC1
  clear hC1 HRd
  go_wp2_with fail
  refine (HIo.out _ (by first | exact Below.refl _ _ | exact (Below.refl _ _).drew)).mono ?_
  rintro e W2 ⟨rfl, hb2⟩
  have HC2 := hid (HC1.out.keep (by first | exact hb2 | exact (Below.refl _ _).drew.trans hb2))
  clear hb2 HIo HC1
  go_wp2_with fail
  refine (HM.out _ (by first | exact HC2.out | exact HC2.out.keep (Below.refl _ _).drew)).mono ?_
  rintro e W3 ⟨rfl, hC3⟩
  have HW := hid (fun (X : World) (b : Below W3.heap.size W3 X) => write_calls (hC3.keep b) (i := q) hq y ht0 ht1)
  clear hC3 HM HC2
  go_wp2_with fail
  refine (HW.out _ (by first | exact Below.refl _ _ | exact (Below.refl _ _).drew)).mono ?_
  rintro e W4 ⟨rfl, hC4⟩
  have HC4 := hid hC4
  clear hC4 HW
  go_wp2_with fail
  exact bodyPost_ret (v := .tuple #[.int .i64 y, .bool true]) (by simp [results, Try.results53, go_sem]) rfl ⟨rfl, by first | exact HC4.out | exact HC4.out.keep (Below.refl _ _).drew⟩
end Go.Proofs.Ytebpgglegnljgaa
