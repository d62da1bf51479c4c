/- The specification opens a heap: a worker with words of its own. -/
import Derived.Test.YtebpgglegnljgaaSpecWkA
namespace Go.Proofs.Ytebpgglegnljgaa
open Go.RowKit

theorem heap_alloc2 (w : World) (o o' : Obj) : ((w.alloc o).alloc o').heap[w.heap.size]? = some o ∧ ((w.alloc o).alloc o').heap[w.heap.size + 1]? = some o' ∧ ((w.alloc o).alloc o').heap.size = w.heap.size + 2 := by
  have h := two_kept (w := w) (o := o) (o' := o') (Below.refl _ _)
  exact ⟨h.1, h.2.1, by simp⟩

theorem row_of_owns {w : World} {B g N cap : Nat} {ws : List Int} (hl : ws.length = N) (h : w.ownsRow B 3 1 (.slice (some ⟨g, 0, none⟩) N cap) N (ws.map (fun x => Value.int .i64 x))) : CellRow 3 w g N (intCells ws) ∧ B ≤ g := by
  obtain ⟨-, hh | ⟨g', cp, cur, e, hg, hcur, hcp, -, hcs, htk⟩⟩ := h
  · exact absurd hh.1 (by simp)
  · cases e
    refine ⟨⟨cap, fun i => (cur[i]?).getD undef, ⟨cur, (0, 0), hcur, by omega, fun i hi => ?_, Or.inl rfl⟩, hcp, fun i hi => ?_⟩, hg⟩
    · have e := Array.getElem?_eq_getElem (xs := cur) (i := i) (by omega)
      dsimp only
      rw [e]
      rfl
    · have e : (cur.toList.take (N * 1))[i]? = (ws.map (fun x => Value.int .i64 x))[i]? := by rw [htk]
      rw [Nat.mul_one, List.getElem?_take_of_lt hi, List.getElem?_map, Array.getElem?_toList, List.getElem?_eq_getElem (by omega)] at e
      dsimp only
      rw [e]
      simp [intCells, List.getD, hl, hi]

set_option maxHeartbeats 1000000 in
set_option maxRecDepth 100000 in
theorem open_calls (b off cap N : Nat) (ws : List Int) (h : HpN) (w : World) (hN0 : 0 < N) (hl : ws.length = N) (hN : N ≤ 8000) (hb : b < w.heap.size)
    (hw : ∀ k, k < N → w.cell? ⟨b, off + k, none⟩ = some (.int .i64 (ws.getD k 0))) (ht0 : 0 ≤ h.touched) (ht1 : h.touched < 9223372036854775808) :
    Calls Try.prog 46 #[heapV (.slice (some ⟨b, off, none⟩) N cap) h] w fun e w' => ∃ bm bw cap' : Nat, e = .returned (.pointer (some ⟨bm, 0, none⟩)) ∧ Wk w bm bw N cap' ⟨ws, h, 0, 0⟩ false w' ∧ w.heap.size ≤ bm ∧ w.heap.size ≤ bw := by
  obtain ⟨g1, g2, g3, g4, g5, g6, g7, g8, g9⟩ := h
  unfold heapV
  dsimp only at *
  have HW := hid hw
  have HT : Hid (touchZ ⟨ws, ⟨g1, g2, g3, g4, g5, g6, g7, g8, g9⟩, 0, 0⟩ = g9) := by
    show _ = _
    unfold touchZ wrap64
    dsimp only
    omega
  clear hw ht0 ht1
  obtain ⟨i0, hi, hz0, hz1, hz2⟩ := info_parts info_int
  obtain ⟨eA, eB, eS⟩ := heap_alloc2 w (.cells #[.slice (some ⟨b, off, none⟩) N cap, .int .i64 g1, .int .i64 g2, .int .i64 g3, .int .i64 g4, .int .i64 g5, .int .i64 g6, .int .i64 g7, .int .i64 g8, .int .i64 g9] 25) (.cells #[] 3)
  have k2 := ((Below.refl w.heap.size w).alloc (Nat.le_refl _) (.cells #[.slice (some ⟨b, off, none⟩) N cap, .int .i64 g1, .int .i64 g2, .int .i64 g3, .int .i64 g4, .int .i64 g5, .int .i64 g6, .int .i64 g7, .int .i64 g8, .int .i64 g9] 25)).alloc (by simp) (.cells #[] 3)
  have HEA := hid eA
  have HEB := hid eB
  have HES := hid eS
  have HK2 := hid k2
  clear eA eB eS k2
  go_enter Try.func46, Try.ntmps46
  go_wp2_with (first
    | (at_builtin; refine wpList_append_own _ rfl _ _ 23 rfl w.heap.size 3 i0 (.int .i64 0) 1 8 Try.underlying23 hi hz0 hz1 hz2 rfl (by decide) (.slice (some ⟨w.heap.size + 1, 0, none⟩) 0 0) 0 [] rfl ⟨rfl, Or.inr ⟨w.heap.size + 1, 0, #[], rfl, by omega, HEB.out, by omega, by decide, rfl, rfl⟩⟩ ⟨b, off, none⟩ N cap (ws.map (fun x => Value.int .i64 x)) rfl (by simp [hl]) (fun j u hu => ?_) (fun u hu => ?_) (by unfold maxLen; omega) (by omega) (by rw [HES.out]; omega) ?_))
  · rw [List.getElem?_map] at hu
    obtain ⟨x, hx, rfl⟩ := Option.map_eq_some_iff.1 hu
    have hj : j < N := by have := (List.getElem?_eq_some_iff.1 hx).1; omega
    have e := (HK2.out.cell (p := ⟨b, off + j, none⟩) hb).trans (HW.out j hj)
    rw [show ws.getD j 0 = x by simp [List.getD, hx]] at e
    have ea : (⟨b, off, none⟩ : Addr).add j = ⟨b, off + j, none⟩ := by
      unfold Addr.add
      split
      · simp_all
      · rfl
    rw [ea]
    exact e
  · simp only [List.mem_map] at hu
    obtain ⟨x, _, rfl⟩ := hu
    rfl
  · intro v' w3 hown hgrow hnil
    obtain ⟨-, hh | ⟨g, cp, cur, rfl, hg, hcur, hcp, hcm, hcs, htk⟩⟩ := id hown
    · exact absurd hh.1 hnil
    obtain ⟨hrow, hlow⟩ := row_of_owns hl hown
    have hH : HeapBlk w3 w.heap.size (.slice (some ⟨b, off, none⟩) N cap) ⟨g1, g2, g3, g4, g5, g6, g7, g8, g9⟩ := (hgrow.block w.heap.size (by rw [HES.out]; omega) (by simp [Value.ownBlock])).trans HEA.out
    have hbw : Below w.heap.size w w3 := Below.grown HK2.out hgrow (by rw [HES.out]; omega) (fun j hj => by simp [Value.ownBlock] at hj; omega)
    have hne : g ≠ w.heap.size := by
      rintro rfl
      have e := hH
      unfold HeapBlk at e
      rw [hcur] at e
      simp at e
    obtain ⟨c0, c1, c2, c3, c4, c5, c6, c7, c8, c9⟩ := hH.cells
    dsimp only at c0 c1 c2 c3 c4 c5 c6 c7 c8 c9
    have f0 := frozen_of_heap hH 0
    have HB := hid hbw
    have HR := hid hrow
    have HH := hid hH
    have hsz := hbw.size
    clear hown hgrow hnil hcur hcp hcm hcs htk hbw hrow hH HK2 HEA HEB HES HW
    go_wp2_with fail
    go_ret
    have hs : (w3.setCell ⟨w.heap.size, 0, none⟩ (.slice (some ⟨g, 0, none⟩) N cp)).heap.size = w3.heap.size := by simp [World.setCell]
    have hgl := HR.out.lt
    refine ⟨w3.heap.size, g, cp, rfl, ⟨?_, ?_, hl, by omega, Frm.of_below ((HB.out.setCell (Nat.le_refl _) _).alloc (by rw [hs]; exact hsz) _)⟩, hsz, hlow⟩
    · have e := (MapKept.heap_alloc (w3.setCell ⟨w.heap.size, 0, none⟩ (.slice (some ⟨g, 0, none⟩) N cp)) (.cells #[.slice (some ⟨g, 0, none⟩) N cp, .int .i64 g1, .int .i64 g2, .int .i64 g3, .int .i64 g4, .int .i64 g5, .int .i64 g6, .int .i64 g7, .int .i64 g8, .int .i64 g9, .bool false] 82)).1
      rw [hs] at e
      unfold WkBlk
      rw [HT.out]
      exact e
    · refine HR.out.of_block ?_
      have e1 := ((Below.refl (w3.setCell ⟨w.heap.size, 0, none⟩ (.slice (some ⟨g, 0, none⟩) N cp)).heap.size _).alloc (Nat.le_refl _) (.cells #[.slice (some ⟨g, 0, none⟩) N cp, .int .i64 g1, .int .i64 g2, .int .i64 g3, .int .i64 g4, .int .i64 g5, .int .i64 g6, .int .i64 g7, .int .i64 g8, .int .i64 g9, .bool false] 82)).block g (by rw [hs]; exact hgl)
      exact e1.trans (Below.heap_setCell _ _ _ _ hne)
end Go.Proofs.Ytebpgglegnljgaa

namespace Go.Proofs.Ytebpgglegnljgaa
open Go.RowKit

theorem here_not {h : HpN} {x : Int} (hg : hereZ h x = !lateZ h x) {b : Bool} (hl : lateZ h x = b) : hereZ h x = !b := by rw [hg, hl]

set_option maxRecDepth 100000 in
theorem smove_stays {w0 W : World} {bm bw N cap : Nat} {s : CN} (c : Wk w0 bm bw N cap s false W) (x : Int) (h0 : 0 ≤ s.h.to) (h1 : s.h.to ≤ s.h.size) (h3 : s.h.size ≤ 4000) (hh : hereZ s.h x = true) :
    Calls Try.prog 75 #[.pointer (some ⟨bm, 0, none⟩), .int .i64 x] W fun e w' => e = .returned (.int .i64 x) ∧ Wk w0 bm bw N cap s false w' := by
  have HIo := hid (here_calls c x h0 (by omega) (by omega) h3)
  rw [hh] at HIo
  have HC := hid c
  clear c
  go_enter Try.func75, Try.ntmps75
  go_wp2_with fail
  refine HIo.out.mono ?_
  rintro e W1 ⟨rfl, hb1⟩
  have HC1 := hid (HC.out.keep hb1)
  clear hb1 HIo
  go_wp2_with fail
  go_ret
  exact ⟨rfl, HC1.out⟩

set_option maxRecDepth 100000 in
theorem smove_moved {w0 W : World} {bm bw N cap : Nat} {s : CN} (c : Wk w0 bm bw N cap s false W) (x : Int) (a : Nat) (h0 : 0 ≤ s.h.to) (h1 : s.h.to ≤ s.h.size) (h3 : s.h.size ≤ 4000) (hh : hereZ s.h x = false)
    (ha : x / 8 = a) (hk : s.ws.getD a 0 % 16 = 15) (han : a + 1 < N) (hN : N ≤ 8000) :
    Calls Try.prog 75 #[.pointer (some ⟨bm, 0, none⟩), .int .i64 x] W fun e w' => e = .returned (.int .i64 (s.ws.getD (a + 1) 0)) ∧ Wk w0 bm bw N cap ⟨s.ws, s.h, s.r + 1 + 1, s.t⟩ false w' := by
  have HIo := hid (here_calls c x h0 (by omega) (by omega) h3)
  rw [hh] at HIo
  have HNum := hid (fun w => specNum_calls x w)
  unfold numZ at HNum
  rw [ha] at HNum
  have hk1 : (bits .and .i64 (s.ws.getD a 0) 15 == 15) = true := by rw [and15]; simpa using hk
  have hk2 : bits .and .i64 (s.ws.getD a 0) 15 = 15 := by rw [and15]; exact hk
  have HC := hid c
  clear c ha hk hh
  go_enter Try.func75, Try.ntmps75
  go_wp2_with fail
  refine HIo.out.mono ?_
  rintro e W1 ⟨rfl, hb1⟩
  have HC1 := hid (HC.out.keep hb1)
  have HRd := hid (sread_calls HC1.out (i := a) (by omega))
  clear hb1 HIo HC
  go_wp2_with fail
  refine (HNum.out _).mono ?_
  rintro e W2 ⟨rfl, rfl⟩
  go_wp2_with fail
  refine HRd.out.mono ?_
  rintro e W3 ⟨rfl, hC3⟩
  have HRe := hid (sread_calls hC3 (i := a + 1) han)
  dsimp only at HRe
  rw [show ((a + 1 : Nat) : Int) = (a : Int) + 1 from rfl] at HRe
  clear hC3 HRd HC1 HNum
  generalize s.ws.getD a 0 = F at *
  go_wp2_with fail
  refine HRe.out.mono ?_
  rintro e W4 ⟨rfl, hC4⟩
  have HC4 := hid hC4
  clear hC4 HRe
  go_wp2_with fail
  go_ret
  exact ⟨rfl, HC4.out⟩

set_option maxRecDepth 100000 in
theorem smove_full {w0 W : World} {bm bw N cap : Nat} {s : CN} (c : Wk w0 bm bw N cap s false W) (x : Int) (a n : Nat) (h0 : 0 ≤ s.h.to) (h1 : s.h.to ≤ s.h.size) (h3 : s.h.size ≤ 4000) (hh : hereZ s.h x = false)
    (ha : x / 8 = a) (hf : s.ws.getD a 0 / 16 = n) (hn : n ≤ 6) (hk : s.ws.getD a 0 % 16 ≠ 15) (hroom : ¬ (n : Int) ≤ s.h.top - s.h.bottom) (han : a < N) (hb0 : 0 ≤ s.h.bottom) (hb1 : s.h.bottom ≤ 8000) :
    Calls Try.prog 75 #[.pointer (some ⟨bm, 0, none⟩), .int .i64 x] W fun e w' => e = .returned (.int .i64 x) ∧ Wk w0 bm bw N cap ⟨s.ws, s.h, s.r + 1, s.t⟩ true w' := by
  have HIo := hid (here_calls c x h0 (by omega) (by omega) h3)
  rw [hh] at HIo
  have HNum := hid (fun w => specNum_calls x w)
  unfold numZ at HNum
  rw [ha] at HNum
  have hk1 : (bits .and .i64 (s.ws.getD a 0) 15 == 15) = false := by rw [and15]; simpa using hk
  have HC := hid c
  clear c ha hk hh
  go_enter Try.func75, Try.ntmps75
  go_wp2_with fail
  refine HIo.out.mono ?_
  rintro e W1 ⟨rfl, hb1⟩
  have HC1 := hid (HC.out.keep hb1)
  have HRd := hid (sread_calls HC1.out (i := a) han)
  clear hb1 HIo HC
  go_wp2_with fail
  refine (HNum.out _).mono ?_
  rintro e W2 ⟨rfl, rfl⟩
  go_wp2_with fail
  refine HRd.out.mono ?_
  rintro e W3 ⟨rfl, hC3⟩
  have HC3 := hid hC3
  obtain ⟨-, -, -, c3, c4, -, -, -, -, -, -⟩ := hC3.blk.cells
  dsimp only at c3 c4
  clear hC3 HRd HC1 HNum
  generalize s.ws.getD a 0 = F at *
  have hroom' : s.h.top < s.h.bottom + (n : Int) := by omega
  clear hroom
  generalize s.h.top = tp at *
  generalize s.h.bottom = bt at *
  go_wp2_with fail
  go_quiet (fail)
  have hC4 := HC3.out.keep (below_drewN (Below.refl _ _) nq)
  have c10 := hC4.blk.cells.2.2.2.2.2.2.2.2.2.2
  have f10 := frozen_of_heap hC4.blk 10
  have HC4 := hid (hC4.filled true)
  clear hC4 HC3 c3 c4
  generalize W3.drewN nq = W4 at *
  go_wp2_with fail
  go_ret
  exact ⟨rfl, HC4.out⟩

set_option maxHeartbeats 1000000 in
set_option maxRecDepth 100000 in
theorem smove_copies {w0 W : World} {bm bw N cap : Nat} {s : CN} (c : Wk w0 bm bw N cap s false W) (x : Int) (a to n : Nat) (h0 : 0 ≤ s.h.to) (h1 : s.h.to ≤ s.h.size) (h3 : s.h.size ≤ 4000) (hh : hereZ s.h x = false)
    (ha : x / 8 = a) (hto : s.h.bottom = to) (hN : N ≤ 8000) (hn : n = 3 ∨ n = 6) (hf : s.ws.getD a 0 / 16 = n) (hk : s.ws.getD a 0 % 16 ≠ 15) (hroom : (n : Int) ≤ s.h.top - to) (htop : s.h.top ≤ N) (han : a + n ≤ N) :
    Calls Try.prog 75 #[.pointer (some ⟨bm, 0, none⟩), .int .i64 x] W fun e w' => e = .returned (.int .i64 (8 * (to : Int))) ∧ Wk w0 bm bw N cap ⟨((copyW s.ws a to n).set a ((n : Int) * 16 + 15)).set (a + 1) (8 * (to : Int)), { s.h with bottom := (to : Int) + n }, s.r + n, s.t + n + 2⟩ false w' := by
  have HIo := hid (here_calls c x h0 (by omega) (by omega) h3)
  rw [hh] at HIo
  have HNum := hid (fun w => specNum_calls x w)
  unfold numZ at HNum
  rw [ha] at HNum
  have hk1 : (bits .and .i64 (s.ws.getD a 0) 15 == 15) = false := by rw [and15]; simpa using hk
  have HC := hid c
  clear c ha hk hh
  have hto1 : to + n ≤ N := by omega
  have HTo := hid hto
  have HRoom := hid hroom
  go_enter Try.func75, Try.ntmps75
  go_wp2_with fail
  refine HIo.out.mono ?_
  rintro e W1 ⟨rfl, hb1⟩
  have HC1 := hid (HC.out.keep hb1)
  have HRd := hid (sread_calls HC1.out (i := a) (by omega))
  clear hb1 HIo HC
  go_wp2_with fail
  refine (HNum.out _).mono ?_
  rintro e W2 ⟨rfl, rfl⟩
  go_wp2_with fail
  refine HRd.out.mono ?_
  rintro e W3 ⟨rfl, hC3⟩
  have HC3 := hid hC3
  have HF0 : Hid (copyW s.ws a to 1 = s.ws.set to (s.ws.getD a 0)) := rfl
  obtain ⟨-, -, -, c3, c4, -, -, -, -, -, -⟩ := hC3.blk.cells
  dsimp only at c3 c4
  rw [HTo.out] at c3
  have HWr := hid (fun nq => swrite_calls (HC3.out.keep (below_drewN (Below.refl _ _) nq)) (i := to) (by omega) (s.ws.getD a 0))
  dsimp only at HWr
  rw [← HF0.out] at HWr
  clear hC3 HRd HC1 HNum HF0
  generalize s.ws.getD a 0 = F at *
  have hroom' : (to : Int) + (n : Int) ≤ s.h.top := by omega
  clear hroom hto htop
  generalize hTp : s.h.top = tp at *
  go_wp2_with fail
  go_quiet (fail)
  have HW9 := hid (HWr.out nq)
  have c3' : (W3.drewN nq).cell? ⟨bm, 3, none⟩ = some (.int .i64 (to : Int)) := c3
  clear c3 c4 HWr HC3
  generalize W3.drewN nq = W4 at *
  go_wp2_with fail
  refine HW9.out.mono ?_
  rintro e W5 ⟨rfl, hC5⟩
  have HC5 := hid hC5
  clear hC5 HW9 c3'
  go_wp2_with fail
  go_loopw [9] (fun i wr => ∃ p : Nat, i = .int .i64 p ∧ p ≤ n ∧ Hid (1 ≤ p) ∧ Hid (Wk w0 bm bw N cap ⟨copyW s.ws a to p, s.h, s.r + p, s.t + p⟩ false wr)) (fun i _ => n - (intOf i).toNat)
  case atStart => exact ⟨1, rfl, by omega, Nat.le_refl _, HC5.out⟩
  case round =>
    obtain ⟨p, rfl, hpn, HP, HI⟩ := hrel
    clear HC5
    by_cases hlt : (p : Int) < (n : Int)
    · have HRd := hid (sread_calls HI.out (i := a + p) (by omega))
      rw [Int.natCast_add] at HRd
      dsimp only at HRd
      go_wp2_with fail
      refine HRd.out.mono ?_
      rintro e W6 ⟨rfl, hC6⟩
      have HWr := hid (swrite_calls hC6 (i := to + p) (by omega) ((copyW s.ws a to p).getD (a + p) 0))
      rw [Int.natCast_add] at HWr
      dsimp only at HWr
      have HS : Hid (copyW s.ws a to (p + 1) = (copyW s.ws a to p).set (to + p) ((copyW s.ws a to p).getD (a + p) 0)) := rfl
      rw [← HS.out] at HWr
      clear hC6 HRd HS HI
      generalize (copyW s.ws a to p).getD (a + p) 0 = y at *
      go_wp2_with fail
      refine HWr.out.mono ?_
      rintro e W7 ⟨rfl, hC7⟩
      have HC7 := hid hC7
      clear hC7 HWr
      go_wp2_with fail
      have hs : n - (intOf (.int .i64 ((p : Int) + 1))).toNat < n - (intOf (.int .i64 (p : Int))).toNat := by simp only [intOf, Int.toNat_natCast]; omega
      refine ⟨⟨p + 1, ?_, by omega, Nat.le_add_left _ _, ?_⟩, hs⟩
      · push_cast
        rfl
      · push_cast
        rw [← Int.add_assoc, ← Int.add_assoc]
        exact HC7.out
    · obtain rfl : p = n := by omega
      have f3 := frozen_of_heap HI.out.blk 3
      have c3 := HI.out.blk.cells.2.2.2.1
      have HMk := hid (fun w => specMake_calls 0 (to : Int) w)
      have HMz : Hid (makeZ 0 (to : Int) = 8 * (to : Int)) := by
        show _ = _
        unfold makeZ wrap64
        rw [if_neg (by omega)]
        omega
      rw [HMz.out] at HMk
      have HW1 := hid (swrite_calls (HI.out.bottom ((to : Int) + p)) (i := a) (by omega) ((p : Int) * 16 + 15))
      dsimp only at HW1 c3
      clear HMz HI
      go_wp2_with fail
      rw [Int.mul_comm 16 (p : Int)]
      refine HW1.out.mono ?_
      rintro e W7 ⟨rfl, hC7⟩
      have HW2 := hid (swrite_calls hC7 (i := a + 1) (by omega) (8 * (to : Int)))
      dsimp only at HW2
      rw [show ((a + 1 : Nat) : Int) = (a : Int) + 1 from rfl] at HW2
      clear hC7 HW1 c3 f3
      go_wp2_with fail
      refine (HMk.out _).mono ?_
      rintro e W8 ⟨rfl, rfl⟩
      go_wp2_with fail
      refine HW2.out.mono ?_
      rintro e W9 ⟨rfl, hC9⟩
      have HC9 := hid hC9
      clear hC9 HW2
      go_wp2_with fail
      refine (HMk.out _).mono ?_
      rintro e W8 ⟨rfl, rfl⟩
      go_wp2_with fail
      go_ret
      refine ⟨rfl, ?_⟩
      have E : s.t + (p : Int) + 1 + 1 = s.t + p + 2 := by omega
      rw [← E]
      exact HC9.out

def smoveV (x : Int) : Option Int → Int
  | some y => y
  | none => x

/-- The specification's move is the plain one; where there is no room it says so. -/
theorem smove_calls {w0 W : World} {bm bw N cap : Nat} {s : CN} (c : Wk w0 bm bw N cap s false W) (x : Int) (h0 : 0 ≤ s.h.to) (h1 : s.h.to ≤ s.h.size) (h3 : s.h.size ≤ 4000) (hb0 : 0 ≤ s.h.bottom) (hbt : s.h.bottom ≤ s.h.top) (htN : s.h.top ≤ N) (hN : N ≤ 8000)
    (hm : MoveOk s.ws s.h N x) (hg : hereZ s.h x = !lateZ s.h x) :
    Calls Try.prog 75 #[.pointer (some ⟨bm, 0, none⟩), .int .i64 x] W fun e w' => e = .returned (.int .i64 (smoveV x (moveZ s x).1)) ∧ Wk w0 bm bw N cap (moveZ s x).2 (moveZ s x).1.isNone w' := by
  unfold moveZ
  cases ho : lateZ s.h x with
  | false =>
    rw [if_pos rfl]
    exact smove_stays c x h0 h1 h3 (here_not hg ho)
  | true =>
    rw [if_neg (by decide)]
    obtain ⟨ha1, ha2⟩ := hm ho
    have hh := here_not hg ho
    have hx0 : 0 ≤ x / 8 := by
      unfold lateZ at ho
      rw [Bool.and_eq_true, decide_eq_true_eq, decide_eq_true_eq] at ho
      omega
    obtain ⟨a, ha⟩ := Int.eq_ofNat_of_zero_le hx0
    rw [ha, Int.toNat_natCast] at ha1 ha2 ⊢
    by_cases hk : s.ws.getD a 0 % 16 = 15
    · rw [if_pos hk]
      exact smove_moved c x a h0 h1 h3 hh ha hk ha1 hN
    · rw [if_neg hk]
      obtain ⟨hs, han⟩ := ha2 hk
      obtain ⟨n, hn⟩ := Int.eq_ofNat_of_zero_le (show 0 ≤ s.ws.getD a 0 / 16 by omega)
      obtain ⟨to, hto⟩ := Int.eq_ofNat_of_zero_le hb0
      rw [hn, Int.toNat_natCast] at han
      by_cases hroom : s.ws.getD a 0 / 16 ≤ s.h.top - s.h.bottom
      · rw [if_pos hroom]
        have := smove_copies c x a to n h0 h1 h3 hh ha hto hN (by omega) hn hk (by omega) htN han
        dsimp only
        rw [hn, hto, Int.toNat_natCast, Int.toNat_natCast]
        exact this
      · rw [if_neg hroom]
        exact smove_full c x a n h0 h1 h3 hh ha hn (by omega) hk (by omega) (by omega) hb0 (by omega)
end Go.Proofs.Ytebpgglegnljgaa

namespace Go.Proofs.Ytebpgglegnljgaa
open Go.RowKit

set_option maxRecDepth 100000 in
theorem sfield_calls {w0 W : World} {bm bw N cap : Nat} {s : CN} (c : Wk w0 bm bw N cap s false W) (y i : Int) (q : Nat) (hq : q < N) (hqy : y / 8 + 1 + i = q) (hy0 : 0 ≤ y / 8) (hy1 : y / 8 ≤ 8000) (hi0 : 0 ≤ i) (hi1 : i ≤ 8000) (h0 : 0 ≤ s.h.to) (h1 : s.h.to ≤ s.h.size) (h3 : s.h.size ≤ 4000) (hb0 : 0 ≤ s.h.bottom) (hbt : s.h.bottom ≤ s.h.top) (htN : s.h.top ≤ N) (hN : N ≤ 8000)
    (hm : MoveOk s.ws s.h N (s.ws.getD q 0)) (hg : hereZ s.h (s.ws.getD q 0) = !lateZ s.h (s.ws.getD q 0)) :
    Calls Try.prog 55 #[.pointer (some ⟨bm, 0, none⟩), .int .i64 y, .int .i64 i] W fun e w' => (∃ z : Int, e = .returned (.int .i64 z) ∧ ∀ u, (fieldZ s q).1 = some u → z = u) ∧ Wk w0 bm bw N cap (fieldZ s q).2 (fieldZ s q).1.isNone w' := by
  have HNum := hid (fun w => specNum_calls y w)
  unfold numZ at HNum
  have HRd := hid (sread_calls c (i := q) hq)
  have HQ := hid hqy
  generalize y / 8 = k at *
  have HMv := hid (fun (X : World) (hX : Wk w0 bm bw N cap ⟨s.ws, s.h, s.r + 1, s.t⟩ false X) => smove_calls hX (s.ws.getD q 0) h0 h1 h3 hb0 hbt htN hN hm hg)
  have HHe := hid (fun (X : World) (hX : Wk w0 bm bw N cap ⟨s.ws, s.h, s.r + 1, s.t⟩ false X) => here_calls hX (s.ws.getD q 0) h0 (show s.h.to ≤ 4000 by omega) (show 0 ≤ s.h.size by omega) h3)
  rw [← hqy] at HRd
  clear hm c hqy
  unfold fieldZ
  dsimp only at HHe
  cases ho : lateZ s.h (s.ws.getD q 0) with
  | false =>
    rw [here_not hg ho] at HHe
    rw [if_pos rfl]
    clear hg ho HMv
    go_enter Try.func55, Try.ntmps55
    go_wp2_with fail
    refine (HNum.out _).mono ?_
    rintro e W1 ⟨rfl, rfl⟩
    go_wp2_with fail
    refine HRd.out.mono ?_
    rintro e W2 ⟨rfl, hC2⟩
    have HC2 := hid hC2
    clear hC2
    go_wp2_with fail
    refine (HHe.out _ HC2.out).mono ?_
    rintro e W3 ⟨rfl, hb3⟩
    have HC3 := hid (HC2.out.keep hb3)
    clear hb3 HHe HRd
    go_wp2_with fail
    go_ret
    exact ⟨⟨_, rfl, fun u hu => Option.some.inj hu⟩, HC3.out⟩
  | true =>
    rw [here_not hg ho] at HHe
    rw [if_neg (by decide)]
    clear hg ho
    generalize moveZ ⟨s.ws, s.h, s.r + 1, s.t⟩ (s.ws.getD q 0) = m at *
    obtain ⟨o, s2⟩ := m
    go_enter Try.func55, Try.ntmps55
    go_wp2_with fail
    refine (HNum.out _).mono ?_
    rintro e W1 ⟨rfl, rfl⟩
    go_wp2_with fail
    refine HRd.out.mono ?_
    rintro e W2 ⟨rfl, hC2⟩
    have HC2 := hid hC2
    clear hC2
    go_wp2_with fail
    refine (HHe.out _ HC2.out).mono ?_
    rintro e W3 ⟨rfl, hb3⟩
    have HC3 := hid (HC2.out.keep hb3)
    clear hb3 HHe HRd HC2
    go_wp2_with fail
    refine (HMv.out _ HC3.out).mono ?_
    rintro e W4 ⟨rfl, hC4⟩
    clear HMv HC3
    cases o with
    | some z =>
      have HWr := hid (swrite_calls (W := W4) hC4 (i := q) hq z)
      rw [← HQ.out] at HWr
      dsimp only [smoveV]
      clear hC4
      go_wp2_with fail
      refine HWr.out.mono ?_
      rintro e W5 ⟨rfl, hC5⟩
      have HC5 := hid hC5
      clear hC5 HWr
      go_wp2_with fail
      go_ret
      exact ⟨rfl, HC5.out⟩
    | none =>
      have HC4 : Hid (Wk w0 bm bw N cap s2 true W4) := hC4
      have HWr := hid (fun i x => swrite_full HC4.out i x)
      dsimp only [smoveV]
      clear hC4
      generalize s.ws.getD q 0 = z at *
      go_wp2_with fail
      refine (HWr.out _ _).mono ?_
      rintro e W5 ⟨rfl, rfl⟩
      clear HWr
      go_wp2_with fail
      go_ret
      exact ⟨⟨_, rfl⟩, HC4.out⟩
end Go.Proofs.Ytebpgglegnljgaa
