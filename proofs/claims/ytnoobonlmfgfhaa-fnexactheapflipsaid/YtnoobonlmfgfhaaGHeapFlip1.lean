/- The specification opens a heap: a worker with words of its own. -/
import Derived.Test.YtnoobonlmfgfhaaSpecWkA
import Derived.Test.YtnoobonlmfgfhaaImplScanQFlip
import Derived.Test.YtnoobonlmfgfhaaImplFlipQFlip
namespace Go.Proofs.Ytnoobonlmfgfhaa
open Go.RowKit

theorem heap_alloc2 (w : World) (o o' : Obj) : ((w.alloc o).alloc o').heap[w.heap.size]? = some o ∧ ((w.alloc o).alloc o').heap[w.heap.size + 1]? = some o' ∧ ((w.alloc o).alloc o').heap.size = w.heap.size + 2 := by
  have h := two_kept (w := w) (o := o) (o' := o') (Below.refl _ _)
  exact ⟨h.1, h.2.1, by simp⟩

theorem row_of_owns {w : World} {B g N cap : Nat} {ws : List Int} (hl : ws.length = N) (h : w.ownsRow B 3 1 (.slice (some ⟨g, 0, none⟩) N cap) N (ws.map (fun x => Value.int .i64 x))) : CellRow 3 w g N (intCells ws) ∧ B ≤ g := by
  obtain ⟨-, hh | ⟨g', cp, cur, e, hg, hcur, hcp, -, hcs, htk⟩⟩ := h
  · exact absurd hh.1 (by simp)
  · cases e
    refine ⟨⟨cap, fun i => (cur[i]?).getD undef, ⟨cur, (0, 0), hcur, by omega, fun i hi => ?_, Or.inl rfl⟩, hcp, fun i hi => ?_⟩, hg⟩
    · have e := Array.getElem?_eq_getElem (xs := cur) (i := i) (by omega)
      dsimp only
      rw [e]
      rfl
    · have e : (cur.toList.take (N * 1))[i]? = (ws.map (fun x => Value.int .i64 x))[i]? := by rw [htk]
      rw [Nat.mul_one, List.getElem?_take_of_lt hi, List.getElem?_map, Array.getElem?_toList, List.getElem?_eq_getElem (by omega)] at e
      dsimp only
      rw [e]
      simp [intCells, List.getD, hl, hi]

set_option maxHeartbeats 1000000 in
set_option maxRecDepth 100000 in
theorem open_calls (b off cap N : Nat) (ws : List Int) (h : HpN) (w : World) (hN0 : 0 < N) (hl : ws.length = N) (hN : N ≤ 8000) (hb : b < w.heap.size)
    (hw : ∀ k, k < N → w.cell? ⟨b, off + k, none⟩ = some (.int .i64 (ws.getD k 0))) (ht0 : 0 ≤ h.touched) (ht1 : h.touched < 9223372036854775808) :
    Calls Try.prog 43 #[heapV (.slice (some ⟨b, off, none⟩) N cap) h] w fun e w' => ∃ bm bw cap' : Nat, e = .returned (.pointer (some ⟨bm, 0, none⟩)) ∧ Wk w bm bw N cap' ⟨ws, h, 0, 0⟩ false w' ∧ w.heap.size ≤ bm ∧ w.heap.size ≤ bw := by
  obtain ⟨g1, g2, g3, g4, g5, g6, g7, g8, g9⟩ := h
  unfold heapV
  dsimp only at *
  have HW := hid hw
  have HT : Hid (touchZ ⟨ws, ⟨g1, g2, g3, g4, g5, g6, g7, g8, g9⟩, 0, 0⟩ = g9) := by
    show _ = _
    unfold touchZ wrap64
    dsimp only
    omega
  clear hw ht0 ht1
  obtain ⟨i0, hi, hz0, hz1, hz2⟩ := info_parts info_int
  obtain ⟨eA, eB, eS⟩ := heap_alloc2 w (.cells #[.slice (some ⟨b, off, none⟩) N cap, .int .i64 g1, .int .i64 g2, .int .i64 g3, .int .i64 g4, .int .i64 g5, .int .i64 g6, .int .i64 g7, .int .i64 g8, .int .i64 g9] 27) (.cells #[] 3)
  have k2 := ((Below.refl w.heap.size w).alloc (Nat.le_refl _) (.cells #[.slice (some ⟨b, off, none⟩) N cap, .int .i64 g1, .int .i64 g2, .int .i64 g3, .int .i64 g4, .int .i64 g5, .int .i64 g6, .int .i64 g7, .int .i64 g8, .int .i64 g9] 27)).alloc (by simp) (.cells #[] 3)
  have HEA := hid eA
  have HEB := hid eB
  have HES := hid eS
  have HK2 := hid k2
  clear eA eB eS k2
  go_enter Try.func43, Try.ntmps43
  go_wp2_with (first
    | (at_builtin; refine wpList_append_own _ rfl _ _ 22 rfl w.heap.size 3 i0 (.int .i64 0) 1 8 Try.underlying22 hi hz0 hz1 hz2 rfl (by decide) (.slice (some ⟨w.heap.size + 1, 0, none⟩) 0 0) 0 [] rfl ⟨rfl, Or.inr ⟨w.heap.size + 1, 0, #[], rfl, by omega, HEB.out, by omega, by decide, rfl, rfl⟩⟩ ⟨b, off, none⟩ N cap (ws.map (fun x => Value.int .i64 x)) rfl (by simp [hl]) (fun j u hu => ?_) (fun u hu => ?_) (by unfold maxLen; omega) (by omega) (by rw [HES.out]; omega) ?_))
  · rw [List.getElem?_map] at hu
    obtain ⟨x, hx, rfl⟩ := Option.map_eq_some_iff.1 hu
    have hj : j < N := by have := (List.getElem?_eq_some_iff.1 hx).1; omega
    have e := (HK2.out.cell (p := ⟨b, off + j, none⟩) hb).trans (HW.out j hj)
    rw [show ws.getD j 0 = x by simp [List.getD, hx]] at e
    have ea : (⟨b, off, none⟩ : Addr).add j = ⟨b, off + j, none⟩ := by
      unfold Addr.add
      split
      · simp_all
      · rfl
    rw [ea]
    exact e
  · simp only [List.mem_map] at hu
    obtain ⟨x, _, rfl⟩ := hu
    rfl
  · intro v' w3 hown hgrow hnil
    obtain ⟨-, hh | ⟨g, cp, cur, rfl, hg, hcur, hcp, hcm, hcs, htk⟩⟩ := id hown
    · exact absurd hh.1 hnil
    obtain ⟨hrow, hlow⟩ := row_of_owns hl hown
    have hH : HeapBlk w3 w.heap.size (.slice (some ⟨b, off, none⟩) N cap) ⟨g1, g2, g3, g4, g5, g6, g7, g8, g9⟩ := (hgrow.block w.heap.size (by rw [HES.out]; omega) (by simp [Value.ownBlock])).trans HEA.out
    have hbw : Below w.heap.size w w3 := Below.grown HK2.out hgrow (by rw [HES.out]; omega) (fun j hj => by simp [Value.ownBlock] at hj; omega)
    have hne : g ≠ w.heap.size := by
      rintro rfl
      have e := hH
      unfold HeapBlk at e
      rw [hcur] at e
      simp at e
    obtain ⟨c0, c1, c2, c3, c4, c5, c6, c7, c8, c9⟩ := hH.cells
    dsimp only at c0 c1 c2 c3 c4 c5 c6 c7 c8 c9
    have f0 := frozen_of_heap hH 0
    have HB := hid hbw
    have HR := hid hrow
    have HH := hid hH
    have hsz := hbw.size
    clear hown hgrow hnil hcur hcp hcm hcs htk hbw hrow hH HK2 HEA HEB HES HW
    go_wp2_with fail
    go_ret
    have hs : (w3.setCell ⟨w.heap.size, 0, none⟩ (.slice (some ⟨g, 0, none⟩) N cp)).heap.size = w3.heap.size := by simp [World.setCell]
    have hgl := HR.out.lt
    refine ⟨w3.heap.size, g, cp, rfl, ⟨?_, ?_, hl, by omega, Frm.of_below ((HB.out.setCell (Nat.le_refl _) _).alloc (by rw [hs]; exact hsz) _)⟩, hsz, hlow⟩
    · have e := (MapKept.heap_alloc (w3.setCell ⟨w.heap.size, 0, none⟩ (.slice (some ⟨g, 0, none⟩) N cp)) (.cells #[.slice (some ⟨g, 0, none⟩) N cp, .int .i64 g1, .int .i64 g2, .int .i64 g3, .int .i64 g4, .int .i64 g5, .int .i64 g6, .int .i64 g7, .int .i64 g8, .int .i64 g9, .bool false] 67)).1
      rw [hs] at e
      unfold WkBlk
      rw [HT.out]
      exact e
    · refine HR.out.of_block ?_
      have e1 := ((Below.refl (w3.setCell ⟨w.heap.size, 0, none⟩ (.slice (some ⟨g, 0, none⟩) N cp)).heap.size _).alloc (Nat.le_refl _) (.cells #[.slice (some ⟨g, 0, none⟩) N cp, .int .i64 g1, .int .i64 g2, .int .i64 g3, .int .i64 g4, .int .i64 g5, .int .i64 g6, .int .i64 g7, .int .i64 g8, .int .i64 g9, .bool false] 67)).block g (by rw [hs]; exact hgl)
      exact e1.trans (Below.heap_setCell _ _ _ _ hne)
end Go.Proofs.Ytnoobonlmfgfhaa

/- The specification's move of a word, all ways. -/
namespace Go.Proofs.Ytnoobonlmfgfhaa
open Go.RowKit

theorem here_not {h : HpN} {x : Int} (hg : hereZ h x = !lateZ h x) {b : Bool} (hl : lateZ h x = b) : hereZ h x = !b := by rw [hg, hl]

set_option maxRecDepth 100000 in
theorem smove_stays {w0 W : World} {bm bw N cap : Nat} {s : CN} (c : Wk w0 bm bw N cap s false W) (x : Int) (h0 : 0 ≤ s.h.to) (h1 : s.h.to ≤ s.h.size) (h3 : s.h.size ≤ 4000) (hh : hereZ s.h x = true) :
    Calls Try.prog 71 #[.pointer (some ⟨bm, 0, none⟩), .int .i64 x] W fun e w' => e = .returned (.int .i64 x) ∧ Wk w0 bm bw N cap s false w' := by
  have HIo := hid (here_calls c x h0 (by omega) (by omega) h3)
  rw [hh] at HIo
  have HC := hid c
  clear c
  go_enter Try.func71, Try.ntmps71
  go_wp2_with fail
  refine HIo.out.mono ?_
  rintro e W1 ⟨rfl, hb1⟩
  have HC1 := hid (HC.out.keep hb1)
  clear hb1 HIo
  go_wp2_with fail
  go_ret
  exact ⟨rfl, HC1.out⟩

set_option maxRecDepth 100000 in
theorem smove_moved {w0 W : World} {bm bw N cap : Nat} {s : CN} (c : Wk w0 bm bw N cap s false W) (x : Int) (a : Nat) (h0 : 0 ≤ s.h.to) (h1 : s.h.to ≤ s.h.size) (h3 : s.h.size ≤ 4000) (hh : hereZ s.h x = false)
    (ha : x / 8 = a) (hk : s.ws.getD a 0 % 16 = 15) (han : a + 1 < N) (hN : N ≤ 8000) :
    Calls Try.prog 71 #[.pointer (some ⟨bm, 0, none⟩), .int .i64 x] W fun e w' => e = .returned (.int .i64 (s.ws.getD (a + 1) 0)) ∧ Wk w0 bm bw N cap ⟨s.ws, s.h, s.r + 1 + 1, s.t⟩ false w' := by
  have HIo := hid (here_calls c x h0 (by omega) (by omega) h3)
  rw [hh] at HIo
  have HNum := hid (fun w => specNum_calls x w)
  unfold numZ at HNum
  rw [ha] at HNum
  have hk1 : (bits .and .i64 (s.ws.getD a 0) 15 == 15) = true := by rw [and15]; simpa using hk
  have hk2 : bits .and .i64 (s.ws.getD a 0) 15 = 15 := by rw [and15]; exact hk
  have HC := hid c
  clear c ha hk hh
  go_enter Try.func71, Try.ntmps71
  go_wp2_with fail
  refine HIo.out.mono ?_
  rintro e W1 ⟨rfl, hb1⟩
  have HC1 := hid (HC.out.keep hb1)
  have HRd := hid (sread_calls HC1.out (i := a) (by omega))
  clear hb1 HIo HC
  go_wp2_with fail
  refine (HNum.out _).mono ?_
  rintro e W2 ⟨rfl, rfl⟩
  go_wp2_with fail
  refine HRd.out.mono ?_
  rintro e W3 ⟨rfl, hC3⟩
  have HRe := hid (sread_calls hC3 (i := a + 1) han)
  dsimp only at HRe
  rw [show ((a + 1 : Nat) : Int) = (a : Int) + 1 from rfl] at HRe
  clear hC3 HRd HC1 HNum
  generalize s.ws.getD a 0 = F at *
  go_wp2_with fail
  refine HRe.out.mono ?_
  rintro e W4 ⟨rfl, hC4⟩
  have HC4 := hid hC4
  clear hC4 HRe
  go_wp2_with fail
  go_ret
  exact ⟨rfl, HC4.out⟩

set_option maxRecDepth 100000 in
theorem smove_full {w0 W : World} {bm bw N cap : Nat} {s : CN} (c : Wk w0 bm bw N cap s false W) (x : Int) (a n : Nat) (h0 : 0 ≤ s.h.to) (h1 : s.h.to ≤ s.h.size) (h3 : s.h.size ≤ 4000) (hh : hereZ s.h x = false)
    (ha : x / 8 = a) (hf : s.ws.getD a 0 / 16 = n) (hn : n ≤ 6) (hk : s.ws.getD a 0 % 16 ≠ 15) (hroom : ¬ (n : Int) ≤ s.h.top - s.h.bottom) (han : a < N) (hb0 : 0 ≤ s.h.bottom) (hb1 : s.h.bottom ≤ 8000) :
    Calls Try.prog 71 #[.pointer (some ⟨bm, 0, none⟩), .int .i64 x] W fun e w' => e = .returned (.int .i64 x) ∧ Wk w0 bm bw N cap ⟨s.ws, s.h, s.r + 1, s.t⟩ true w' := by
  have HIo := hid (here_calls c x h0 (by omega) (by omega) h3)
  rw [hh] at HIo
  have HNum := hid (fun w => specNum_calls x w)
  unfold numZ at HNum
  rw [ha] at HNum
  have hk1 : (bits .and .i64 (s.ws.getD a 0) 15 == 15) = false := by rw [and15]; simpa using hk
  have HC := hid c
  clear c ha hk hh
  go_enter Try.func71, Try.ntmps71
  go_wp2_with fail
  refine HIo.out.mono ?_
  rintro e W1 ⟨rfl, hb1⟩
  have HC1 := hid (HC.out.keep hb1)
  have HRd := hid (sread_calls HC1.out (i := a) han)
  clear hb1 HIo HC
  go_wp2_with fail
  refine (HNum.out _).mono ?_
  rintro e W2 ⟨rfl, rfl⟩
  go_wp2_with fail
  refine HRd.out.mono ?_
  rintro e W3 ⟨rfl, hC3⟩
  have HC3 := hid hC3
  obtain ⟨-, -, -, c3, c4, -, -, -, -, -, -⟩ := hC3.blk.cells
  dsimp only at c3 c4
  clear hC3 HRd HC1 HNum
  generalize s.ws.getD a 0 = F at *
  have hroom' : s.h.top < s.h.bottom + (n : Int) := by omega
  clear hroom
  generalize s.h.top = tp at *
  generalize s.h.bottom = bt at *
  go_wp2_with fail
  go_quiet (fail)
  have hC4 := HC3.out.keep (below_drewN (Below.refl _ _) nq)
  have c10 := hC4.blk.cells.2.2.2.2.2.2.2.2.2.2
  have f10 := frozen_of_heap hC4.blk 10
  have HC4 := hid (hC4.filled true)
  clear hC4 HC3 c3 c4
  generalize W3.drewN nq = W4 at *
  go_wp2_with fail
  go_ret
  exact ⟨rfl, HC4.out⟩

set_option maxHeartbeats 1000000 in
set_option maxRecDepth 100000 in
theorem smove_copies {w0 W : World} {bm bw N cap : Nat} {s : CN} (c : Wk w0 bm bw N cap s false W) (x : Int) (a to n : Nat) (h0 : 0 ≤ s.h.to) (h1 : s.h.to ≤ s.h.size) (h3 : s.h.size ≤ 4000) (hh : hereZ s.h x = false)
    (ha : x / 8 = a) (hto : s.h.bottom = to) (hN : N ≤ 8000) (hn : n = 3 ∨ n = 6) (hf : s.ws.getD a 0 / 16 = n) (hk : s.ws.getD a 0 % 16 ≠ 15) (hroom : (n : Int) ≤ s.h.top - to) (htop : s.h.top ≤ N) (han : a + n ≤ N) :
    Calls Try.prog 71 #[.pointer (some ⟨bm, 0, none⟩), .int .i64 x] W fun e w' => e = .returned (.int .i64 (8 * (to : Int))) ∧ Wk w0 bm bw N cap ⟨((copyW s.ws a to n).set a ((n : Int) * 16 + 15)).set (a + 1) (8 * (to : Int)), { s.h with bottom := (to : Int) + n }, s.r + n, s.t + n + 2⟩ false w' := by
  have HIo := hid (here_calls c x h0 (by omega) (by omega) h3)
  rw [hh] at HIo
  have HNum := hid (fun w => specNum_calls x w)
  unfold numZ at HNum
  rw [ha] at HNum
  have hk1 : (bits .and .i64 (s.ws.getD a 0) 15 == 15) = false := by rw [and15]; simpa using hk
  have HC := hid c
  clear c ha hk hh
  have hto1 : to + n ≤ N := by omega
  have HTo := hid hto
  have HRoom := hid hroom
  go_enter Try.func71, Try.ntmps71
  go_wp2_with fail
  refine HIo.out.mono ?_
  rintro e W1 ⟨rfl, hb1⟩
  have HC1 := hid (HC.out.keep hb1)
  have HRd := hid (sread_calls HC1.out (i := a) (by omega))
  clear hb1 HIo HC
  go_wp2_with fail
  refine (HNum.out _).mono ?_
  rintro e W2 ⟨rfl, rfl⟩
  go_wp2_with fail
  refine HRd.out.mono ?_
  rintro e W3 ⟨rfl, hC3⟩
  have HC3 := hid hC3
  have HF0 : Hid (copyW s.ws a to 1 = s.ws.set to (s.ws.getD a 0)) := rfl
  obtain ⟨-, -, -, c3, c4, -, -, -, -, -, -⟩ := hC3.blk.cells
  dsimp only at c3 c4
  rw [HTo.out] at c3
  have HWr := hid (fun nq => swrite_calls (HC3.out.keep (below_drewN (Below.refl _ _) nq)) (i := to) (by omega) (s.ws.getD a 0))
  dsimp only at HWr
  rw [← HF0.out] at HWr
  clear hC3 HRd HC1 HNum HF0
  generalize s.ws.getD a 0 = F at *
  have hroom' : (to : Int) + (n : Int) ≤ s.h.top := by omega
  clear hroom hto htop
  generalize hTp : s.h.top = tp at *
  go_wp2_with fail
  go_quiet (fail)
  have HW9 := hid (HWr.out nq)
  have c3' : (W3.drewN nq).cell? ⟨bm, 3, none⟩ = some (.int .i64 (to : Int)) := c3
  clear c3 c4 HWr HC3
  generalize W3.drewN nq = W4 at *
  go_wp2_with fail
  refine HW9.out.mono ?_
  rintro e W5 ⟨rfl, hC5⟩
  have HC5 := hid hC5
  clear hC5 HW9 c3'
  go_wp2_with fail
  go_loopw [9] (fun i wr => ∃ p : Nat, i = .int .i64 p ∧ p ≤ n ∧ Hid (1 ≤ p) ∧ Hid (Wk w0 bm bw N cap ⟨copyW s.ws a to p, s.h, s.r + p, s.t + p⟩ false wr)) (fun i _ => n - (intOf i).toNat)
  case atStart => exact ⟨1, rfl, by omega, Nat.le_refl _, HC5.out⟩
  case round =>
    obtain ⟨p, rfl, hpn, HP, HI⟩ := hrel
    clear HC5
    by_cases hlt : (p : Int) < (n : Int)
    · have HRd := hid (sread_calls HI.out (i := a + p) (by omega))
      rw [Int.natCast_add] at HRd
      dsimp only at HRd
      go_wp2_with fail
      refine HRd.out.mono ?_
      rintro e W6 ⟨rfl, hC6⟩
      have HWr := hid (swrite_calls hC6 (i := to + p) (by omega) ((copyW s.ws a to p).getD (a + p) 0))
      rw [Int.natCast_add] at HWr
      dsimp only at HWr
      have HS : Hid (copyW s.ws a to (p + 1) = (copyW s.ws a to p).set (to + p) ((copyW s.ws a to p).getD (a + p) 0)) := rfl
      rw [← HS.out] at HWr
      clear hC6 HRd HS HI
      generalize (copyW s.ws a to p).getD (a + p) 0 = y at *
      go_wp2_with fail
      refine HWr.out.mono ?_
      rintro e W7 ⟨rfl, hC7⟩
      have HC7 := hid hC7
      clear hC7 HWr
      go_wp2_with fail
      have hs : n - (intOf (.int .i64 ((p : Int) + 1))).toNat < n - (intOf (.int .i64 (p : Int))).toNat := by simp only [intOf, Int.toNat_natCast]; omega
      refine ⟨⟨p + 1, ?_, by omega, Nat.le_add_left _ _, ?_⟩, hs⟩
      · push_cast
        rfl
      · push_cast
        rw [← Int.add_assoc, ← Int.add_assoc]
        exact HC7.out
    · obtain rfl : p = n := by omega
      have f3 := frozen_of_heap HI.out.blk 3
      have c3 := HI.out.blk.cells.2.2.2.1
      have HMk := hid (fun w => specMake_calls 0 (to : Int) w)
      have HMz : Hid (makeZ 0 (to : Int) = 8 * (to : Int)) := by
        show _ = _
        unfold makeZ wrap64
        rw [if_neg (by omega)]
        omega
      rw [HMz.out] at HMk
      have HW1 := hid (swrite_calls (HI.out.bottom ((to : Int) + p)) (i := a) (by omega) ((p : Int) * 16 + 15))
      dsimp only at HW1 c3
      clear HMz HI
      go_wp2_with fail
      rw [Int.mul_comm 16 (p : Int)]
      refine HW1.out.mono ?_
      rintro e W7 ⟨rfl, hC7⟩
      have HW2 := hid (swrite_calls hC7 (i := a + 1) (by omega) (8 * (to : Int)))
      dsimp only at HW2
      rw [show ((a + 1 : Nat) : Int) = (a : Int) + 1 from rfl] at HW2
      clear hC7 HW1 c3 f3
      go_wp2_with fail
      refine (HMk.out _).mono ?_
      rintro e W8 ⟨rfl, rfl⟩
      go_wp2_with fail
      refine HW2.out.mono ?_
      rintro e W9 ⟨rfl, hC9⟩
      have HC9 := hid hC9
      clear hC9 HW2
      go_wp2_with fail
      refine (HMk.out _).mono ?_
      rintro e W8 ⟨rfl, rfl⟩
      go_wp2_with fail
      go_ret
      refine ⟨rfl, ?_⟩
      have E : s.t + (p : Int) + 1 + 1 = s.t + p + 2 := by omega
      rw [← E]
      exact HC9.out

def smoveV (x : Int) : Option Int → Int
  | some y => y
  | none => x

/-- The specification's move is the plain one; where there is no room it says so. -/
theorem smove_calls {w0 W : World} {bm bw N cap : Nat} {s : CN} (c : Wk w0 bm bw N cap s false W) (x : Int) (h0 : 0 ≤ s.h.to) (h1 : s.h.to ≤ s.h.size) (h3 : s.h.size ≤ 4000) (hb0 : 0 ≤ s.h.bottom) (hbt : s.h.bottom ≤ s.h.top) (htN : s.h.top ≤ N) (hN : N ≤ 8000)
    (hm : MoveOk s.ws s.h N x) (hg : hereZ s.h x = !lateZ s.h x) :
    Calls Try.prog 71 #[.pointer (some ⟨bm, 0, none⟩), .int .i64 x] W fun e w' => e = .returned (.int .i64 (smoveV x (moveZ s x).1)) ∧ Wk w0 bm bw N cap (moveZ s x).2 (moveZ s x).1.isNone w' := by
  unfold moveZ
  cases ho : lateZ s.h x with
  | false =>
    rw [if_pos rfl]
    exact smove_stays c x h0 h1 h3 (here_not hg ho)
  | true =>
    rw [if_neg (by decide)]
    obtain ⟨ha1, ha2⟩ := hm ho
    have hh := here_not hg ho
    have hx0 : 0 ≤ x / 8 := by
      unfold lateZ at ho
      rw [Bool.and_eq_true, decide_eq_true_eq, decide_eq_true_eq] at ho
      omega
    obtain ⟨a, ha⟩ := Int.eq_ofNat_of_zero_le hx0
    rw [ha, Int.toNat_natCast] at ha1 ha2 ⊢
    by_cases hk : s.ws.getD a 0 % 16 = 15
    · rw [if_pos hk]
      exact smove_moved c x a h0 h1 h3 hh ha hk ha1 hN
    · rw [if_neg hk]
      obtain ⟨hs, han⟩ := ha2 hk
      obtain ⟨n, hn⟩ := Int.eq_ofNat_of_zero_le (show 0 ≤ s.ws.getD a 0 / 16 by omega)
      obtain ⟨to, hto⟩ := Int.eq_ofNat_of_zero_le hb0
      rw [hn, Int.toNat_natCast] at han
      by_cases hroom : s.ws.getD a 0 / 16 ≤ s.h.top - s.h.bottom
      · rw [if_pos hroom]
        have := smove_copies c x a to n h0 h1 h3 hh ha hto hN (by omega) hn hk (by omega) htN han
        dsimp only
        rw [hn, hto, Int.toNat_natCast, Int.toNat_natCast]
        exact this
      · rw [if_neg hroom]
        exact smove_full c x a n h0 h1 h3 hh ha hn (by omega) hk (by omega) (by omega) hb0 (by omega)
end Go.Proofs.Ytnoobonlmfgfhaa

/- The specification's read of a field. -/
namespace Go.Proofs.Ytnoobonlmfgfhaa
open Go.RowKit

set_option maxRecDepth 100000 in
theorem sfield_calls {w0 W : World} {bm bw N cap : Nat} {s : CN} (c : Wk w0 bm bw N cap s false W) (y i : Int) (q : Nat) (hq : q < N) (hqy : y / 8 + 1 + i = q) (hy0 : 0 ≤ y / 8) (hy1 : y / 8 ≤ 8000) (hi0 : 0 ≤ i) (hi1 : i ≤ 8000) (h0 : 0 ≤ s.h.to) (h1 : s.h.to ≤ s.h.size) (h3 : s.h.size ≤ 4000) (hb0 : 0 ≤ s.h.bottom) (hbt : s.h.bottom ≤ s.h.top) (htN : s.h.top ≤ N) (hN : N ≤ 8000)
    (hm : MoveOk s.ws s.h N (s.ws.getD q 0)) (hg : hereZ s.h (s.ws.getD q 0) = !lateZ s.h (s.ws.getD q 0)) :
    Calls Try.prog 52 #[.pointer (some ⟨bm, 0, none⟩), .int .i64 y, .int .i64 i] W fun e w' => (∃ z : Int, e = .returned (.int .i64 z) ∧ ∀ u, (fieldZ s q).1 = some u → z = u) ∧ Wk w0 bm bw N cap (fieldZ s q).2 (fieldZ s q).1.isNone w' := by
  have HNum := hid (fun w => specNum_calls y w)
  unfold numZ at HNum
  have HRd := hid (sread_calls c (i := q) hq)
  have HQ := hid hqy
  generalize y / 8 = k at *
  have HMv := hid (fun (X : World) (hX : Wk w0 bm bw N cap ⟨s.ws, s.h, s.r + 1, s.t⟩ false X) => smove_calls hX (s.ws.getD q 0) h0 h1 h3 hb0 hbt htN hN hm hg)
  have HHe := hid (fun (X : World) (hX : Wk w0 bm bw N cap ⟨s.ws, s.h, s.r + 1, s.t⟩ false X) => here_calls hX (s.ws.getD q 0) h0 (show s.h.to ≤ 4000 by omega) (show 0 ≤ s.h.size by omega) h3)
  rw [← hqy] at HRd
  clear hm c hqy
  unfold fieldZ
  dsimp only at HHe
  cases ho : lateZ s.h (s.ws.getD q 0) with
  | false =>
    rw [here_not hg ho] at HHe
    rw [if_pos rfl]
    clear hg ho HMv
    go_enter Try.func52, Try.ntmps52
    go_wp2_with fail
    refine (HNum.out _).mono ?_
    rintro e W1 ⟨rfl, rfl⟩
    go_wp2_with fail
    refine HRd.out.mono ?_
    rintro e W2 ⟨rfl, hC2⟩
    have HC2 := hid hC2
    clear hC2
    go_wp2_with fail
    refine (HHe.out _ HC2.out).mono ?_
    rintro e W3 ⟨rfl, hb3⟩
    have HC3 := hid (HC2.out.keep hb3)
    clear hb3 HHe HRd
    go_wp2_with fail
    go_ret
    exact ⟨⟨_, rfl, fun u hu => Option.some.inj hu⟩, HC3.out⟩
  | true =>
    rw [here_not hg ho] at HHe
    rw [if_neg (by decide)]
    clear hg ho
    generalize moveZ ⟨s.ws, s.h, s.r + 1, s.t⟩ (s.ws.getD q 0) = m at *
    obtain ⟨o, s2⟩ := m
    go_enter Try.func52, Try.ntmps52
    go_wp2_with fail
    refine (HNum.out _).mono ?_
    rintro e W1 ⟨rfl, rfl⟩
    go_wp2_with fail
    refine HRd.out.mono ?_
    rintro e W2 ⟨rfl, hC2⟩
    have HC2 := hid hC2
    clear hC2
    go_wp2_with fail
    refine (HHe.out _ HC2.out).mono ?_
    rintro e W3 ⟨rfl, hb3⟩
    have HC3 := hid (HC2.out.keep hb3)
    clear hb3 HHe HRd HC2
    go_wp2_with fail
    refine (HMv.out _ HC3.out).mono ?_
    rintro e W4 ⟨rfl, hC4⟩
    clear HMv HC3
    cases o with
    | some z =>
      have HWr := hid (swrite_calls (W := W4) hC4 (i := q) hq z)
      rw [← HQ.out] at HWr
      dsimp only [smoveV]
      clear hC4
      go_wp2_with fail
      refine HWr.out.mono ?_
      rintro e W5 ⟨rfl, hC5⟩
      have HC5 := hid hC5
      clear hC5 HWr
      go_wp2_with fail
      go_ret
      exact ⟨rfl, HC5.out⟩
    | none =>
      have HC4 : Hid (Wk w0 bm bw N cap s2 true W4) := hC4
      have HWr := hid (fun i x => swrite_full HC4.out i x)
      dsimp only [smoveV]
      clear hC4
      generalize s.ws.getD q 0 = z at *
      go_wp2_with fail
      refine (HWr.out _ _).mono ?_
      rintro e W5 ⟨rfl, rfl⟩
      clear HWr
      go_wp2_with fail
      go_ret
      exact ⟨⟨_, rfl⟩, HC4.out⟩
end Go.Proofs.Ytnoobonlmfgfhaa

/- The specification looks through an object. -/
namespace Go.Proofs.Ytnoobonlmfgfhaa
open Go.RowKit

/-- What looking through an object comes to. -/
def ScanPost (w0 : World) (bm bw N cap : Nat) (o : Option CN) (e : Ending) (w' : World) : Prop :=
  e = .returned (.tuple #[]) ∧ match o with
  | some s => Wk w0 bm bw N cap s false w'
  | none => ∃ s, Wk w0 bm bw N cap s true w'

set_option maxHeartbeats 4000000 in
set_option maxRecDepth 100000 in
theorem sscan_full {w0 W : World} {bm bw N cap : Nat} {s : CN} (c : Wk w0 bm bw N cap s true W) :
    Calls Try.prog 56 #[.pointer (some ⟨bm, 0, none⟩)] W fun e w' => e = .returned (.tuple #[]) ∧ Wk w0 bm bw N cap s true w' := by
  have HC := hid c
  obtain ⟨-, -, -, c3, -, c5, -, -, -, -, c10⟩ := c.blk.cells
  clear c
  generalize s.h.scan = sc at *
  generalize s.h.bottom = bt at *
  go_enter Try.func56, Try.ntmps56
  by_cases hb : sc = bt
  · have hbb : (sc == bt) = true := by simpa using hb
    go_wp2_with fail
    go_quiet (fail)
    have HC2 := hid (HC.out.keep (below_drewN (Below.refl _ _) nq))
    generalize W.drewN nq = W2 at *
    go_wp2_with fail
    exact bodyPost_ret (v := .tuple #[]) (by simp [results, Try.results56, go_sem]) rfl ⟨rfl, HC2.out⟩
  · have hbb : (sc == bt) = false := by simpa using hb
    go_wp2_with fail
    go_quiet (fail)
    have HC2 := hid (HC.out.keep (below_drewN (Below.refl _ _) nq))
    generalize W.drewN nq = W2 at *
    go_wp2_with fail
    exact bodyPost_ret (v := .tuple #[]) (by simp [results, Try.results56, go_sem]) rfl ⟨rfl, HC2.out⟩

theorem fieldZ_stays {s : CN} {q : Nat} (h : lateZ s.h (s.ws.getD q 0) = false) : fieldZ s q = (some (s.ws.getD q 0), { s with r := s.r + 1 }) := by
  unfold fieldZ
  rw [if_pos h]

theorem fieldZ_some {s s2 : CN} {q : Nat} {y : Int} (h : lateZ s.h (s.ws.getD q 0) = true) (hm : moveZ { s with r := s.r + 1 } (s.ws.getD q 0) = (some y, s2)) : fieldZ s q = (some y, ⟨s2.ws.set q y, s2.h, s2.r, s2.t + 1⟩) := by
  unfold fieldZ
  rw [if_neg (by rw [h]; decide), hm]

theorem fieldZ_none {s s2 : CN} {q : Nat} (h : lateZ s.h (s.ws.getD q 0) = true) (hm : moveZ { s with r := s.r + 1 } (s.ws.getD q 0) = (none, s2)) : fieldZ s q = (none, s2) := by
  unfold fieldZ
  rw [if_neg (by rw [h]; decide), hm]

theorem scanOne_is {s : CN} {p n : Nat} (hp : s.h.scan = p) (hn : s.ws.getD p 0 / 16 = n) (hb : s.h.scan ≠ s.h.bottom) : scanOne s = match fieldsRun p (n - 1) { s with r := s.r + 1 } with
    | none => none
    | some s2 => some { s2 with h := { s2.h with scan := (p : Int) + n } } := by
  unfold scanOne
  rw [if_neg hb, show s.h.scan.toNat = p by omega, hn, hp, Int.toNat_natCast]
  rfl

set_option maxHeartbeats 4000000 in
set_option maxRecDepth 100000 in
theorem sscan_calls {w0 W : World} {bm bw N cap : Nat} {S : List Int} {s : CN} (c : Wk w0 bm bw N cap s false W) (hs : Scn S N s) :
    Calls Try.prog 56 #[.pointer (some ⟨bm, 0, none⟩)] W (ScanPost w0 bm bw N cap (scanOne s)) := by
  have HC := hid c
  have HS := hid hs
  obtain ⟨-, -, -, c3, -, c5, -, -, -, -, c10⟩ := c.blk.cells
  clear c hs
  obtain ⟨R, hR⟩ : ∃ R, scanOne s = R := ⟨_, rfl⟩
  rw [hR]
  have HR := hid hR
  clear hR
  by_cases hb : s.h.scan = s.h.bottom
  · have HF : Hid (R = some s) := by
      have := HR.out
      unfold scanOne at this
      rw [if_pos hb] at this
      exact this.symm
    generalize s.h.scan = sc at *
    generalize s.h.bottom = bt at *
    have hbb : (sc == bt) = true := by simpa using hb
    go_enter Try.func56, Try.ntmps56
    go_wp2_with fail
    go_quiet (fail)
    have HC2 := hid (HC.out.keep (below_drewN (Below.refl _ _) nq))
    generalize W.drewN nq = W2 at *
    go_wp2_with fail
    exact bodyPost_ret (v := .tuple #[]) (by simp [results, Try.results56, go_sem]) rfl (by rw [HF.out]; exact ⟨rfl, HC2.out⟩)
  obtain ⟨p, n, hp, hn, hin⟩ := HS.out.enter hb
  have HIn := hid hin
  have hn3 := hin.hn
  have hpN : p < N := by have := hin.asks (by omega); omega
  have hN8 : N ≤ 8000 := by have := hin.asks (by omega); exact this.2.2.2.2.2.2.2.1
  have HMo := hid ((scanOne_is hp hn hb).symm.trans HR.out)
  have HRd := hid (fun nq => sread_calls (HC.out.keep (below_drewN (Below.refl _ _) nq)) (i := p) hpN)
  rw [hp] at c5 hb
  generalize s.h.bottom = bt at *
  have hbb : ((p : Int) == bt) = false := by simpa using hb
  have c5' : ∀ nq, (W.drewN nq).cell? ⟨bm, 5, none⟩ = some (.int .i64 (p : Int)) := fun nq => c5
  have HPn := hid hn
  clear hin hn hp HC HS HR
  go_enter Try.func56, Try.ntmps56
  go_wp2_with fail
  go_quiet (fail)
  have HRd' := hid (HRd.out nq)
  have c5n := c5' nq
  clear HRd c5 c5' c3 c10
  generalize W.drewN nq = W2 at *
  generalize hF : s.ws.getD p 0 = F at *
  have HPn' : F / 16 = (n : Int) := HPn.out
  go_wp2_with fail
  refine HRd'.out.mono ?_
  rintro e W3 ⟨rfl, hC3⟩
  have HC3 := hid hC3
  clear hC3 HRd' c5n
  go_wp2_with fail
  go_loopw [4] (fun i wr => ∃ (ii : Int) (q : Nat), i = .int .i64 ii ∧ Hid (1 ≤ ii ∧ ii ≤ n) ∧ ((∃ s2, Hid (ii = (q : Int) + 1) ∧ Hid (fieldsRun p q { s with r := s.r + 1 } = some s2) ∧ Hid (Wk w0 bm bw N cap s2 false wr)) ∨ (Hid (fieldsRun p (n - 1) { s with r := s.r + 1 } = none) ∧ ∃ s2, Hid (Wk w0 bm bw N cap s2 true wr)))) (fun i _ => n - (intOf i).toNat)
  case atStart => exact ⟨1, 0, rfl, ⟨by omega, by omega⟩, Or.inl ⟨_, rfl, rfl, HC3.out⟩⟩
  case round =>
    obtain ⟨ii, q, rfl, HQ, hcase⟩ := hrel
    clear HC3
    rcases hcase with ⟨s2, HQ2, HK2, HI2⟩ | ⟨HN, s2, HI2⟩
    case inr =>
      have c10 := HI2.out.blk.cells.2.2.2.2.2.2.2.2.2.2
      have HF : Hid (R = none) := by
        have h2 := HMo.out
        rw [HN.out] at h2
        exact h2.symm
      by_cases hlt : ii < (n : Int)
      · have hd : decide (ii < (n : Int)) = true := decide_eq_true hlt
        go_wp2_with fail
        go_end0
        rw [HF.out]
        exact ⟨rfl, s2, HI2.out⟩
      · have hd : decide (ii < (n : Int)) = false := decide_eq_false hlt
        go_wp2_with fail
        go_end0
        rw [HF.out]
        exact ⟨rfl, s2, HI2.out⟩
    case inl =>
      have HIq := hid (fieldsRun_inn HIn.out q (by have := HQ.out; have := HQ2.out; omega) s2 HK2.out)
      have c10 := HI2.out.blk.cells.2.2.2.2.2.2.2.2.2.2
      by_cases hlt : ii < (n : Int)
      · have hd : decide (ii < (n : Int)) = true := decide_eq_true hlt
        have hq1 : q + 1 < n := by have := HQ2.out; omega
        obtain ⟨k1, k2, k3, k4, k5, k6, k7, k8, k9, k10, k11, k12⟩ := HIq.out.asks hq1
        have h1n : 1 ≤ ii := HQ.out.1
        have HRd := hid (sread_calls HI2.out (i := p + (q + 1)) k1)
        rw [show ((p + (q + 1) : Nat) : Int) = (p : Int) + ii by have := HQ2.out; omega] at HRd
        have HHe := hid (fun (X : World) (hX : Wk w0 bm bw N cap ⟨s2.ws, s2.h, s2.r + 1, s2.t⟩ false X) => here_calls hX (s2.ws.getD (p + (q + 1)) 0) k2 (show s2.h.to ≤ 4000 by omega) (show 0 ≤ s2.h.size by omega) k4)
        have HMv := hid (fun (X : World) (hX : Wk w0 bm bw N cap ⟨s2.ws, s2.h, s2.r + 1, s2.t⟩ false X) => smove_calls hX (s2.ws.getD (p + (q + 1)) 0) k2 k3 k4 k5 k6 k7 k8 k11 k12)
        dsimp only at HHe
        have hpb : (p : Int) ≤ 8000 := by omega
        cases ho : lateZ s2.h (s2.ws.getD (p + (q + 1)) 0) with
        | false =>
          rw [here_not k12 ho] at HHe
          have HZ := hid (fieldZ_stays ho)
          clear k1 k2 k3 k4 k5 k6 k7 k9 k10 k11 k12 ho HMv
          generalize s2.ws.getD (p + (q + 1)) 0 = x at *
          clear HI2
          go_wp2_with fail
          refine HRd.out.mono ?_
          rintro e W5 ⟨rfl, hC5⟩
          have HC5 := hid hC5
          clear hC5 HRd c10
          go_wp2_with fail
          refine (HHe.out _ HC5.out).mono ?_
          rintro e W6 ⟨rfl, hb6⟩
          have HC6 := hid (HC5.out.keep hb6)
          clear hb6 HC5 HHe
          go_wp2_with fail
          have hs : n - (intOf (.int .i64 (ii + 1))).toNat < n - (intOf (.int .i64 ii)).toNat := by simp only [intOf]; omega
          exact ⟨⟨ii + 1, q + 1, rfl, ⟨by omega, by omega⟩, Or.inl ⟨_, by have := HQ2.out; show _ = _; push_cast; omega, fieldsRun_more HK2.out HZ.out, HC6.out⟩⟩, hs⟩
        | true =>
          rw [here_not k12 ho] at HHe
          obtain ⟨o, s3, hz⟩ : ∃ o s3, moveZ ⟨s2.ws, s2.h, s2.r + 1, s2.t⟩ (s2.ws.getD (p + (q + 1)) 0) = (o, s3) := ⟨_, _, rfl⟩
          rw [hz] at HMv
          have HO := hid ho
          have HZ := hid hz
          have HK1 := hid k1
          clear k1 k2 k3 k4 k5 k6 k7 k9 k10 k11 k12 ho hz
          obtain ⟨x, hx⟩ : ∃ x, s2.ws.getD (p + (q + 1)) 0 = x := ⟨_, rfl⟩
          rw [hx] at HRd HHe HMv
          clear hx
          clear HI2
          go_wp2_with fail
          refine HRd.out.mono ?_
          rintro e W5 ⟨rfl, hC5⟩
          have HC5 := hid hC5
          clear hC5 HRd c10
          go_wp2_with fail
          refine (HHe.out _ HC5.out).mono ?_
          rintro e W6 ⟨rfl, hb6⟩
          have HC6 := hid (HC5.out.keep hb6)
          clear hb6 HC5 HHe
          go_wp2_with fail
          refine (HMv.out _ HC6.out).mono ?_
          rintro e W7 ⟨rfl, hC7⟩
          clear HMv HC6
          cases o with
          | some y =>
            have HWr := hid (swrite_calls (W := W7) hC7 (i := p + (q + 1)) HK1.out y)
            rw [show ((p + (q + 1) : Nat) : Int) = (p : Int) + ii by have := HQ2.out; omega] at HWr
            dsimp only [smoveV]
            clear hC7
            go_wp2_with fail
            refine HWr.out.mono ?_
            rintro e W8 ⟨rfl, hC8⟩
            have HC8 := hid hC8
            clear hC8 HWr
            go_wp2_with fail
            have hs : n - (intOf (.int .i64 (ii + 1))).toNat < n - (intOf (.int .i64 ii)).toNat := by simp only [intOf]; omega
            exact ⟨⟨ii + 1, q + 1, rfl, ⟨by omega, by omega⟩, Or.inl ⟨_, by have := HQ2.out; show _ = _; push_cast; omega, fieldsRun_more HK2.out (fieldZ_some HO.out HZ.out), HC8.out⟩⟩, hs⟩
          | none =>
            have HC7 : Hid (Wk w0 bm bw N cap s3 true W7) := hC7
            have HWr := hid (fun i x => swrite_full HC7.out i x)
            dsimp only [smoveV]
            clear hC7
            go_wp2_with fail
            refine (HWr.out _ _).mono ?_
            rintro e W8 ⟨rfl, rfl⟩
            clear HWr
            go_wp2_with fail
            have hs : n - (intOf (.int .i64 (ii + 1))).toNat < n - (intOf (.int .i64 ii)).toNat := by simp only [intOf]; omega
            have h1 := fieldsRun_none (fieldsRun_stop HK2.out (fieldZ_none HO.out HZ.out)) (n - 1 - (q + 1))
            rw [show q + 1 + (n - 1 - (q + 1)) = n - 1 by omega] at h1
            exact ⟨⟨ii + 1, q + 1, rfl, ⟨by omega, by omega⟩, Or.inr ⟨h1, s3, HC7.out⟩⟩, hs⟩
      · have hd : decide (ii < (n : Int)) = false := decide_eq_false hlt
        have hqn : q = n - 1 := by have := HQ.out; have := HQ2.out; omega
        have HF : Hid (R = some { s2 with h := { s2.h with scan := (p : Int) + n } }) := by
          have h2 := HMo.out
          have h1 := HK2.out
          rw [hqn] at h1
          rw [h1] at h2
          exact h2.symm
        have c5' := HI2.out.blk.cells.2.2.2.2.2.1
        have f5' := frozen_of_heap HI2.out.blk 5
        have HI4 := hid (HI2.out.scanned ((p : Int) + n))
        clear HI2 HIq
        have hpb : (p : Int) + n ≤ 8000 + 6 := by omega
        go_wp2_with fail
        go_end0
        rw [HF.out]
        exact ⟨rfl, HI4.out⟩
end Go.Proofs.Ytnoobonlmfgfhaa

/- The specification changes the spaces and moves words. -/
namespace Go.Proofs.Ytnoobonlmfgfhaa
open Go.RowKit

set_option maxRecDepth 100000 in
theorem sread_full {w0 W : World} {bm bw N cap : Nat} {s : CN} (c : Wk w0 bm bw N cap s true W) (i : Int) :
    Calls Try.prog 81 #[.pointer (some ⟨bm, 0, none⟩), .int .i64 i] W fun e w' => e = .returned (.int .i64 3) ∧ W = w' := by
  obtain ⟨-, -, -, -, -, -, -, -, -, -, c10⟩ := c.blk.cells
  have HMk := hid (fun w => specMake_calls 3 0 w)
  have HMz : Hid (makeZ 3 0 = 3) := by show _ = _; simp [makeZ, wrap64]
  rw [HMz.out] at HMk
  clear c
  go_enter Try.func81, Try.ntmps81
  go_wp2_with fail
  refine (HMk.out _).mono ?_
  rintro e w1 ⟨rfl, rfl⟩
  go_wp2_with fail
  go_ret
  exact ⟨rfl, rfl⟩

set_option maxHeartbeats 2000000 in
set_option maxRecDepth 100000 in
/-- Where there is no room any more a move changes nothing. -/
theorem smove_dead {w0 W : World} {bm bw N cap : Nat} {s : CN} (c : Wk w0 bm bw N cap s true W) (x : Int) (h0 : 0 ≤ s.h.to) (h1 : s.h.to ≤ s.h.size) (h3 : s.h.size ≤ 4000) (hb0 : 0 ≤ s.h.bottom) (hbt : s.h.bottom ≤ s.h.top) (hN : s.h.top ≤ 8000) :
    Calls Try.prog 71 #[.pointer (some ⟨bm, 0, none⟩), .int .i64 x] W fun e w' => (∃ z : Int, e = .returned (.int .i64 z)) ∧ Wk w0 bm bw N cap s true w' := by
  have HIo := hid (here_calls c x h0 (by omega) (by omega) h3)
  have HC := hid c
  clear c
  cases hh : hereZ s.h x with
  | true =>
    rw [hh] at HIo
    go_enter Try.func71, Try.ntmps71
    go_wp2_with fail
    refine HIo.out.mono ?_
    rintro e W1 ⟨rfl, hb1⟩
    have HC1 := hid (HC.out.keep hb1)
    clear hb1 HIo
    go_wp2_with fail
    go_ret
    exact ⟨⟨_, rfl⟩, HC1.out⟩
  | false =>
    rw [hh] at HIo
    have HNum := hid (fun w => specNum_calls x w)
    unfold numZ at HNum
    have HMk := hid (fun (y : Int) w => specMake_calls 0 y w)
    go_enter Try.func71, Try.ntmps71
    go_wp2_with fail
    refine HIo.out.mono ?_
    rintro e W1 ⟨rfl, hb1⟩
    have HC1 := hid (HC.out.keep hb1)
    have HRd := hid (fun i => sread_full HC1.out i)
    clear hb1 HIo HC
    go_wp2_with fail
    refine (HNum.out _).mono ?_
    rintro e W2 ⟨rfl, rfl⟩
    go_wp2_with fail
    refine (HRd.out _).mono ?_
    rintro e W3 ⟨rfl, rfl⟩
    obtain ⟨-, -, -, c3, c4, -, -, -, -, -, -⟩ := HC1.out.blk.cells
    have f3 := frozen_of_heap HC1.out.blk 3
    have hk : bits .and .i64 3 15 = 3 := rfl
    have HWr := hid (fun nq i y => swrite_full (HC1.out.keep (below_drewN (Below.refl _ _) nq)) i y)
    have HBs := hid (fun nq => (HC1.out.keep (below_drewN (Below.refl _ _) nq)).bottom s.h.bottom)
    generalize hbt' : s.h.bottom = bt at *
    generalize s.h.top = tp at *
    go_wp2_with fail
    go_quiet (fail)
    have HWr' := hid (HWr.out nq)
    have HBs' := hid (HBs.out nq)
    have c3' : (W1.drewN nq).cell? ⟨bm, 3, none⟩ = some (.int .i64 bt) := c3
    have f3' : (W1.drewN nq).frozen? ⟨bm, 3, none⟩ = false := f3
    clear HWr HBs c3 c4 f3 HRd HC1
    generalize W1.drewN nq = W4 at *
    go_wp2_with fail
    refine (HWr'.out _ _).mono ?_
    rintro e W5 ⟨rfl, rfl⟩
    go_wp2_with fail
    refine wp_loop_rounds 1 ?_
    rw [rounds_succ]
    have HS5 : Hid (Wk w0 bm bw N cap s true (W4.setCell ⟨bm, 3, none⟩ (.int .i64 bt))) := by
      have e := HBs'.out
      rw [← hbt'] at e ⊢
      exact e
    have HWs := hid (fun i y => swrite_full HS5.out i y)
    clear HBs'
    go_wp2_with fail
    refine (HWs.out _ _).mono ?_
    rintro e W6 ⟨rfl, rfl⟩
    go_wp2_with fail
    refine (HMk.out _ _).mono ?_
    rintro e W7 ⟨rfl, rfl⟩
    go_wp2_with fail
    refine (HWs.out _ _).mono ?_
    rintro e W8 ⟨rfl, rfl⟩
    go_wp2_with fail
    refine (HMk.out _ _).mono ?_
    rintro e W9 ⟨rfl, rfl⟩
    go_wp2_with fail
    go_ret
    exact ⟨⟨_, rfl⟩, HS5.out⟩

theorem Wk.beside {w0 W : World} {bm bw N cap g : Nat} {s : CN} {full : Bool} (c : Wk w0 bm bw N cap s full W) (h1 : g ≠ bm) (h2 : g ≠ bw) (i : Nat) (x : Value) : Wk (W.setCell ⟨g, i, none⟩ x) bm bw N cap s full (W.setCell ⟨g, i, none⟩ x) :=
  ⟨(Below.heap_setCell _ _ _ _ (fun e => h1 e.symm)).trans c.blk, c.row.of_block (Below.heap_setCell _ _ _ _ (fun e => h2 e.symm)), c.len, c.ne, Frm.refl _ _ _⟩

/-- What is known of the numbers where there is no room any more. -/
def FullOk (s : CN) : Prop := 0 ≤ s.h.to ∧ s.h.to ≤ s.h.size ∧ s.h.size ≤ 4000 ∧ 0 ≤ s.h.bottom ∧ s.h.bottom ≤ s.h.top ∧ s.h.top ≤ 8000

/-- What moving a list comes to on the specification's side. -/
def SMovesPost (W : World) (bm bw N cap g n : Nat) (o : Option (List Int × CN)) (e : Ending) (w' : World) : Prop :=
  e = .returned (.tuple #[]) ∧ Frm3 W bm bw g w' ∧ match o with
  | some (ys, s) => Wk w' bm bw N cap s false w' ∧ CellRow 3 w' g n (intCells ys)
  | none => (∃ s, Wk w' bm bw N cap s true w' ∧ FullOk s) ∧ ∃ ys : List Int, ys.length = n ∧ CellRow 3 w' g n (intCells ys)

theorem Wk.toSet {w0 W : World} {bm bw N cap : Nat} {s : CN} {full : Bool} (c : Wk w0 bm bw N cap s full W) (x : Int) : Wk w0 bm bw N cap { s with h := { s.h with to := x } } full (W.setCell ⟨bm, 2, none⟩ (.int .i64 x)) :=
  ⟨by simpa [WkBlk, touchZ] using set_block c.blk 2 (.int .i64 x), c.row.of_block (Below.heap_setCell _ _ _ _ (fun e => c.ne e.symm)), c.len, c.ne, c.frame.set (Or.inl rfl) _⟩

theorem Wk.topSet {w0 W : World} {bm bw N cap : Nat} {s : CN} {full : Bool} (c : Wk w0 bm bw N cap s full W) (x : Int) : Wk w0 bm bw N cap { s with h := { s.h with top := x } } full (W.setCell ⟨bm, 4, none⟩ (.int .i64 x)) :=
  ⟨by simpa [WkBlk, touchZ] using set_block c.blk 4 (.int .i64 x), c.row.of_block (Below.heap_setCell _ _ _ _ (fun e => c.ne e.symm)), c.len, c.ne, c.frame.set (Or.inl rfl) _⟩

theorem Wk.fbSet {w0 W : World} {bm bw N cap : Nat} {s : CN} {full : Bool} (c : Wk w0 bm bw N cap s full W) (x : Int) : Wk w0 bm bw N cap { s with h := { s.h with fb := x } } full (W.setCell ⟨bm, 6, none⟩ (.int .i64 x)) :=
  ⟨by simpa [WkBlk, touchZ] using set_block c.blk 6 (.int .i64 x), c.row.of_block (Below.heap_setCell _ _ _ _ (fun e => c.ne e.symm)), c.len, c.ne, c.frame.set (Or.inl rfl) _⟩

theorem Wk.ftSet {w0 W : World} {bm bw N cap : Nat} {s : CN} {full : Bool} (c : Wk w0 bm bw N cap s full W) (x : Int) : Wk w0 bm bw N cap { s with h := { s.h with ft := x } } full (W.setCell ⟨bm, 7, none⟩ (.int .i64 x)) :=
  ⟨by simpa [WkBlk, touchZ] using set_block c.blk 7 (.int .i64 x), c.row.of_block (Below.heap_setCell _ _ _ _ (fun e => c.ne e.symm)), c.len, c.ne, c.frame.set (Or.inl rfl) _⟩

theorem Wk.flipsSet {w0 W : World} {bm bw N cap : Nat} {s : CN} {full : Bool} (c : Wk w0 bm bw N cap s full W) (x : Int) : Wk w0 bm bw N cap { s with h := { s.h with flips := x } } full (W.setCell ⟨bm, 8, none⟩ (.int .i64 x)) :=
  ⟨by simpa [WkBlk, touchZ] using set_block c.blk 8 (.int .i64 x), c.row.of_block (Below.heap_setCell _ _ _ _ (fun e => c.ne e.symm)), c.len, c.ne, c.frame.set (Or.inl rfl) _⟩

set_option maxHeartbeats 4000000 in
set_option maxRecDepth 100000 in
theorem sflip_calls {w0 W : World} {bm bw N cap g n gcap : Nat} {S : List Int} {s : CN} (c : Wk w0 bm bw N cap s false W) (h0 : 0 ≤ s.h.to) (h1 : s.h.to ≤ s.h.size) (h2 : s.h.size ≤ 4000) (hs : Mvs S N 0 { s with h := flipH s.h }) (xs : List Int) (hl : xs.length = n) (hn : n ≤ 20) (hg1 : g ≠ bm) (hg2 : g ≠ bw) (hr : CellRow 3 W g n (intCells xs)) (ha : ∀ i, i < xs.length → Aim S (flipH s.h) N (xs.getD i 0)) :
    Calls Try.prog 58 #[.pointer (some ⟨bm, 0, none⟩), .slice (some ⟨g, 0, none⟩) n gcap] W (SMovesPost W bm bw N cap g n (movesRun xs n { s with h := flipH s.h })) := by
  have HC := hid (Wk.rebase c W (Frm.refl _ _ _))
  have HRw := hid hr
  have HMv := hid (movesRun_mvs hs ha)
  obtain ⟨R, hR⟩ : ∃ R, movesRun xs n { s with h := flipH s.h } = R := ⟨_, rfl⟩
  rw [hR]
  have HR := hid hR
  have HL := hid hl
  have HG1 := hid hg1
  have HG2 := hid hg2
  have HNn := hid hn
  obtain ⟨c0, c1, c2, c3, c4, c5, c6, c7, c8, c9, c10⟩ := c.blk.cells
  have hFr := hid (fun w => specFrom_calls (.slice (some ⟨bw, 0, none⟩) N cap) { s.h with touched := touchZ s } w h0 (show s.h.to ≤ 4000 by omega) (show 0 ≤ s.h.size by omega) h2)
  have f2 := frozen_of_heap HC.out.blk 2
  have f3 := frozen_of_heap HC.out.blk 3
  have f4 := frozen_of_heap HC.out.blk 4
  have f5 := frozen_of_heap HC.out.blk 5
  have f6 := frozen_of_heap HC.out.blk 6
  have f7 := frozen_of_heap HC.out.blk 7
  have f8 := frozen_of_heap HC.out.blk 8
  clear c hr hR hs ha hl hg1 hg2 hn
  obtain ⟨ws, ⟨g1, g2, g3, g4, g5, g6, g7, g8, g9⟩, r, t⟩ := s
  unfold heapV at hFr
  dsimp only at *
  generalize hTau : touchZ ⟨ws, ⟨g1, g2, g3, g4, g5, g6, g7, g8, g9⟩, r, t⟩ = tau at hFr c9
  clear hTau
  go_enter Try.func58, Try.ntmps58
  go_wp2_with fail
  refine (hFr.out _).mono ?_
  rintro e W1 ⟨rfl, hb1⟩
  have HC1 := hid (HC.out.keep hb1)
  have HC2 := hid (((((((HC1.out.fbSet g3).ftSet g4).toSet (g1 - g2)).bottom (g1 - g2)).scanned (g1 - g2)).topSet (g1 - g2 + g1)).flipsSet (wrap64 (g8 + 1)))
  clear c0 c1 c2 c3 c4 c5 c6 c7 c8 c9 c10 f2 f3 f4 f5 f6 f7 f8 hb1 hFr HC
  obtain ⟨-, c1, c2, c3, c4, c5, c6, c7, c8, -, -⟩ := HC1.out.blk.cells
  have f2 := frozen_of_heap HC1.out.blk 2
  have f3 := frozen_of_heap HC1.out.blk 3
  have f4 := frozen_of_heap HC1.out.blk 4
  have f5 := frozen_of_heap HC1.out.blk 5
  have f6 := frozen_of_heap HC1.out.blk 6
  have f7 := frozen_of_heap HC1.out.blk 7
  have f8 := frozen_of_heap HC1.out.blk 8
  dsimp only at c1 c2 c3 c4 c5 c6 c7 c8 HC2
  clear HC1
  go_wp2_with fail
  have HC3 : Hid (Wk _ bm bw N cap ⟨ws, flipH ⟨g1, g2, g3, g4, g5, g6, g7, g8, g9⟩, r, t⟩ false _) := HC2.out
  have HRw3 := hid (HRw.out.of_block (HC3.out.frame.block g HRw.out.lt HG1.out HG2.out))
  have HF3 := hid ((Frm3.refl W bm bw g).step HC3.out.frame)
  have HC4 := hid (HC3.out.rebase _ (Frm.refl _ _ _))
  clear HC2 HC3 HRw c1 c2 c3 c4 c5 c6 c7 c8 f2 f3 f4 f5 f6 f7 f8
  generalize (((((((W1.setCell ⟨bm, 6, none⟩ (.int .i64 g3)).setCell ⟨bm, 7, none⟩ (.int .i64 g4)).setCell ⟨bm, 2, none⟩ (.int .i64 (g1 - g2))).setCell ⟨bm, 3, none⟩ (.int .i64 (g1 - g2))).setCell ⟨bm, 5, none⟩ (.int .i64 (g1 - g2))).setCell ⟨bm, 4, none⟩ (.int .i64 (g1 - g2 + g1))).setCell ⟨bm, 8, none⟩ (.int .i64 (wrap64 (g8 + 1)))) = W2 at *
  generalize (⟨ws, flipH ⟨g1, g2, g3, g4, g5, g6, g7, g8, g9⟩, r, t⟩ : CN) = s1 at *
  go_loopw [5] (fun i wr => ∃ (ii : Int) (k : Nat), i = .int .i64 ii ∧ Hid (ii = (k : Int) ∧ k ≤ n) ∧ Hid (Frm3 W bm bw g wr) ∧ ((∃ ys s', Hid (movesRun xs k s1 = some (ys, s')) ∧ Hid (Wk wr bm bw N cap s' false wr) ∧ Hid (CellRow 3 wr g n (intCells ys))) ∨ (Hid (movesRun xs k s1 = none) ∧ (∃ s', Hid (Wk wr bm bw N cap s' true wr) ∧ Hid (0 ≤ s'.h.to ∧ s'.h.to ≤ s'.h.size ∧ s'.h.size ≤ 4000 ∧ 0 ≤ s'.h.bottom ∧ s'.h.bottom ≤ s'.h.top ∧ s'.h.top ≤ 8000)) ∧ ∃ ys : List Int, Hid (ys.length = n) ∧ Hid (CellRow 3 wr g n (intCells ys))))) (fun i _ => n - (intOf i).toNat)
  case atStart => exact ⟨0, 0, rfl, ⟨rfl, by omega⟩, HF3.out, Or.inl ⟨xs, s1, rfl, HC4.out, HRw3.out⟩⟩
  case round =>
    obtain ⟨ii, k, rfl, HQ, HF, hcase⟩ := hrel
    clear HC4 HRw3 HF3
    have hi0 : 0 ≤ ii := by have := HQ.out; omega
    by_cases hlt : ii < (n : Int)
    · have hkn : k < n := by have := HQ.out; omega
      have hik : ii.toNat = k := by have := HQ.out; omega
      have hw : Hid (wrap64 (ii + 1) = ii + 1) := by have := HQ.out; have := HNn.out; show _ = _; unfold wrap64; omega
      have hs : Hid (n - (intOf (.int .i64 (ii + 1))).toNat < n - (intOf (.int .i64 ii)).toNat) := by show _ < _; simp only [intOf]; have := HQ.out; omega
      rcases hcase with ⟨ys, s', HK, HI, HRo⟩ | ⟨HK, ⟨s', HI, HB⟩, ys, HLy, HRo⟩
      · obtain ⟨m1, m2, m3⟩ := HMv.out k (by have := HL.out; omega) ys s' HK.out
        obtain ⟨e1, e2⟩ := m3 k (Nat.le_refl _) (by have := HL.out; omega)
        rw [← e1] at e2
        have hm2 := m1.step e2
        obtain ⟨k2, k3, k4, k5, k6, k7, k8, k9, k10, k11, k12⟩ := m1.asks (by have := HNn.out; omega) e2
        have HMo := hid (smove_calls HI.out (ys.getD k 0) k2 k3 k4 k5 k6 k7 k8 k11 k12)
        have q0 := HRo.out.cell (i := k) hkn
        unfold intCells at q0
        have HLy : Hid (ys.length = n) := m2.trans HL.out
        obtain ⟨o, s2, hz⟩ : ∃ o s2, moveZ s' (ys.getD k 0) = (o, s2) := ⟨_, _, rfl⟩
        rw [hz] at HMo hm2
        have HZ := hid hz
        have HN2 := hid hm2.1.nums
        clear hz m1 m2 m3 e1 e2 k2 k3 k4 k5 k6 k7 k8 k9 k10 k11 k12 hm2
        go_wp2_with fail
        refine HMo.out.mono ?_
        rintro e W4 ⟨rfl, hC4⟩
        have HC4 := hid hC4
        have hblk := hC4.frame.block g HRo.out.lt HG1.out HG2.out
        have HRo4 := hid (HRo.out.of_block hblk)
        have q0' : W4.cell? ⟨g, k, none⟩ = some (.int .i64 (ys.getD k 0)) := (World.cell?_of_block (w := wr) hblk).trans q0
        obtain ⟨_, _, hrow, _, _⟩ := HRo4.out
        have q1' := hrow.frozen k hkn
        clear hC4 HMo q0 hrow hblk
        cases o with
        | some y =>
          dsimp only [smoveV]
          go_wp2_with fail
          rw [hw.out]
          exact ⟨⟨ii + 1, k + 1, rfl, ⟨by have := HQ.out; push_cast; omega, by omega⟩, (HF.out.step HC4.out.frame).set k _, Or.inl ⟨ys.set k y, s2, movesRun_more HK.out HZ.out, HC4.out.beside HG1.out HG2.out k _, row_set HRo4.out HLy.out hkn y⟩⟩, hs.out⟩
        | none =>
          dsimp only [smoveV]
          have HSt := hid (movesRun_stop HK.out HZ.out)
          have HBd : Hid (0 ≤ s2.h.to ∧ s2.h.to ≤ s2.h.size ∧ s2.h.size ≤ 4000 ∧ 0 ≤ s2.h.bottom ∧ s2.h.bottom ≤ s2.h.top ∧ s2.h.top ≤ 8000) := by
            have o1 := HN2.out.s0
            have o2 := HN2.out.s1
            have o4 := HN2.out.to
            have o5 := HN2.out.b0
            have o6 := HN2.out.bt
            have o7 := HN2.out.te
            exact ⟨by omega, by omega, o2, by omega, o6, by omega⟩
          clear HZ
          generalize ys.getD k 0 = y at *
          go_wp2_with fail
          rw [hw.out]
          exact ⟨⟨ii + 1, k + 1, rfl, ⟨by have := HQ.out; push_cast; omega, by omega⟩, (HF.out.step HC4.out.frame).set k _, Or.inr ⟨HSt.out, ⟨s2, HC4.out.beside HG1.out HG2.out k _, HBd.out⟩, ys.set k y, by show _ = _; rw [List.length_set]; exact HLy.out, row_set HRo4.out HLy.out hkn y⟩⟩, hs.out⟩
      · obtain ⟨b1, b2, b3, b4, b5, b6⟩ := HB.out
        have HMo := hid (smove_dead HI.out (ys.getD k 0) b1 b2 b3 b4 b5 b6)
        have q0 := HRo.out.cell (i := k) hkn
        unfold intCells at q0
        clear b1 b2 b3 b4 b5 b6
        generalize ys.getD k 0 = x at *
        go_wp2_with fail
        refine HMo.out.mono ?_
        rintro e W4 ⟨⟨y, rfl⟩, hC4⟩
        have HC4 := hid hC4
        have hblk := hC4.frame.block g HRo.out.lt HG1.out HG2.out
        have HRo4 := hid (HRo.out.of_block hblk)
        have q0' : W4.cell? ⟨g, k, none⟩ = some (.int .i64 x) := (World.cell?_of_block (w := wr) hblk).trans q0
        obtain ⟨_, _, hrow, _, _⟩ := HRo4.out
        have q1' := hrow.frozen k hkn
        clear hC4 HMo q0 hrow hblk
        go_wp2_with fail
        rw [hw.out]
        exact ⟨⟨ii + 1, k + 1, rfl, ⟨by have := HQ.out; push_cast; omega, by omega⟩, (HF.out.step HC4.out.frame).set k _, Or.inr ⟨movesRun_none HK.out 1, ⟨s', HC4.out.beside HG1.out HG2.out k _, HB.out⟩, ys.set k y, by show _ = _; rw [List.length_set]; exact HLy.out, row_set HRo4.out HLy.out hkn y⟩⟩, hs.out⟩
    · have hkn : k = n := by have := HQ.out; omega
      rcases hcase with ⟨ys, s', HK, HI, HRo⟩ | ⟨HK, ⟨s', HI, HB⟩, ys, HLy, HRo⟩
      · have HFi : Hid (R = some (ys, s')) := by have h := HK.out; rw [hkn, HR.out] at h; exact h
        go_wp2_with fail
        go_end0
        rw [HFi.out]
        exact ⟨rfl, HF.out, HI.out, HRo.out⟩
      · have HFi : Hid (R = none) := by have h := HK.out; rw [hkn, HR.out] at h; exact h
        go_wp2_with fail
        go_end0
        rw [HFi.out]
        exact ⟨rfl, HF.out, ⟨s', HI.out, HB.out⟩, ys, HLy.out, HRo.out⟩
end Go.Proofs.Ytnoobonlmfgfhaa
