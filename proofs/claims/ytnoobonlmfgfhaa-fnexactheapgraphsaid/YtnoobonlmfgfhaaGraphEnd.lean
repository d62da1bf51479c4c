/- The specification asks whether words lead to objects in use. -/
import Derived.Test.YtnoobonlmfgfhaaSpecHeapE
import Derived.Test.YtnoobonlmfgfhaaHeapArgs
import Derived.Test.YtnoobonlmfgfhaaImplHeapA
import Derived.Test.YtnoobonlmfgfhaaSpecWkA
import Derived.Test.YtnoobonlmfgfhaaImplHeapQ
import Derived.Test.YtnoobonlmfgfhaaHeapMem
import Derived.Test.YtnoobonlmfgfhaaCalm
import Derived.Test.YtnoobonlmfgfhaaImplGraphC
import Derived.Test.YtnoobonlmfgfhaaSpecGraphB
import Derived.Test.YtnoobonlmfgfhaaImplRoots
namespace Go.Proofs.Ytnoobonlmfgfhaa
open Go.RowKit

def specRoots (ws S : List Int) (h : HpN) (xs : List Int) : Bool := (List.range xs.length).all (fun k => specLeads ws S h (xs.getD k 0) false)

theorem roots_upto {P : Nat → Bool} {m : Nat} (H : ∀ k, k < m → P k = true) : (List.range m).all P = true := by
  rw [List.all_eq_true]
  exact fun k hk => H k (List.mem_range.1 hk)

theorem roots_not {P : Nat → Bool} {m j : Nat} (hj : j < m) (hf : P j = false) : (List.range m).all P = false := by
  rw [List.all_eq_false]
  exact ⟨j, List.mem_range.2 hj, by simp [hf]⟩

set_option maxHeartbeats 2000000 in
set_option maxRecDepth 100000 in
theorem specRoots_calls (b off cap N : Nat) (ws S : List Int) (h : HpN) (v : Value) (xs : List Int) (w : World) (hN : ws.length = N) (ho : Ordered h N) (hS : specLay ws h = some S)
    (hb : b < w.heap.size) (hw : ∀ k, k < N → w.cell? ⟨b, off + k, none⟩ = some (.int .i64 (ws.getD k 0))) (hv : IntSlice w v xs) (hx : xs.length ≤ 20) :
    Calls Try.prog 42 #[heapV (.slice (some ⟨b, off, none⟩) N cap) h, v] w fun e w' => e = .returned (.bool (specRoots ws S h xs)) ∧ Below w.heap.size w w' := by
  have HBg := hid (fun (X : World) (hX : Below w.heap.size w X) => specBegins_calls b off cap N ws h X hN ho (Nat.lt_of_lt_of_le hb hX.size) (fun k hk => (hX.cell (p := ⟨b, off + k, none⟩) hb).trans (hw k hk)))
  rw [hS] at HBg
  have HO := hid ho
  have HW := hid hw
  have HV := hid hv
  have HNN := hid hN
  obtain ⟨ad, c, rfl, -⟩ := hv
  clear hw hS ho hN
  obtain ⟨g1, g2, g3, g4, g5, g6, g7, g8, g9⟩ := h
  unfold heapV at *
  dsimp only at *
  generalize hR : specRoots ws S ⟨g1, g2, g3, g4, g5, g6, g7, g8, g9⟩ xs = R
  have HR := hid hR
  clear hR
  go_enter Try.func42, Try.ntmps42
  go_wp2_with fail
  have k0 := (Below.refl w.heap.size w).alloc (Nat.le_refl _) (.cells #[.slice (some ⟨b, off, none⟩) N cap, .int .i64 g1, .int .i64 g2, .int .i64 g3, .int .i64 g4, .int .i64 g5, .int .i64 g6, .int .i64 g7, .int .i64 g8, .int .i64 g9] 27)
  refine (HBg.out _ k0).mono ?_
  rintro e W1 ⟨⟨gb, gcap, ok, rfl, hlow, hlt, hh⟩, hb0⟩
  have hH := (HeapBlk.new w (.slice (some ⟨b, off, none⟩) N cap) ⟨g1, g2, g3, g4, g5, g6, g7, g8, g9⟩).below hb0
  have hb1 := k0.trans (hb0.mono k0.size)
  clear hb0 k0
  obtain ⟨S', hS', rfl, hl, hr⟩ := hh.resolve_left (by simp)
  obtain rfl := Option.some.inj hS'
  clear hh hS' HBg
  have HH := hid hH
  have HLd := hid (fun (X : World) (hX : Below W1.heap.size W1 X) (x : Int) => by
    have e := specLeads_calls b off cap gb gcap ws S ⟨g1, g2, g3, g4, g5, g6, g7, g8, g9⟩ x false X (by rw [HNN.out]; exact HO.out) (by rw [HNN.out]; exact hl) (Nat.lt_of_lt_of_le hb (Nat.le_trans hb1.size hX.size)) (fun k hk => (hX.cell (p := ⟨b, off + k, none⟩) (Nat.lt_of_lt_of_le hb hb1.size)).trans ((hb1.cell (p := ⟨b, off + k, none⟩) hb).trans (HW.out k (by rw [← HNN.out]; exact hk)))) (Nat.lt_of_lt_of_le hlt hX.size) (fun k hk => (hX.cell (p := ⟨gb, k, none⟩) hlt).trans (hr.cell (by rw [← hl]; exact hk)))
    rw [HNN.out, hl] at e
    exact e)
  unfold heapV at HLd
  dsimp only at HLd
  have HB1 := hid hb1
  clear hb1 hr hlow hl hH
  go_wp2_with fail
  go_loopw [7] (fun i wr => ∃ k : Nat, i = .int .i64 k ∧ k ≤ xs.length ∧ Hid (∀ j, j < k → specLeads ws S ⟨g1, g2, g3, g4, g5, g6, g7, g8, g9⟩ (xs.getD j 0) false = true) ∧ Hid (Below W1.heap.size W1 wr)) (fun i _ => xs.length - (intOf i).toNat)
  case atStart => exact ⟨0, rfl, Nat.zero_le _, fun j hj => by omega, Below.refl _ _⟩
  case round =>
    obtain ⟨k, rfl, hk, HJ, HB⟩ := hrel
    by_cases hlt2 : (k : Int) < (xs.length : Int)
    · obtain ⟨ad', c', e, hh⟩ := HV.out
      cases e
      obtain ⟨b', o', rfl, hb', hc⟩ := hh.resolve_left (by rintro rfl; simp at hlt2; omega)
      clear hh
      have q0 := (HB.out.cell (p := ⟨b', o' + k, none⟩) (Nat.lt_of_lt_of_le hb' HB1.out.size)).trans ((HB1.out.cell (p := ⟨b', o' + k, none⟩) hb').trans (hc k (by omega)))
      clear hc hb'
      have hH3 := HH.out.below HB.out
      obtain ⟨v0, v1, v2, v3, v4, v5, v6, v7, v8, v9⟩ := hH3.later (B := wr.heap.size) (heap_lt hH3)
      dsimp only at v0 v1 v2 v3 v4 v5 v6 v7 v8 v9
      have q1 : ∀ x : Later wr.heap.size wr, x.w.cell? ⟨b', o' + k, none⟩ = some (.int .i64 (xs.getD k 0)) := fun x => x.cell (block_in q0) q0
      have HL := hid (fun x : Later wr.heap.size wr => HLd.out x.w (HB.out.trans (x.h.mono HB.out.size)) (xs.getD k 0))
      have HX : Hid (∃ y, specLeads ws S ⟨g1, g2, g3, g4, g5, g6, g7, g8, g9⟩ (xs.getD k 0) false = y) := ⟨_, rfl⟩
      clear q0 hH3
      obtain ⟨y, hy⟩ := HX.out
      rw [hy] at HL
      have HY := hid hy
      clear hy HX
      go_wp2_with fail
      refine wp_region_calm wr.heap.size (by kernel_rfl) (by kernel_rfl) ?_
      repeat (go_big_quiet_step (first | (rename_i x; go_at_call 37; refine (HL.out x).mono ?_; rintro e w5 ⟨rfl, hb5⟩; exact ⟨rfl, ⟨w5, x.h.trans (hb5.mono x.h.size)⟩, rfl⟩)))
      refine wpQuiet_nil ?_
      rintro w5 ⟨x, rfl⟩
      have HB3 := hid (HB.out.trans (x.h.mono HB.out.size))
      clear HL q1 v0 v1 v2 v3 v4 v5 v6 v7 v8 v9
      generalize x.w = W3 at *
      cases y with
      | false =>
        go_wp2_with fail
        go_ret
        refine ⟨?_, HB1.out.trans (HB3.out.mono HB1.out.size)⟩
        rw [← HR.out]
        unfold specRoots
        rw [roots_not (j := k) (by omega) HY.out]
        rfl
      | true =>
        go_wp2_with fail
        have hs : xs.length - (intOf (.int .i64 ((k : Int) + 1))).toNat < xs.length - (intOf (.int .i64 (k : Int))).toNat := by simp only [intOf, Int.toNat_natCast]; omega
        refine ⟨⟨k + 1, by push_cast; rfl, by omega, fun j hj => ?_, HB3.out⟩, hs⟩
        by_cases hjk : j = k
        · rw [hjk]
          exact HY.out
        · exact HJ.out j (by omega)
    · obtain rfl : k = xs.length := by omega
      go_wp2_with fail
      go_ret
      refine ⟨?_, HB1.out.trans (HB.out.mono HB1.out.size)⟩
      rw [← HR.out]
      unfold specRoots
      rw [roots_upto HJ.out]
      rfl
end Go.Proofs.Ytnoobonlmfgfhaa

/- The specification opens a heap: a worker with words of its own. -/
namespace Go.Proofs.Ytnoobonlmfgfhaa
open Go.RowKit

theorem heap_alloc2 (w : World) (o o' : Obj) : ((w.alloc o).alloc o').heap[w.heap.size]? = some o ∧ ((w.alloc o).alloc o').heap[w.heap.size + 1]? = some o' ∧ ((w.alloc o).alloc o').heap.size = w.heap.size + 2 := by
  have h := two_kept (w := w) (o := o) (o' := o') (Below.refl _ _)
  exact ⟨h.1, h.2.1, by simp⟩

theorem row_of_owns {w : World} {B g N cap : Nat} {ws : List Int} (hl : ws.length = N) (h : w.ownsRow B 3 1 (.slice (some ⟨g, 0, none⟩) N cap) N (ws.map (fun x => Value.int .i64 x))) : CellRow 3 w g N (intCells ws) ∧ B ≤ g := by
  obtain ⟨-, hh | ⟨g', cp, cur, e, hg, hcur, hcp, -, hcs, htk⟩⟩ := h
  · exact absurd hh.1 (by simp)
  · cases e
    refine ⟨⟨cap, fun i => (cur[i]?).getD undef, ⟨cur, (0, 0), hcur, by omega, fun i hi => ?_, Or.inl rfl⟩, hcp, fun i hi => ?_⟩, hg⟩
    · have e := Array.getElem?_eq_getElem (xs := cur) (i := i) (by omega)
      dsimp only
      rw [e]
      rfl
    · have e : (cur.toList.take (N * 1))[i]? = (ws.map (fun x => Value.int .i64 x))[i]? := by rw [htk]
      rw [Nat.mul_one, List.getElem?_take_of_lt hi, List.getElem?_map, Array.getElem?_toList, List.getElem?_eq_getElem (by omega)] at e
      dsimp only
      rw [e]
      simp [intCells, List.getD, hl, hi]

set_option maxHeartbeats 1000000 in
set_option maxRecDepth 100000 in
theorem open_calls (b off cap N : Nat) (ws : List Int) (h : HpN) (w : World) (hN0 : 0 < N) (hl : ws.length = N) (hN : N ≤ 8000) (hb : b < w.heap.size)
    (hw : ∀ k, k < N → w.cell? ⟨b, off + k, none⟩ = some (.int .i64 (ws.getD k 0))) (ht0 : 0 ≤ h.touched) (ht1 : h.touched < 9223372036854775808) :
    Calls Try.prog 43 #[heapV (.slice (some ⟨b, off, none⟩) N cap) h] w fun e w' => ∃ bm bw cap' : Nat, e = .returned (.pointer (some ⟨bm, 0, none⟩)) ∧ Wk w bm bw N cap' ⟨ws, h, 0, 0⟩ false w' ∧ w.heap.size ≤ bm ∧ w.heap.size ≤ bw := by
  obtain ⟨g1, g2, g3, g4, g5, g6, g7, g8, g9⟩ := h
  unfold heapV
  dsimp only at *
  have HW := hid hw
  have HT : Hid (touchZ ⟨ws, ⟨g1, g2, g3, g4, g5, g6, g7, g8, g9⟩, 0, 0⟩ = g9) := by
    show _ = _
    unfold touchZ wrap64
    dsimp only
    omega
  clear hw ht0 ht1
  obtain ⟨i0, hi, hz0, hz1, hz2⟩ := info_parts info_int
  obtain ⟨eA, eB, eS⟩ := heap_alloc2 w (.cells #[.slice (some ⟨b, off, none⟩) N cap, .int .i64 g1, .int .i64 g2, .int .i64 g3, .int .i64 g4, .int .i64 g5, .int .i64 g6, .int .i64 g7, .int .i64 g8, .int .i64 g9] 27) (.cells #[] 3)
  have k2 := ((Below.refl w.heap.size w).alloc (Nat.le_refl _) (.cells #[.slice (some ⟨b, off, none⟩) N cap, .int .i64 g1, .int .i64 g2, .int .i64 g3, .int .i64 g4, .int .i64 g5, .int .i64 g6, .int .i64 g7, .int .i64 g8, .int .i64 g9] 27)).alloc (by simp) (.cells #[] 3)
  have HEA := hid eA
  have HEB := hid eB
  have HES := hid eS
  have HK2 := hid k2
  clear eA eB eS k2
  go_enter Try.func43, Try.ntmps43
  go_wp2_with (first
    | (at_builtin; refine wpList_append_own _ rfl _ _ 22 rfl w.heap.size 3 i0 (.int .i64 0) 1 8 Try.underlying22 hi hz0 hz1 hz2 rfl (by decide) (.slice (some ⟨w.heap.size + 1, 0, none⟩) 0 0) 0 [] rfl ⟨rfl, Or.inr ⟨w.heap.size + 1, 0, #[], rfl, by omega, HEB.out, by omega, by decide, rfl, rfl⟩⟩ ⟨b, off, none⟩ N cap (ws.map (fun x => Value.int .i64 x)) rfl (by simp [hl]) (fun j u hu => ?_) (fun u hu => ?_) (by unfold maxLen; omega) (by omega) (by rw [HES.out]; omega) ?_))
  · rw [List.getElem?_map] at hu
    obtain ⟨x, hx, rfl⟩ := Option.map_eq_some_iff.1 hu
    have hj : j < N := by have := (List.getElem?_eq_some_iff.1 hx).1; omega
    have e := (HK2.out.cell (p := ⟨b, off + j, none⟩) hb).trans (HW.out j hj)
    rw [show ws.getD j 0 = x by simp [List.getD, hx]] at e
    have ea : (⟨b, off, none⟩ : Addr).add j = ⟨b, off + j, none⟩ := by
      unfold Addr.add
      split
      · simp_all
      · rfl
    rw [ea]
    exact e
  · simp only [List.mem_map] at hu
    obtain ⟨x, _, rfl⟩ := hu
    rfl
  · intro v' w3 hown hgrow hnil
    obtain ⟨-, hh | ⟨g, cp, cur, rfl, hg, hcur, hcp, hcm, hcs, htk⟩⟩ := id hown
    · exact absurd hh.1 hnil
    obtain ⟨hrow, hlow⟩ := row_of_owns hl hown
    have hH : HeapBlk w3 w.heap.size (.slice (some ⟨b, off, none⟩) N cap) ⟨g1, g2, g3, g4, g5, g6, g7, g8, g9⟩ := (hgrow.block w.heap.size (by rw [HES.out]; omega) (by simp [Value.ownBlock])).trans HEA.out
    have hbw : Below w.heap.size w w3 := Below.grown HK2.out hgrow (by rw [HES.out]; omega) (fun j hj => by simp [Value.ownBlock] at hj; omega)
    have hne : g ≠ w.heap.size := by
      rintro rfl
      have e := hH
      unfold HeapBlk at e
      rw [hcur] at e
      simp at e
    obtain ⟨c0, c1, c2, c3, c4, c5, c6, c7, c8, c9⟩ := hH.cells
    dsimp only at c0 c1 c2 c3 c4 c5 c6 c7 c8 c9
    have f0 := frozen_of_heap hH 0
    have HB := hid hbw
    have HR := hid hrow
    have HH := hid hH
    have hsz := hbw.size
    clear hown hgrow hnil hcur hcp hcm hcs htk hbw hrow hH HK2 HEA HEB HES HW
    go_wp2_with fail
    go_ret
    have hs : (w3.setCell ⟨w.heap.size, 0, none⟩ (.slice (some ⟨g, 0, none⟩) N cp)).heap.size = w3.heap.size := by simp [World.setCell]
    have hgl := HR.out.lt
    refine ⟨w3.heap.size, g, cp, rfl, ⟨?_, ?_, hl, by omega, Frm.of_below ((HB.out.setCell (Nat.le_refl _) _).alloc (by rw [hs]; exact hsz) _)⟩, hsz, hlow⟩
    · have e := (MapKept.heap_alloc (w3.setCell ⟨w.heap.size, 0, none⟩ (.slice (some ⟨g, 0, none⟩) N cp)) (.cells #[.slice (some ⟨g, 0, none⟩) N cp, .int .i64 g1, .int .i64 g2, .int .i64 g3, .int .i64 g4, .int .i64 g5, .int .i64 g6, .int .i64 g7, .int .i64 g8, .int .i64 g9, .bool false] 67)).1
      rw [hs] at e
      unfold WkBlk
      rw [HT.out]
      exact e
    · refine HR.out.of_block ?_
      have e1 := ((Below.refl (w3.setCell ⟨w.heap.size, 0, none⟩ (.slice (some ⟨g, 0, none⟩) N cp)).heap.size _).alloc (Nat.le_refl _) (.cells #[.slice (some ⟨g, 0, none⟩) N cp, .int .i64 g1, .int .i64 g2, .int .i64 g3, .int .i64 g4, .int .i64 g5, .int .i64 g6, .int .i64 g7, .int .i64 g8, .int .i64 g9, .bool false] 67)).block g (by rw [hs]; exact hgl)
      exact e1.trans (Below.heap_setCell _ _ _ _ hne)
end Go.Proofs.Ytnoobonlmfgfhaa

/- Words in a row of their own, copied; what both sides count. -/
namespace Go.Proofs.Ytnoobonlmfgfhaa
open Go.RowKit

/-- Words in a row of their own, at a later world. -/
theorem row_kept {B g N : Nat} {bs : List Int} {W X : World} (h0 : N ≠ 0) (hs : SliceR 3 1 B W (.slice (some ⟨g, 0, none⟩) N N) N (intCells bs)) (hX : Below W.heap.size W X) :
    g < X.heap.size ∧ ∀ k, k < N → X.cell? ⟨g, 0 + k, none⟩ = some (.int .i64 (bs.getD k 0)) := by
  obtain ⟨ad, cap, e, hh⟩ := hs
  obtain ⟨g', e2, hB, hr⟩ := hh.resolve_left h0
  cases e
  cases e2
  rw [Nat.mul_one] at hr
  exact ⟨Nat.lt_of_lt_of_le hr.lt hX.size, fun k hk => by rw [Nat.zero_add]; exact (hX.cell (p := ⟨g, k, none⟩) hr.lt).trans (hr.cell hk)⟩

theorem touch_same (t r q : Int) : wrap64 (wrap64 (t + r) + q) = wrap64 (t + (r + q)) := by
  unfold wrap64
  omega

theorem clone_row (rg n rc : Nat) (xs : List Int) (X : World) (hl : xs.length = n) (hn : n ≤ 20) (hc : ∀ k, k < n → X.cell? ⟨rg, 0 + k, none⟩ = some (.int .i64 (xs.getD k 0))) :
    Calls Try.prog 49 #[.slice (some ⟨rg, 0, none⟩) n rc] X fun e w' => ∃ g c, e = .returned (.slice (some ⟨g, 0, none⟩) n c) ∧ Hid (CellRow 3 w' g n (intCells xs)) ∧ X.heap.size ≤ g ∧ Below X.heap.size X w' := by
  refine (Try.slices_Clone_int rg 0 n rc xs X (by omega) (by omega) (fun j hj => hc j (by omega))).mono ?_
  rintro e w' ⟨v', rfl, how, hv0, hb⟩
  rw [List.take_of_length_le (by omega)] at how
  obtain ⟨-, hh | ⟨g, cp, cur, rfl, hg, -⟩⟩ := id how
  · exact absurd hh.1 hv0
  obtain ⟨hrow, hlow⟩ := row_of_owns hl how
  exact ⟨g, cp, rfl, hrow, hlow, hb⟩
end Go.Proofs.Ytnoobonlmfgfhaa

/- Objects in memory: a row of kinds and fields, each object's fields in a row of their own. Two that hold the same compare as alike; marks that are put into one are held by it. -/
namespace Go.Proofs.Ytnoobonlmfgfhaa
open Go.RowKit

/-- The cells of a row of objects, told by place. -/
def objF (ks : Nat → Int) (fv : Nat → Value) (c : Nat) : Value := if c % 2 = 0 then .int .i64 (ks (c / 2)) else fv (c / 2)

theorem objF_kind (ks : Nat → Int) (fv : Nat → Value) (k : Nat) : objF ks fv (k * 2) = .int .i64 (ks k) := by
  unfold objF
  rw [if_pos (by omega), show k * 2 / 2 = k by omega]

theorem objF_fields (ks : Nat → Int) (fv : Nat → Value) (k : Nat) : objF ks fv (k * 2 + 1) = fv k := by
  unfold objF
  rw [if_neg (by omega), show (k * 2 + 1) / 2 = k by omega]

/-- n objects: their kinds, their fields. -/
structure ObR (B : Nat) (W : World) (v : Value) (n : Nat) (ks : Nat → Int) (fv : Nat → Value) (ln : Nat → Nat) (F : Nat → Nat → Value) : Prop where
  row : SliceR 81 2 B W v n (objF ks fv)
  fld : ∀ i, i < n → SliceR 3 1 B W (fv i) (ln i) (F i)

theorem ObR.below {B : Nat} {W W' : World} {v : Value} {n : Nat} {ks : Nat → Int} {fv : Nat → Value} {ln : Nat → Nat} {F : Nat → Nat → Value} (o : ObR B W v n ks fv ln F) (h : Below W.heap.size W W') : ObR B W' v n ks fv ln F :=
  ⟨o.row.below h, fun i hi => (o.fld i hi).below h⟩

/-- No two of its rows are one. -/
structure ObA (v : Value) (n : Nat) (fv : Nat → Value) (ln : Nat → Nat) : Prop where
  own : ∀ i, i < n → ln i ≠ 0 → (fv i).ownBlock ≠ v.ownBlock
  two : ∀ i j, i < n → j < n → i ≠ j → ln i ≠ 0 → ln j ≠ 0 → (fv i).ownBlock ≠ (fv j).ownBlock

/-- Its blocks. -/
def ObB (v : Value) (n : Nat) (fv : Nat → Value) (ln : Nat → Nat) (q : Nat) : Prop := (n ≠ 0 ∧ v.ownBlock = some q) ∨ ∃ i, i < n ∧ ln i ≠ 0 ∧ (fv i).ownBlock = some q

/-- Only such blocks are changed. -/
structure Chg (P : Nat → Prop) (w w' : World) : Prop where
  os : w'.os = w.os
  tape : w'.tape = w.tape
  output : w'.output = w.output
  size : w.heap.size ≤ w'.heap.size
  block : ∀ q, q < w.heap.size → ¬ P q → w'.heap[q]? = w.heap[q]?

theorem Chg.refl (P : Nat → Prop) (w : World) : Chg P w w := ⟨rfl, rfl, rfl, Nat.le_refl _, fun _ _ _ => rfl⟩

theorem Chg.trans {P : Nat → Prop} {w w1 w2 : World} (h : Chg P w w1) (h' : Chg P w1 w2) : Chg P w w2 :=
  ⟨h'.os.trans h.os, h'.tape.trans h.tape, h'.output.trans h.output, Nat.le_trans h.size h'.size, fun q hq hp => (h'.block q (Nat.lt_of_lt_of_le hq h.size) hp).trans (h.block q hq hp)⟩

theorem Chg.of_below {P : Nat → Prop} {w w' : World} (h : Below w.heap.size w w') : Chg P w w' := ⟨h.os, h.tape, h.output, h.size, fun q hq _ => h.block q hq⟩

theorem Chg.of_turned {P : Nat → Prop} {w w' : World} {v : Value} {n : Nat} (h : Turned w w' v n) (hp : ∀ q, n ≠ 0 → v.ownBlock = some q → P q) : Chg P w w' := by
  obtain ⟨row, hg, hrow⟩ := h
  refine ⟨hg.os, hg.tape, hg.output, hg.size, fun q hq hnp => hg.block q hq (fun e => ?_)⟩
  rcases hrow with rfl | ⟨hn, rfl⟩
  · cases e
  · exact hnp (hp q hn e.symm)

theorem Chg.set {P : Nat → Prop} {w : World} {g : Nat} (hp : P g) (i : Nat) (v : Value) : Chg P w (w.setCell ⟨g, i, none⟩ v) :=
  ⟨rfl, rfl, rfl, by simp [World.setCell], fun q _ hq => Below.heap_setCell w ⟨g, i, none⟩ v q (fun e => hq (e ▸ hp))⟩

theorem Chg.mono {P Q : Nat → Prop} {w w' : World} (h : Chg P w w') (hpq : ∀ q, P q → Q q) : Chg Q w w' := ⟨h.os, h.tape, h.output, h.size, fun q hq hn => h.block q hq (fun e => hn (hpq q e))⟩

theorem SliceR.chg {t : TypeId} {sz B : Nat} {P : Nat → Prop} {w w' : World} {v : Value} {n : Nat} {F : Nat → Value} (h : SliceR t sz B w v n F) (hc : Chg P w w') (hn : n ≠ 0 → ∀ q, v.ownBlock = some q → ¬ P q) : SliceR t sz B w' v n F := by
  obtain ⟨ad, cap, rfl, h⟩ := h
  refine ⟨ad, cap, rfl, ?_⟩
  by_cases h0 : n = 0
  · exact Or.inl h0
  · obtain ⟨g, rfl, hB, hr⟩ := h.resolve_left h0
    exact Or.inr ⟨g, rfl, hB, hr.of_block (hc.block g hr.lt (hn h0 g rfl))⟩

theorem ObR.chg {B : Nat} {P : Nat → Prop} {W W' : World} {v : Value} {n : Nat} {ks : Nat → Int} {fv : Nat → Value} {ln : Nat → Nat} {F : Nat → Nat → Value} (o : ObR B W v n ks fv ln F) (hc : Chg P W W') (hn : ∀ q, ObB v n fv ln q → ¬ P q) : ObR B W' v n ks fv ln F :=
  ⟨o.row.chg hc (fun h0 q e => hn q (Or.inl ⟨h0, e⟩)), fun i hi => (o.fld i hi).chg hc (fun h0 q e => hn q (Or.inr ⟨i, hi, h0, e⟩))⟩

theorem ObR.lo {B : Nat} {W : World} {v : Value} {n : Nat} {ks : Nat → Int} {fv : Nat → Value} {ln : Nat → Nat} {F : Nat → Nat → Value} (o : ObR B W v n ks fv ln F) {q : Nat} (h : ObB v n fv ln q) : B ≤ q ∧ q < W.heap.size := by
  rcases h with ⟨h0, e⟩ | ⟨i, hi, h0, e⟩
  · obtain ⟨g, e1, h1, h2⟩ := o.row.block h0
    rw [e1] at e
    cases e
    exact ⟨h1, h2⟩
  · obtain ⟨g, e1, h1, h2⟩ := (o.fld i hi).block h0
    rw [e1] at e
    cases e
    exact ⟨h1, h2⟩

/-- The kind of one object is changed. -/
theorem SliceR.kind {B : Nat} {w : World} {v : Value} {n g k cap : Nat} {ks : Nat → Int} {fv : Nat → Value} (hv : v = .slice (some ⟨g, 0, none⟩) n cap) (h : SliceR 81 2 B w v n (objF ks fv)) (hk : k < n) (x : Int) : SliceR 81 2 B (w.setCell ⟨g, k * 2, none⟩ (.int .i64 x)) v n (objF (fun j => if j = k then x else ks j) fv) := by
  obtain ⟨ad, cap', e, h⟩ := h
  rw [hv] at e
  cases e
  obtain ⟨g', e2, hB, N, f, hr, hN, hf⟩ := h.resolve_left (by omega)
  cases e2
  refine ⟨_, cap, hv, Or.inr ⟨g, rfl, hB, N, _, hr.set (k * 2) _, hN, fun i hi => ?_⟩⟩
  by_cases hik : i = k * 2
  · subst hik
    rw [if_pos rfl, objF_kind, if_pos rfl]
  · rw [if_neg hik, hf i hi]
    unfold objF
    by_cases h2 : i % 2 = 0
    · rw [if_pos h2, if_pos h2]
      dsimp only
      rw [if_neg (by omega)]
    · rw [if_neg h2, if_neg h2]

set_option maxRecDepth 100000 in
theorem eqObj_calls {v v' : Value} {bs : List Int} (k : Int) (w : World) (hm : bs.length ≤ 1048576) (hv : IntSlice w v bs) (hv' : IntSlice w v' bs) :
    Calls Try.prog 65 #[.agg #[.int .i64 k, v], .agg #[.int .i64 k, v']] w fun e w' => e = .returned (.bool true) ∧ Below w.heap.size w w' := by
  have HM := hid hm
  have HV := hid hv
  have HV' := hid hv'
  clear hm hv hv'
  go_enter Try.func65, Try.ntmps65
  go_wp2_with fail
  refine (eqIntS_any _ HM.out (HV.out.below (((Below.refl _ _).alloc (Nat.le_refl _) _).alloc (by simp) _)) (HV'.out.below (((Below.refl _ _).alloc (Nat.le_refl _) _).alloc (by simp) _))).mono ?_
  rintro e w1 ⟨rfl, hb⟩
  obtain ⟨-, -, hb⟩ := two_kept hb
  clear HM HV HV'
  go_wp2_with fail
  go_ret
  exact ⟨rfl, hb⟩

set_option maxRecDepth 100000 in
theorem eqObjS_none (ad ad' : Option Addr) (cap cap' : Nat) (w : World) :
    Calls Try.prog 30 #[.slice ad 0 cap, .slice ad' 0 cap'] w fun e w' => e = .returned (.bool true) ∧ Below w.heap.size w w' := by
  go_enter Try.func30, Try.ntmps30
  go_wp2
  refine wp_loop_rounds 1 ?_
  rw [rounds_succ]
  go_wp2
  go_ret
  exact ⟨rfl, Below.refl _ _⟩

set_option maxHeartbeats 1000000 in
set_option maxRecDepth 100000 in
theorem eqObjS_rows {B B' g g' n cap cap' : Nat} {ks : Nat → Int} {fv fv' : Nat → Value} (fs : Nat → List Int) (w : World) (hm : n ≤ 1048576) (hl : ∀ i, i < n → (fs i).length ≤ 1048576) (hn0 : n ≠ 0)
    (o : ObR B w (.slice (some ⟨g, 0, none⟩) n cap) n ks fv (fun i => (fs i).length) (fun i => intCells (fs i))) (o' : ObR B' w (.slice (some ⟨g', 0, none⟩) n cap') n ks fv' (fun i => (fs i).length) (fun i => intCells (fs i))) :
    Calls Try.prog 30 #[.slice (some ⟨g, 0, none⟩) n cap, .slice (some ⟨g', 0, none⟩) n cap'] w fun e w' => e = .returned (.bool true) ∧ Below w.heap.size w w' := by
  have HM := hid hm
  have HL := hid hl
  have HO := hid o
  have HO' := hid o'
  have hlt : g < w.heap.size := (o.lo (Or.inl ⟨hn0, rfl⟩)).2
  have hlt' : g' < w.heap.size := (o'.lo (Or.inl ⟨hn0, rfl⟩)).2
  have HC : Hid (∀ X, Below w.heap.size w X → ∀ k, k < n → X.cell? ⟨g, k * 2, none⟩ = some (.int .i64 (ks k)) ∧ X.cell? ⟨g, k * 2 + 1, none⟩ = some (fv k) ∧ X.cell? ⟨g', k * 2, none⟩ = some (.int .i64 (ks k)) ∧ X.cell? ⟨g', k * 2 + 1, none⟩ = some (fv' k)) := fun X hX k hk => by
    obtain ⟨ad, c, e, h⟩ := (o.below hX).row
    cases e
    obtain ⟨g1, e2, -, hr⟩ := h.resolve_left hn0
    cases e2
    obtain ⟨ad, c, e, h⟩ := (o'.below hX).row
    cases e
    obtain ⟨g1, e2, -, hr'⟩ := h.resolve_left hn0
    cases e2
    exact ⟨by rw [hr.cell (by omega), objF_kind], by rw [hr.cell (by omega), objF_fields], by rw [hr'.cell (by omega), objF_kind], by rw [hr'.cell (by omega), objF_fields]⟩
  clear hm hl o o'
  go_enter Try.func30, Try.ntmps30
  go_wp2_with fail
  go_loopw [5] (fun i wr => ∃ k : Nat, k ≤ n ∧ i = .int .i64 k ∧ Below w.heap.size w wr) (fun i _ => n - (intOf i).toNat)
  case atStart => exact ⟨0, Nat.zero_le _, rfl, Below.refl _ _⟩
  case round =>
    obtain ⟨k, hk, rfl, hnx⟩ := hrel
    by_cases hkl : (k : Int) < (n : Int)
    · have hkn : k < n := by omega
      have HE : Hid (∀ X, Below w.heap.size w X → Calls Try.prog 65 #[.agg #[.int .i64 (ks k), fv k], .agg #[.int .i64 (ks k), fv' k]] X fun e w' => e = .returned (.bool true) ∧ Below X.heap.size X w') := fun X hX => eqObj_calls (bs := fs k) (ks k) X (HL.out k hkn) (((HO.out.below hX).fld k hkn).intSlice) (((HO'.out.below hX).fld k hkn).intSlice)
      have hc := fun (y : Later wr.heap.size wr) => HC.out y.w (hnx.trans (y.h.mono hnx.size)) k hkn
      generalize ks k = kk at *
      generalize fv k = va at *
      generalize fv' k = vb at *
      have c0 := fun y => (hc y).1
      have c1 := fun y => (hc y).2.1
      have d0 := fun y => (hc y).2.2.1
      have d1 := fun y => (hc y).2.2.2
      clear hc hkn HC
      have hi0 : (0 : Int) ≤ (k : Int) := by omega
      go_wp2_with fail
      refine wp_region_calm wr.heap.size (by kernel_rfl) (by kernel_rfl) ?_
      repeat (go_big_quiet_step (first | (rename_i y; go_at_call 65; refine (HE.out _ (hnx.trans (y.h.mono hnx.size))).mono ?_; rintro e w5 ⟨rfl, hb5⟩; exact ⟨rfl, ⟨w5, y.h.trans (hb5.mono y.h.size)⟩, rfl⟩)))
      refine wpQuiet_nil ?_
      rintro w6 ⟨y, rfl⟩
      have hb2 := hnx.trans (y.h.mono hnx.size)
      clear c0 c1 d0 d1 HE
      go_wp2_with fail
      have hs : n - (intOf (.int .i64 ((k + 1 : Nat) : Int))).toNat < n - (intOf (.int .i64 (k : Int))).toNat := by simp only [intOf, Int.toNat_natCast]; omega
      rw [wrap_inc (n := n) (by omega) HM.out]
      exact ⟨⟨k + 1, by omega, rfl, hb2⟩, hs⟩
    · go_wp2_with fail
      go_ret
      exact ⟨rfl, hnx⟩

theorem eqObjS_any {B B' n : Nat} {v v' : Value} {ks : Nat → Int} {fv fv' : Nat → Value} (fs : Nat → List Int) (w : World) (hm : n ≤ 1048576) (hl : ∀ i, i < n → (fs i).length ≤ 1048576)
    (o : ObR B w v n ks fv (fun i => (fs i).length) (fun i => intCells (fs i))) (o' : ObR B' w v' n ks fv' (fun i => (fs i).length) (fun i => intCells (fs i))) :
    Calls Try.prog 30 #[v, v'] w fun e w' => e = .returned (.bool true) ∧ Below w.heap.size w w' := by
  obtain ⟨ad, cap, rfl, h⟩ := id o.row
  obtain ⟨ad', cap', rfl, h'⟩ := id o'.row
  by_cases h0 : n = 0
  · subst h0
    exact eqObjS_none ad ad' cap cap' w
  · obtain ⟨g, rfl, -, -⟩ := h.resolve_left h0
    obtain ⟨g', rfl, -, -⟩ := h'.resolve_left h0
    exact eqObjS_rows fs w hm hl h0 o o'

/-- The marks of n objects: where each object's marks begin. -/
def markAt (s : Int) (ln : Nat → Nat) : Nat → Int
  | 0 => s
  | k + 1 => markAt s ln k + 1 + (ln k : Int)

set_option maxHeartbeats 1000000 in
set_option maxRecDepth 100000 in
theorem markObjS_rows (s : Int) {B g n cap : Nat} {ks : Nat → Int} {fv : Nat → Value} {ln : Nat → Nat} {F : Nat → Nat → Value} (w : World) (hm : n ≤ 1048576) (hl : ∀ i, i < n → ln i ≤ 1048576) (hk : ∀ i, i ≤ n → 0 ≤ markAt s ln i ∧ markAt s ln i ≤ 100000000) (hn0 : n ≠ 0)
    (o : ObR B w (.slice (some ⟨g, 0, none⟩) n cap) n ks fv ln F) (a : ObA (.slice (some ⟨g, 0, none⟩) n cap) n fv ln) :
    Calls Try.prog 31 #[.slice (some ⟨g, 0, none⟩) n cap, .int .i64 s] w fun e w' => e = .returned (.int .i64 (markAt s ln n)) ∧ ObR B w' (.slice (some ⟨g, 0, none⟩) n cap) n (markAt s ln) fv ln (fun i => intMarks (markAt s ln i + 1)) ∧ Chg (ObB (.slice (some ⟨g, 0, none⟩) n cap) n fv ln) w w' := by
  have HM := hid hm
  have HL := hid hl
  have HK := hid hk
  have HA := hid a
  have HO := hid o
  clear hm hl hk a o
  obtain ⟨P, hP⟩ : ∃ P, ObB (.slice (some ⟨g, 0, none⟩) n cap) n fv ln = P := ⟨_, rfl⟩
  have HPg : Hid (P g) := by rw [← hP]; exact Or.inl ⟨hn0, rfl⟩
  have HPf : Hid (∀ i, i < n → ∀ q, ln i ≠ 0 → (fv i).ownBlock = some q → P q) := by rw [← hP]; exact fun i hi q h0 e => Or.inr ⟨i, hi, h0, e⟩
  rw [hP]
  clear hP
  go_enter Try.func31, Try.ntmps31
  go_wp2_with fail
  go_loopw [1, 5] (fun m i wr => ∃ (k : Nat) (x : Int), k ≤ n ∧ i = .int .i64 k ∧ m = .int .i64 x ∧ Hid (x = markAt s ln k) ∧ Hid (ObR B wr (.slice (some ⟨g, 0, none⟩) n cap) n (fun j => if j < k then markAt s ln j else ks j) fv ln (fun j => if j < k then intMarks (markAt s ln j + 1) else F j)) ∧ Hid (Chg P w wr)) (fun _ i _ => n - (intOf i).toNat)
  case atStart => exact ⟨0, s, Nat.zero_le _, rfl, rfl, rfl, hid (by simpa using HO.out), Chg.refl _ _⟩
  case round =>
    obtain ⟨k, x, hk, rfl, rfl, Hx, Ho, Hc⟩ := hrel
    by_cases hkl : (k : Int) < (n : Int)
    · have hkn : k < n := by omega
      have hx0 : 0 ≤ x ∧ x ≤ 100000000 := by rw [Hx.out]; exact HK.out k hk
      have HX0 := hid hx0
      obtain ⟨vk, hvk⟩ : ∃ u, fv k = u := ⟨_, rfl⟩
      have HVK := hid hvk
      obtain ⟨c0, z0, c1⟩ : wr.cell? ⟨g, k * 2, none⟩ = some (.int .i64 (ks k)) ∧ wr.frozen? ⟨g, k * 2, none⟩ = false ∧ (wr.setCell ⟨g, k * 2, none⟩ (.int .i64 x)).cell? ⟨g, k * 2 + 1, none⟩ = some vk := by
        have hrow := Ho.out.row
        obtain ⟨ad, c, e, h⟩ := hrow
        cases e
        obtain ⟨g1, e2, -, N, f, hr, hN, hf⟩ := h.resolve_left hn0
        cases e2
        refine ⟨?_, hr.frozen _ (by omega), ?_⟩
        · rw [hr.cell (by omega), hf _ (by omega), objF_kind, if_neg (by omega)]
        · rw [(hr.set (k * 2) (.int .i64 x)).cell (by omega), if_neg (by omega), hf _ (by omega), objF_fields, hvk]
      have HR := hid (SliceR.kind rfl Ho.out.row hkn x)
      have HF : Hid (SliceR 3 1 B (wr.setCell ⟨g, k * 2, none⟩ (.int .i64 x)) vk (ln k) (F k)) := by
        have h1 := (Ho.out.fld k hkn).chg (P := fun q => q = g) (Chg.set (P := fun q => q = g) rfl (k * 2) (.int .i64 x)) (fun h0 q e e2 => HA.out.own k hkn h0 (by rw [e, e2]; rfl))
        rw [hvk] at h1
        exact hid (by simpa using h1)
      clear hvk hx0
      have HW : Hid (wrap64 (x + 1) = x + 1) := by
        show _ = _
        have := HX0.out
        unfold wrap64
        omega
      go_wp2_with fail
      rw [HW.out]
      refine (markIntS_any (x + 1) (by have := HX0.out; constructor <;> omega) _ (HL.out k hkn) HF.out).mono ?_
      rintro e W2 ⟨rfl, hs2, ht2⟩
      have HS2 := hid hs2
      have HT2 := hid ht2
      clear hs2 ht2 c0 z0 c1
      generalize hlk : (ln k : Int) = lk at *
      go_wp2_with fail
      have hs : n - (intOf (.int .i64 ((k + 1 : Nat) : Int))).toNat < n - (intOf (.int .i64 (k : Int))).toNat := by simp only [intOf, Int.toNat_natCast]; omega
      rw [wrap_inc (n := n) (by omega) HM.out]
      have hx := Hx.out
      have hC2 : Chg P (wr.setCell ⟨g, k * 2, none⟩ (.int .i64 x)) W2 := Chg.of_turned HT2.out (fun q h0 e => HPf.out k hkn q h0 (by rw [HVK.out]; exact e))
      refine ⟨⟨k + 1, x + 1 + lk, by omega, rfl, rfl, by show _ = _; rw [hx, ← hlk]; rfl, ⟨?_, fun i hi => ?_⟩, (Hc.out.trans (Chg.set HPg.out _ _)).trans hC2⟩, hs⟩
      · have h1 := HR.out.turned HT2.out (fun _ h0 e => HA.out.own k hkn h0 (by rw [HVK.out]; exact e.symm))
        have e1 : (fun j => if j = k then x else if j < k then markAt s ln j else ks j) = (fun j => if j < k + 1 then markAt s ln j else ks j) := by
          funext j
          by_cases hj : j = k
          · subst hj
            rw [if_pos rfl, if_pos (by omega), hx]
          · rw [if_neg hj]
            by_cases hj2 : j < k
            · rw [if_pos hj2, if_pos (by omega)]
            · rw [if_neg hj2, if_neg (by omega)]
        rw [e1] at h1
        exact h1
      · by_cases hik : i = k
        · subst hik
          have h1 := HS2.out
          rw [← HVK.out, hx] at h1
          simpa using h1
        · have h1 := ((Ho.out.fld i hi).chg (P := fun q => q = g) (Chg.set (P := fun q => q = g) rfl (k * 2) (.int .i64 x)) (fun h0 q e e2 => HA.out.own i hi h0 (by rw [e, e2]; rfl))).turned HT2.out (fun h0 h2 e => HA.out.two i k hi hkn hik h0 h2 (by rw [HVK.out]; exact e))
          have e1 : (if i < k then intMarks (markAt s ln i + 1) else F i) = (if i < k + 1 then intMarks (markAt s ln i + 1) else F i) := by
            by_cases hj2 : i < k
            · rw [if_pos hj2, if_pos (by omega)]
            · rw [if_neg hj2, if_neg (by omega)]
          rw [e1] at h1
          exact h1
    · have hkn : k = n := by omega
      subst hkn
      go_wp2_with fail
      go_ret
      refine ⟨by rw [Hx.out]; rfl, ⟨?_, fun i hi => ?_⟩, Hc.out⟩
      · have h1 := Ho.out.row
        obtain ⟨ad, c, e, h⟩ := h1
        refine ⟨ad, c, e, h.imp id (fun ⟨g1, h1, h2, h3⟩ => ⟨g1, h1, h2, h3.congr (fun i hi => ?_)⟩)⟩
        unfold objF
        by_cases h2 : i % 2 = 0
        · rw [if_pos h2, if_pos h2]
          dsimp only
          rw [if_pos (by omega)]
        · rw [if_neg h2, if_neg h2]
      · have h1 := Ho.out.fld i hi
        simpa [hi] using h1

set_option maxRecDepth 100000 in
theorem markObjS_none (s : Int) (ad : Option Addr) (cap : Nat) (w : World) :
    Calls Try.prog 31 #[.slice ad 0 cap, .int .i64 s] w fun e w' => e = .returned (.int .i64 s) ∧ w = w' := by
  go_enter Try.func31, Try.ntmps31
  go_wp2
  refine wp_loop_rounds 1 ?_
  rw [rounds_succ]
  go_wp2
  go_ret
  exact ⟨rfl, rfl⟩

theorem markObjS_any (s : Int) {B n : Nat} {v : Value} {ks : Nat → Int} {fv : Nat → Value} {ln : Nat → Nat} {F : Nat → Nat → Value} (w : World) (hm : n ≤ 1048576) (hl : ∀ i, i < n → ln i ≤ 1048576) (hk : ∀ i, i ≤ n → 0 ≤ markAt s ln i ∧ markAt s ln i ≤ 100000000)
    (o : ObR B w v n ks fv ln F) (a : ObA v n fv ln) :
    Calls Try.prog 31 #[v, .int .i64 s] w fun e w' => e = .returned (.int .i64 (markAt s ln n)) ∧ ObR B w' v n (markAt s ln) fv ln (fun i => intMarks (markAt s ln i + 1)) ∧ Chg (ObB v n fv ln) w w' := by
  obtain ⟨ad, cap, rfl, h⟩ := id o.row
  by_cases h0 : n = 0
  · subst h0
    refine (markObjS_none s ad cap w).mono ?_
    rintro e w' ⟨rfl, rfl⟩
    exact ⟨rfl, ⟨⟨ad, cap, rfl, Or.inl rfl⟩, fun i hi => by omega⟩, Chg.refl _ _⟩
  · obtain ⟨g, rfl, -, -⟩ := h.resolve_left h0
    exact markObjS_rows s w hm hl hk h0 o a

set_option maxHeartbeats 1000000 in
set_option maxRecDepth 100000 in
theorem heldObjS_rows (s : Int) {B g n cap : Nat} {fv : Nat → Value} {ln : Nat → Nat} (w : World) (hm : n ≤ 1048576) (hl : ∀ i, i < n → ln i ≤ 1048576) (hk : ∀ i, i ≤ n → 0 ≤ markAt s ln i ∧ markAt s ln i ≤ 100000000) (hn0 : n ≠ 0)
    (o : ObR B w (.slice (some ⟨g, 0, none⟩) n cap) n (markAt s ln) fv ln (fun i => intMarks (markAt s ln i + 1))) :
    Calls Try.prog 32 #[.slice (some ⟨g, 0, none⟩) n cap, .int .i64 s] w fun e w' => e = .returned (.int .i64 (markAt s ln n)) ∧ w = w' := by
  have HM := hid hm
  have HL := hid hl
  have HK := hid hk
  have HO := hid o
  clear hm hl hk o
  go_enter Try.func32, Try.ntmps32
  go_wp2_with fail
  go_loop [1, 5] (fun m i => ∃ (k : Nat) (x : Int), k ≤ n ∧ i = .int .i64 k ∧ m = .int .i64 x ∧ Hid (x = markAt s ln k)) (fun _ i => n - (intOf i).toNat)
  case atStart => exact ⟨0, s, Nat.zero_le _, rfl, rfl, rfl⟩
  case round =>
    obtain ⟨k, x, hk, rfl, rfl, Hx⟩ := hrel
    by_cases hkl : (k : Int) < (n : Int)
    · have hkn : k < n := by omega
      have HX0 : Hid (0 ≤ x ∧ x ≤ 100000000) := by rw [Hx.out]; exact HK.out k hk
      obtain ⟨vk, hvk⟩ : ∃ u, fv k = u := ⟨_, rfl⟩
      obtain ⟨c0, c1⟩ : w.cell? ⟨g, k * 2, none⟩ = some (.int .i64 x) ∧ w.cell? ⟨g, k * 2 + 1, none⟩ = some vk := by
        have hrow := HO.out.row
        obtain ⟨ad, c, e, h⟩ := hrow
        cases e
        obtain ⟨g1, e2, -, hr⟩ := h.resolve_left hn0
        cases e2
        exact ⟨by rw [hr.cell (by omega), objF_kind, Hx.out], by rw [hr.cell (by omega), objF_fields, hvk]⟩
      have HF : Hid (SliceR 3 1 B w vk (ln k) (intMarks (x + 1))) := by
        have h1 := HO.out.fld k hkn
        rw [hvk, ← Hx.out] at h1
        exact h1
      clear hvk
      have HW : Hid (wrap64 (x + 1) = x + 1) := by
        show _ = _
        have := HX0.out
        unfold wrap64
        omega
      go_wp2_with fail
      rw [HW.out]
      refine (heldIntS_any (x + 1) (by have := HX0.out; constructor <;> omega) _ (HL.out k hkn) HF.out).mono ?_
      rintro e W2 ⟨rfl, rfl⟩
      clear c0 c1
      have hlk0 : ¬ (x + 1 + (ln k : Int) < 0) := by have := HX0.out; omega
      have HN : Hid (x + 1 + (ln k : Int) = markAt s ln (k + 1)) := by show _ = _; rw [Hx.out]; rfl
      generalize x + 1 + (ln k : Int) = y at *
      go_wp2_with fail
      have hs : n - (intOf (.int .i64 ((k + 1 : Nat) : Int))).toNat < n - (intOf (.int .i64 (k : Int))).toNat := by simp only [intOf, Int.toNat_natCast]; omega
      rw [wrap_inc (n := n) (by omega) HM.out]
      exact ⟨⟨k + 1, y, by omega, rfl, rfl, HN⟩, hs⟩
    · have hkn : k = n := by omega
      subst hkn
      go_wp2_with fail
      go_ret
      exact ⟨by rw [Hx.out]; rfl, rfl⟩

set_option maxRecDepth 100000 in
theorem heldObjS_none (s : Int) (ad : Option Addr) (cap : Nat) (w : World) :
    Calls Try.prog 32 #[.slice ad 0 cap, .int .i64 s] w fun e w' => e = .returned (.int .i64 s) ∧ w = w' := by
  go_enter Try.func32, Try.ntmps32
  go_wp2
  refine wp_loop_rounds 1 ?_
  rw [rounds_succ]
  go_wp2
  go_ret
  exact ⟨rfl, rfl⟩

theorem heldObjS_any (s : Int) {B n : Nat} {v : Value} {fv : Nat → Value} {ln : Nat → Nat} (w : World) (hm : n ≤ 1048576) (hl : ∀ i, i < n → ln i ≤ 1048576) (hk : ∀ i, i ≤ n → 0 ≤ markAt s ln i ∧ markAt s ln i ≤ 100000000)
    (o : ObR B w v n (markAt s ln) fv ln (fun i => intMarks (markAt s ln i + 1))) :
    Calls Try.prog 32 #[v, .int .i64 s] w fun e w' => e = .returned (.int .i64 (markAt s ln n)) ∧ w = w' := by
  obtain ⟨ad, cap, rfl, h⟩ := id o.row
  by_cases h0 : n = 0
  · subst h0
    exact heldObjS_none s ad cap w
  · obtain ⟨g, rfl, -, -⟩ := h.resolve_left h0
    exact heldObjS_rows s w hm hl hk h0 o
end Go.Proofs.Ytnoobonlmfgfhaa

/- What a law holds in memory between its calls, told as facts, each of a stretch of blocks of its own. -/
namespace Go.Proofs.Ytnoobonlmfgfhaa
open Go.RowKit

/-- What is told of a world depends on the blocks from lo to hi alone. -/
def Fact (lo hi : Nat) (T : World → Prop) : Prop := ∀ W W', T W → (∀ q, lo ≤ q → q < hi → W'.heap[q]? = W.heap[q]?) → T W'

theorem Fact.and {lo hi : Nat} {T U : World → Prop} (h : Fact lo hi T) (h' : Fact lo hi U) : Fact lo hi (fun W => T W ∧ U W) := fun W W' ht he => ⟨h W W' ht.1 he, h' W W' ht.2 he⟩

theorem Fact.wide {lo hi lo' hi' : Nat} {T : World → Prop} (h : Fact lo hi T) (h1 : lo' ≤ lo) (h2 : hi ≤ hi') : Fact lo' hi' T := fun W W' ht he => h W W' ht (fun q hq hq' => he q (by omega) (by omega))

theorem fact_slice {t : TypeId} {sz B hi : Nat} {v : Value} {n : Nat} (F : Nat → Value) (h : n ≠ 0 → ∀ q, v.ownBlock = some q → q < hi) : Fact B hi (fun X => SliceR t sz B X v n F) := by
  intro W W' ht he
  obtain ⟨ad, cap, rfl, ht⟩ := ht
  refine ⟨ad, cap, rfl, ?_⟩
  by_cases h0 : n = 0
  · exact Or.inl h0
  · obtain ⟨g, rfl, hB, hr⟩ := ht.resolve_left h0
    exact Or.inr ⟨g, rfl, hB, hr.of_block (he g hB (h h0 g rfl))⟩

theorem fact_objs {B hi : Nat} {v : Value} {n : Nat} {fv : Nat → Value} {ln : Nat → Nat} (ks : Nat → Int) (F : Nat → Nat → Value) (h : ∀ q, ObB v n fv ln q → q < hi) : Fact B hi (fun X => ObR B X v n ks fv ln F) := fun W W' ht he =>
  ⟨fact_slice _ (fun h0 q e => h q (Or.inl ⟨h0, e⟩)) W W' ht.row he, fun i hi' => fact_slice _ (fun h0 q e => h q (Or.inr ⟨i, hi', h0, e⟩)) W W' (ht.fld i hi') he⟩

theorem fact_heap {lo hi b : Nat} (v : Value) (h : HpN) (h1 : lo ≤ b) (h2 : b < hi) : Fact lo hi (fun X => HeapBlk X b v h) := fun _ _ ht he => (he b h1 h2).trans ht

/-- One fact: its stretch, what it tells. -/
structure Fc where
  lo : Nat
  hi : Nat
  T : World → Prop

/-- All that the law holds; the newest first. -/
structure Held (w0 : World) (l : List Fc) (W : World) : Prop where
  below : Below w0.heap.size w0 W
  fact : ∀ f ∈ l, Fact f.lo f.hi f.T
  tells : ∀ f ∈ l, f.T W
  lo : ∀ f ∈ l, w0.heap.size ≤ f.lo
  hi : ∀ f ∈ l, f.hi ≤ W.heap.size
  apart : l.Pairwise (fun f g => g.hi ≤ f.lo)

theorem Held.start (w : World) : Held w [] w := ⟨Below.refl _ _, fun _ h => (by cases h), fun _ h => (by cases h), fun _ h => (by cases h), fun _ h => (by cases h), List.Pairwise.nil⟩

theorem Held.keep {w0 W W' : World} {l : List Fc} (h : Held w0 l W) (hb : Below W.heap.size W W') : Held w0 l W' :=
  ⟨h.below.trans (hb.mono h.below.size), h.fact, fun f hf => h.fact f hf W W' (h.tells f hf) (fun q _ hq => hb.block q (Nat.lt_of_lt_of_le hq (h.hi f hf))), h.lo, fun f hf => Nat.le_trans (h.hi f hf) hb.size, h.apart⟩

theorem Held.add {w0 W W' : World} {l : List Fc} (h : Held w0 l W) (hb : Below W.heap.size W W') {T : World → Prop} (hf : Fact W.heap.size W'.heap.size T) (ht : T W') : Held w0 (⟨W.heap.size, W'.heap.size, T⟩ :: l) W' := by
  have k := h.keep hb
  refine ⟨k.below, fun f hf' => ?_, fun f hf' => ?_, fun f hf' => ?_, fun f hf' => ?_, List.Pairwise.cons (fun f hf' => h.hi f hf') h.apart⟩
  · rcases List.mem_cons.1 hf' with rfl | hf'
    · exact hf
    · exact k.fact f hf'
  · rcases List.mem_cons.1 hf' with rfl | hf'
    · exact ht
    · exact k.tells f hf'
  · rcases List.mem_cons.1 hf' with rfl | hf'
    · exact h.below.size
    · exact k.lo f hf'
  · rcases List.mem_cons.1 hf' with rfl | hf'
    · exact Nat.le_refl _
    · exact k.hi f hf'

/-- One fact is changed, within its stretch. -/
theorem Held.chg {w0 W W' : World} (l1 : List Fc) {l2 : List Fc} {lo hi : Nat} {T T' : World → Prop} {P : Nat → Prop} (h : Held w0 (l1 ++ ⟨lo, hi, T⟩ :: l2) W) (hc : Chg P W W') (hp : ∀ q, P q → lo ≤ q ∧ q < hi) (hf : Fact lo hi T') (ht : T' W') : Held w0 (l1 ++ ⟨lo, hi, T'⟩ :: l2) W' := by
  have hm : (⟨lo, hi, T⟩ : Fc) ∈ l1 ++ ⟨lo, hi, T⟩ :: l2 := List.mem_append_right _ List.mem_cons_self
  have hlo := h.lo _ hm
  obtain ⟨p1, p2, p3⟩ := List.pairwise_append.1 h.apart
  obtain ⟨p4, p5⟩ := List.pairwise_cons.1 p2
  have hcase : ∀ f, f ∈ l1 ++ ⟨lo, hi, T'⟩ :: l2 → f = ⟨lo, hi, T'⟩ ∨ (f ∈ l1 ++ ⟨lo, hi, T⟩ :: l2 ∧ (f.hi ≤ lo ∨ hi ≤ f.lo)) := fun f hf => by
    rcases List.mem_append.1 hf with h1 | h1
    · exact Or.inr ⟨List.mem_append_left _ h1, Or.inr (p3 f h1 _ List.mem_cons_self)⟩
    · rcases List.mem_cons.1 h1 with h1 | h1
      · exact Or.inl h1
      · exact Or.inr ⟨List.mem_append_right _ (List.mem_cons_of_mem _ h1), Or.inl (p4 f h1)⟩
  refine ⟨⟨hc.os.trans h.below.os, hc.tape.trans h.below.tape, hc.output.trans h.below.output, Nat.le_trans h.below.size hc.size, fun q hq => ?_⟩, fun f hf' => ?_, fun f hf' => ?_, fun f hf' => ?_, fun f hf' => ?_, ?_⟩
  · exact (hc.block q (Nat.lt_of_lt_of_le hq h.below.size) (fun e => by have := (hp q e).1; have hlo' : w0.heap.size ≤ lo := hlo; omega)).trans (h.below.block q hq)
  · rcases hcase f hf' with rfl | ⟨h1, -⟩
    · exact hf
    · exact h.fact f h1
  · rcases hcase f hf' with rfl | ⟨h1, h2⟩
    · exact ht
    · have hh := h.hi f h1
      exact h.fact f h1 W W' (h.tells f h1) (fun q hq hq' => hc.block q (by omega) (fun e => by have := hp q e; omega))
  · rcases hcase f hf' with rfl | ⟨h1, -⟩
    · exact hlo
    · exact h.lo f h1
  · have hs := hc.size
    rcases hcase f hf' with rfl | ⟨h1, -⟩
    · exact Nat.le_trans (h.hi ⟨lo, hi, T⟩ hm) hs
    · exact Nat.le_trans (h.hi f h1) hs
  · refine List.pairwise_append.2 ⟨p1, List.pairwise_cons.2 ⟨p4, p5⟩, fun a ha b hb => ?_⟩
    rcases List.mem_cons.1 hb with rfl | hb
    · exact p3 a ha ⟨lo, hi, T⟩ List.mem_cons_self
    · exact p3 a ha b (List.mem_cons_of_mem _ hb)

/-- What a new slice tells. -/
theorem Held.slice {w0 W W' : World} {l : List Fc} (h : Held w0 l W) (hb : Below W.heap.size W W') {t : TypeId} {sz : Nat} {v : Value} {n : Nat} {F : Nat → Value} (hs : SliceR t sz W.heap.size W' v n F) : Held w0 (⟨W.heap.size, W'.heap.size, fun X => SliceR t sz W.heap.size X v n F⟩ :: l) W' :=
  h.add hb (fact_slice F (fun h0 q e => by obtain ⟨g, e1, -, h2⟩ := hs.block h0; rw [e1] at e; cases e; exact h2)) hs

/-- A heap is laid into a new block. -/
theorem Held.lay {w0 W : World} {l : List Fc} (h : Held w0 l W) (v : Value) (n : HpN) :
    Held w0 (⟨W.heap.size, W.heap.size + 1, fun X => HeapBlk X W.heap.size v n⟩ :: l) (W.alloc (.cells #[v, .int .i64 n.size, .int .i64 n.to, .int .i64 n.bottom, .int .i64 n.top, .int .i64 n.scan, .int .i64 n.fb, .int .i64 n.ft, .int .i64 n.flips, .int .i64 n.touched] 27)) := by
  have e : (W.alloc (.cells #[v, .int .i64 n.size, .int .i64 n.to, .int .i64 n.bottom, .int .i64 n.top, .int .i64 n.scan, .int .i64 n.fb, .int .i64 n.ft, .int .i64 n.flips, .int .i64 n.touched] 27)).heap.size = W.heap.size + 1 := by simp
  have k := h.add ((Below.refl _ W).alloc (Nat.le_refl _) (.cells #[v, .int .i64 n.size, .int .i64 n.to, .int .i64 n.bottom, .int .i64 n.top, .int .i64 n.scan, .int .i64 n.fb, .int .i64 n.ft, .int .i64 n.flips, .int .i64 n.touched] 27)) (T := fun X => HeapBlk X W.heap.size v n) (fact_heap v n (Nat.le_refl _) (by rw [e]; omega)) (HeapBlk.new _ _ _)
  rw [e] at k
  exact k

/-- A slice is marked. -/
theorem Held.mark {w0 W W1 W' : World} (l1 : List Fc) {l2 : List Fc} {lo hi B : Nat} {t : TypeId} {sz : Nat} {v : Value} {n : Nat} {F G : Nat → Value} (h : Held w0 (l1 ++ ⟨lo, hi, fun X => SliceR t sz lo X v n F⟩ :: l2) W) (hu : n ≠ 0 → ∀ q, v.ownBlock = some q → q < hi) (hk : Below W.heap.size W W1) (ht : Turned W1 W' v n) (hG : SliceR t sz B W' v n G) : Held w0 (l1 ++ ⟨lo, hi, fun X => SliceR t sz lo X v n G⟩ :: l2) W' := by
  have hs := h.tells _ (List.mem_append_right l1 List.mem_cons_self)
  refine (h.keep hk).chg l1 (P := fun q => n ≠ 0 ∧ v.ownBlock = some q) (Chg.of_turned ht (fun q h0 e => ⟨h0, e⟩)) (fun q hq => ⟨?_, hu hq.1 q hq.2⟩) (fact_slice G hu) ?_
  · obtain ⟨g, e1, h1, -⟩ := hs.block hq.1
    rw [e1] at hq
    cases hq.2
    exact h1
  · obtain ⟨ad, cap, e, h1⟩ := hG
    obtain ⟨ad', cap', e', h2⟩ := hs
    by_cases h0 : n = 0
    · exact ⟨ad, cap, e, Or.inl h0⟩
    · obtain ⟨g, rfl, _, hr⟩ := h1.resolve_left h0
      obtain ⟨g', e2, hB, _⟩ := h2.resolve_left h0
      rw [e] at e'
      cases e'
      cases e2
      exact ⟨_, cap, e, Or.inr ⟨g, rfl, hB, hr⟩⟩
end Go.Proofs.Ytnoobonlmfgfhaa

/- HeapGraph: both sides answer the same, whatever they are given. -/
namespace Go.Proofs.Ytnoobonlmfgfhaa
open Go.RowKit

theorem SliceR.congr {t : TypeId} {sz B : Nat} {w : World} {v : Value} {n : Nat} {F G : Nat → Value} (h : SliceR t sz B w v n F) (e : ∀ i, i < n * sz → F i = G i) : SliceR t sz B w v n G := by
  obtain ⟨ad, cap, hv, h⟩ := h
  exact ⟨ad, cap, hv, h.imp id (fun ⟨g, h1, h2, h3⟩ => ⟨g, h1, h2, h3.congr e⟩)⟩

theorem pairs_len (a b : Nat → Value) : ∀ n, ((List.range n).flatMap (fun i => [a i, b i])).length = n * 2
  | 0 => rfl
  | n + 1 => by
    rw [List.range_succ, List.flatMap_append, List.length_append, pairs_len a b n]
    simp
    omega

theorem pairs_at (a b : Nat → Value) : ∀ n c, c < n * 2 → ((List.range n).flatMap (fun i => [a i, b i])).getD c undef = if c % 2 = 0 then a (c / 2) else b (c / 2)
  | 0, c, h => by omega
  | n + 1, c, h => by
    have hl := pairs_len a b n
    rw [List.range_succ, List.flatMap_append, List.getD_eq_getElem?_getD]
    by_cases hc : c < n * 2
    · rw [List.getElem?_append_left (by omega), ← List.getD_eq_getElem?_getD]
      exact pairs_at a b n c hc
    · rw [List.getElem?_append_right (by omega), hl]
      have h2 : c = n * 2 ∨ c = n * 2 + 1 := by omega
      rcases h2 with rfl | rfl
      · rw [if_pos (by omega), show n * 2 - n * 2 = 0 by omega, show n * 2 / 2 = n by omega]
        simp
      · rw [if_neg (by omega), show n * 2 + 1 - n * 2 = 1 by omega, show (n * 2 + 1) / 2 = n by omega]
        simp

theorem words_at (ys : List Int) : ∀ i, i < ys.length → (ys.map (fun x => Value.int .i64 x)).getD i undef = intCells ys i := by
  intro i hi
  unfold intCells
  simp [List.getD, hi]

/-- The kinds and the fields that are told. -/
def kindOf (os : List (Int × List Int)) (i : Nat) : Int := (os.getD i (0, [])).1
def fieldsOf (os : List (Int × List Int)) (i : Nat) : List Int := (os.getD i (0, [])).2

/-- Objects, a list and a bool are told, in new memory. -/
def ToldG (W : World) (os : List (Int × List Int)) (ys : List Int) (ok : Bool) (e : Ending) (w' : World) : Prop :=
  (∃ v u fv, e = .returned (.tuple #[v, u, .bool ok]) ∧ ObR W.heap.size w' v os.length (kindOf os) fv (fun i => (fieldsOf os i).length) (fun i => intCells (fieldsOf os i)) ∧ SliceR 3 1 W.heap.size w' u ys.length (intCells ys)) ∧ Below W.heap.size W w'

/-- Beside: no two of its rows are one. -/
def ToldGI (W : World) (os : List (Int × List Int)) (ys : List Int) (ok : Bool) (e : Ending) (w' : World) : Prop :=
  (∃ v u fv, e = .returned (.tuple #[v, u, .bool ok]) ∧ ObR W.heap.size w' v os.length (kindOf os) fv (fun i => (fieldsOf os i).length) (fun i => intCells (fieldsOf os i)) ∧ SliceR 3 1 W.heap.size w' u ys.length (intCells ys) ∧ ObA v os.length fv (fun i => (fieldsOf os i).length) ∧ (∀ q, ObB v os.length fv (fun i => (fieldsOf os i).length) q → ys.length ≠ 0 → u.ownBlock ≠ some q)) ∧ Below W.heap.size W w'

theorem toldG_none {W w' : World} {e : Ending} (h : e = .returned (.tuple #[.slice none 0 0, .slice none 0 0, .bool false]) ∧ Below W.heap.size W w') : ToldG W [] [] false e w' :=
  ⟨⟨_, _, fun _ => .slice none 0 0, h.1, ⟨⟨none, 0, rfl, Or.inl rfl⟩, fun i hi => absurd hi (by simp)⟩, ⟨none, 0, rfl, Or.inl rfl⟩⟩, h.2⟩

theorem toldGI_none {W w' : World} {e : Ending} (h : e = .returned (.tuple #[.slice none 0 0, .slice none 0 0, .bool false]) ∧ Below W.heap.size W w') : ToldGI W [] [] false e w' :=
  ⟨⟨_, _, fun _ => .slice none 0 0, h.1, ⟨⟨none, 0, rfl, Or.inl rfl⟩, fun i hi => absurd hi (by simp)⟩, ⟨none, 0, rfl, Or.inl rfl⟩, ⟨fun i hi => absurd hi (by simp), fun i j hi => absurd hi (by simp)⟩, fun q _ h => absurd rfl h⟩, h.2⟩

/-- How many objects are told. -/
def Ends (ws xs : List Int) (K : Nat) : Prop := (∀ j, j < K → j < (graphRun ws j (tellsRun ws xs xs.length []).1).1.length) ∧ (graphRun ws K (tellsRun ws xs xs.length []).1).1.length ≤ K

theorem Ends.one {ws xs : List Int} {K K' : Nat} (h : Ends ws xs K) (h' : Ends ws xs K') : K = K' := by
  rcases Nat.lt_trichotomy K K' with hlt | rfl | hlt
  · have := h'.1 K hlt
    have := h.2
    omega
  · rfl
  · have := h.1 K' hlt
    have := h'.2
    omega

theorem ends_some {ws S xs : List Int} {h : HpN} (ok : OkHeap ws S h) (hx : ∀ i, i < xs.length → Leads ws S (xs.getD i 0)) : ∃ K, Ends ws xs K := by
  have hm := (Met.tells ok (met := []) ⟨List.nodup_nil, fun a ha => by cases ha⟩ hx xs.length (Nat.le_refl _)).1
  have hall : ∀ k, (∀ j, j < k → j < (graphRun ws j (tellsRun ws xs xs.length []).1).1.length) ∨ ∃ K, Ends ws xs K := by
    intro k
    induction k with
    | zero => exact Or.inl (fun j hj => by omega)
    | succ k ih =>
      rcases ih with ih | ih
      · by_cases hk : k < (graphRun ws k (tellsRun ws xs xs.length []).1).1.length
        · refine Or.inl (fun j hj => ?_)
          by_cases hjk : j = k
          · subst hjk
            exact hk
          · exact ih j (by omega)
        · exact Or.inr ⟨k, ih, by omega⟩
      · exact Or.inr ih
  rcases hall (ws.length + 1) with h1 | h1
  · exfalso
    have h2 := (hm.graph ok ws.length (fun j hj => h1 j (by omega))).1.short ok
    have h3 := h1 ws.length (by omega)
    omega
  · exact h1

/-- How many there are, and how many fields each has. -/
theorem graph_small {ws S : List Int} {h : HpN} {met : List Nat} (ok : OkHeap ws S h) (m : Met ws S met) : ∀ k, (∀ j, j < k → j < (graphRun ws j met).1.length) → ∀ i, i < k → (fieldsOf (graphRun ws k met).2 i).length ≤ 5
  | 0, _, i, hi => by omega
  | k + 1, hj, i, hi => by
    obtain ⟨h1, -, h3⟩ := m.graph ok k (fun j h => hj j (by omega))
    have hk := hj k (by omega)
    have hn : Node ws S ((graphRun ws k met).1.getD k 0) := h1.nodes _ (by simp [List.getD, hk])
    obtain ⟨hsz, -, hf⟩ := node_at ok hn
    obtain ⟨-, -, h6⟩ := h1.tells ok (xs := fieldsAtZ ws ((graphRun ws k met).1.getD k 0)) (fun i hi => by
      rw [fieldsAtZ_len] at hi
      rw [fieldsAtZ_get hi]
      exact hf i hi) _ (Nat.le_refl _)
    unfold fieldsOf graphRun
    dsimp only
    rw [List.getD_eq_getElem?_getD]
    by_cases hik : i < k
    · rw [List.getElem?_append_left (by omega), ← List.getD_eq_getElem?_getD]
      exact graph_small ok m k (fun j h => hj j (by omega)) i hik
    · rw [List.getElem?_append_right (by omega), show i - (graphRun ws k met).2.length = 0 by omega]
      simp only [List.getElem?_cons_zero, Option.getD_some]
      rw [h6, fieldsAtZ_len]
      omega

theorem toldG_some {ws xs : List Int} {K : Nat} (hK : Ends ws xs K) (hyl : (tellsRun ws xs xs.length []).2.length = xs.length) {W w' : World} {e : Ending} (h : SGraphTold W ws xs e w') : ToldG W (graphRun ws K (tellsRun ws xs xs.length []).1).2 (tellsRun ws xs xs.length []).2 true e w' := by
  obtain ⟨K', vo, vt, vs, h1, h2, rfl, hr, hf, ht, hb⟩ := h
  obtain rfl := hK.one ⟨h1, h2⟩
  generalize (graphRun ws K (tellsRun ws xs xs.length []).1).2 = os at *
  generalize (tellsRun ws xs xs.length []).2 = ys at *
  refine ⟨⟨vo, vt, vs, rfl, ⟨(sliceR_of_owns hr).congr (fun c hc => ?_), fun i hi => (sliceR_of_owns (hf i hi)).congr (fun c hc => ?_)⟩, ?_⟩, hb⟩
  · rw [pairs_at (fun i => .int .i64 (os.getD i (0, [])).1) vs os.length c hc]
    rfl
  · exact words_at _ c (by rw [Nat.mul_one] at hc; exact hc)
  · rw [hyl]
    exact (sliceR_of_owns ht).congr (fun c hc => words_at _ c (by omega))

theorem toldGI_some {ws xs : List Int} {K : Nat} (hK : Ends ws xs K) (hyl : (tellsRun ws xs xs.length []).2.length = xs.length) {W w' : World} {e : Ending} (h : GraphTold W ws xs e w') : ToldGI W (graphRun ws K (tellsRun ws xs xs.length []).1).2 (tellsRun ws xs xs.length []).2 true e w' := by
  obtain ⟨K', vo, gs, gt, h1, h2, rfl, hr, hf, hg, ht, hlt, hne, hb⟩ := h
  obtain rfl := hK.one ⟨h1, h2⟩
  generalize (graphRun ws K (tellsRun ws xs xs.length []).1).2 = os at *
  generalize (tellsRun ws xs xs.length []).2 = ys at *
  refine ⟨⟨vo, _, fun i => .slice (some ⟨gs i, 0, none⟩) (os.getD i (0, [])).2.length (os.getD i (0, [])).2.length, rfl, ⟨(sliceR_of_owns hr).congr (fun c hc => ?_), fun i hi => ?_⟩, ?_, ⟨fun i hi h0 e => ?_, fun i j hi hj hij h0 h0' e => ?_⟩, fun q hq h0 e => ?_⟩, hb⟩
  · unfold objCells
    rw [pairs_at (fun i => .int .i64 (os.getD i (0, [])).1) (fun i => .slice (some ⟨gs i, 0, none⟩) (os.getD i (0, [])).2.length (os.getD i (0, [])).2.length) os.length c hc]
    rfl
  · obtain ⟨f1, f2, -, -⟩ := hf i hi
    exact ⟨_, _, rfl, Or.inr ⟨gs i, rfl, f2, by rw [Nat.mul_one]; exact f1⟩⟩
  · rw [hyl]
    exact ⟨_, _, rfl, Or.inr ⟨gt, rfl, hlt, by rw [Nat.mul_one]; exact ht⟩⟩
  · obtain ⟨-, -, f3, -⟩ := hf i hi
    exact f3 e.symm
  · have e1 : gs i = gs j := Option.some.inj e
    rcases Nat.lt_or_gt_of_ne hij with hlt2 | hlt2
    · exact hg i j hlt2 hj e1
    · exact hg j i hlt2 hi e1.symm
  · have e1 : gt = q := Option.some.inj e
    subst e1
    rcases hq with ⟨-, h3⟩ | ⟨i, hi, -, h3⟩
    · exact hne h3
    · exact (hf i hi).2.2.2 (Option.some.inj h3)

theorem graph_both (bs xs : List Int) (h : HpN) (hm : bs.length ≤ 1048576) (hx : xs.length ≤ 1048576) : ∃ os ys ok, os.length ≤ 8000 ∧ (∀ i, i < os.length → (fieldsOf os i).length ≤ 5) ∧ ys.length ≤ 20 ∧
    (∀ B g B2 rg W, SliceR 3 1 B W (.slice (some ⟨g, 0, none⟩) bs.length bs.length) bs.length (intCells bs) → SliceR 3 1 B2 W (.slice (some ⟨rg, 0, none⟩) xs.length xs.length) xs.length (intCells xs) → Calls Try.prog 28 #[heapV (.slice (some ⟨g, 0, none⟩) bs.length bs.length) h, .slice (some ⟨rg, 0, none⟩) xs.length xs.length] W (ToldG W os ys ok)) ∧
    (∀ B g B2 rg W, SliceR 3 1 B W (.slice (some ⟨g, 0, none⟩) bs.length bs.length) bs.length (intCells bs) → SliceR 3 1 B2 W (.slice (some ⟨rg, 0, none⟩) xs.length xs.length) xs.length (intCells xs) → Calls Try.prog 29 #[heapV (.slice (some ⟨g, 0, none⟩) bs.length bs.length) h, .slice (some ⟨rg, 0, none⟩) xs.length xs.length] W (ToldGI W os ys ok)) := by
  by_cases ho : Ordered h bs.length
  case neg =>
    exact ⟨[], [], _, by simp, by simp, by simp, fun B g B2 rg W _ _ => (sGraph_notOk g 0 bs.length bs.length h rg xs.length xs.length W (fun X _ => specOk_bad _ _ _ h X hm ho)).mono (fun _ _ => toldG_none), fun B g B2 rg W _ _ => (iGraph_notOk g 0 bs.length bs.length h rg xs.length xs.length W (fun X _ => layOut_bad _ _ _ h X ho)).mono (fun _ _ => toldGI_none)⟩
  obtain ⟨o1, o2, o3, o4, o5, o6, o7, o8, o9, o10, o11, o12, o13⟩ := id ho
  have hN0 : bs.length ≠ 0 := by omega
  have hN8 : bs.length ≤ 8000 := by omega
  have SOk : ∀ B g W, SliceR 3 1 B W (.slice (some ⟨g, 0, none⟩) bs.length bs.length) bs.length (intCells bs) → ∀ X, Below W.heap.size W X → Calls Try.prog 10 #[heapV (.slice (some ⟨g, 0, none⟩) bs.length bs.length) h] X fun e w' => e = .returned (.bool (specOk bs h)) ∧ Below X.heap.size X w' := fun B g W hs X hX =>
    specOk_calls g 0 bs.length bs.length bs h X rfl ho (row_kept hN0 hs hX).1 (row_kept hN0 hs hX).2
  have ILy : ∀ B g W, SliceR 3 1 B W (.slice (some ⟨g, 0, none⟩) bs.length bs.length) bs.length (intCells bs) → ∀ X, Below W.heap.size W X → Calls Try.prog 40 #[heapV (.slice (some ⟨g, 0, none⟩) bs.length bs.length) h] X (LayTold g 0 bs.length bs.length bs h X) := fun B g W hs X hX =>
    layOut_calls g 0 bs.length bs.length bs h X rfl ho (Nat.le_refl _) (row_kept hN0 hs hX).1 (row_kept hN0 hs hX).2
  cases hk : specOk bs h with
  | false =>
    have hki : implOk bs h = false := by rw [← ok_same ho]; exact hk
    rw [hk] at SOk
    refine ⟨[], [], _, by simp, by simp, by simp, fun B g B2 rg W hs _ => (sGraph_notOk g 0 bs.length bs.length h rg xs.length xs.length W (SOk B g W hs)).mono (fun _ _ => toldG_none), fun B g B2 rg W hs _ => (iGraph_notOk g 0 bs.length bs.length h rg xs.length xs.length W (fun X hX => (ILy B g W hs X hX).mono ?_)).mono (fun _ _ => toldGI_none)⟩
    rintro e w' ⟨hres, hb'⟩
    rcases hres with ⟨_, e1⟩ | ⟨S, gb, _, e2, _⟩
    · exact ⟨e1, hb'⟩
    · rw [hki] at e2
      cases e2
  | true =>
    have hki : implOk bs h = true := by rw [← ok_same ho]; exact hk
    rw [hk] at SOk
    obtain ⟨S, ok⟩ := ok_facts ho hk
    have ILg : ∀ B g W, SliceR 3 1 B W (.slice (some ⟨g, 0, none⟩) bs.length bs.length) bs.length (intCells bs) → ∀ X, Below W.heap.size W X → Calls Try.prog 40 #[heapV (.slice (some ⟨g, 0, none⟩) bs.length bs.length) h] X fun e w' => ∃ gb, e = .returned (.tuple #[layV (.slice (some ⟨g, 0, none⟩) bs.length bs.length) h (.slice (some ⟨gb, 0, none⟩) bs.length bs.length), .bool true]) ∧ Hid (ISt g 0 gb bs.length bs S w') ∧ Below X.heap.size X w' := fun B g W hs X hX => (ILy B g W hs X hX).mono (by
      rintro e w' ⟨hres, hb'⟩
      rcases hres with ⟨e1, _⟩ | ⟨S', gb, e1, _, e2, _, e3⟩
      · rw [hki] at e1
        cases e1
      · rw [ok.impl] at e1
        cases e1
        exact ⟨gb, e2, e3, hb'⟩)
    have IRt : ∀ g B2 rg W, SliceR 3 1 B2 W (.slice (some ⟨rg, 0, none⟩) xs.length xs.length) xs.length (intCells xs) → ∀ (X : World) (gb : Nat), Below W.heap.size W X → ISt g 0 gb bs.length bs S X → Calls Try.prog 46 #[layV (.slice (some ⟨g, 0, none⟩) bs.length bs.length) h (.slice (some ⟨gb, 0, none⟩) bs.length bs.length), .slice (some ⟨rg, 0, none⟩) xs.length xs.length] X fun e w' => e = .returned (.bool (decide (xs.length ≤ 20) && implRoots S h xs)) ∧ Below X.heap.size X w' := fun g B2 rg W hr X gb hX hI => rootsOk_calls (some ⟨rg, 0, none⟩) xs.length g 0 bs.length gb bs.length bs S h xs X ho hI (hr.below hX).intSlice hx
    by_cases hn : xs.length ≤ 20
    case neg =>
      rw [decide_eq_false hn, Bool.false_and] at IRt
      exact ⟨[], [], _, by simp, by simp, by simp, fun B g B2 rg W hs _ => (sGraph_many g 0 bs.length bs.length h rg xs.length xs.length W (by omega) (SOk B g W hs)).mono (fun _ _ => toldG_none), fun B g B2 rg W hs hr => (iGraph_noRoot g 0 bs.length bs.length h rg xs.length xs.length W bs S (ILg B g W hs) (IRt g B2 rg W hr)).mono (fun _ _ => toldGI_none)⟩
    have hn2 : ¬ (20 : Int) < (xs.length : Int) := by omega
    rw [decide_eq_true hn, Bool.true_and] at IRt
    have SRt : ∀ B g B2 rg W, SliceR 3 1 B W (.slice (some ⟨g, 0, none⟩) bs.length bs.length) bs.length (intCells bs) → SliceR 3 1 B2 W (.slice (some ⟨rg, 0, none⟩) xs.length xs.length) xs.length (intCells xs) → ∀ X, Below W.heap.size W X → Calls Try.prog 42 #[heapV (.slice (some ⟨g, 0, none⟩) bs.length bs.length) h, .slice (some ⟨rg, 0, none⟩) xs.length xs.length] X fun e w' => e = .returned (.bool (specRoots bs S h xs)) ∧ Below X.heap.size X w' := fun B g B2 rg W hs hr X hX => specRoots_calls g 0 bs.length bs.length bs S h _ xs X rfl ho ok.spec (row_kept hN0 hs hX).1 (row_kept hN0 hs hX).2 (hr.below hX).intSlice hn
    have hsame : specRoots bs S h xs = implRoots S h xs := (roots_same ok xs).symm
    have hsame2 := hsame
    rw [hsame] at SRt
    cases hro : implRoots S h xs with
    | false =>
      rw [hro] at SRt IRt
      exact ⟨[], [], _, by simp, by simp, by simp, fun B g B2 rg W hs hr => (sGraph_noRoot g 0 bs.length bs.length h rg xs.length xs.length W hn2 (SOk B g W hs) (SRt B g B2 rg W hs hr)).mono (fun _ _ => toldG_none), fun B g B2 rg W hs hr => (iGraph_noRoot g 0 bs.length bs.length h rg xs.length xs.length W bs S (ILg B g W hs) (IRt g B2 rg W hr)).mono (fun _ _ => toldGI_none)⟩
    | true =>
      rw [hro] at SRt IRt hsame2
      have hle : ∀ i, i < xs.length → Leads bs S (xs.getD i 0) := fun i hi => by
        unfold specRoots at hsame2
        rw [List.all_eq_true] at hsame2
        exact leads_of (hsame2 i (List.mem_range.2 hi))
      obtain ⟨K, hK⟩ := ends_some ok hle
      have ht := Met.tells ok (met := []) ⟨List.nodup_nil, fun a ha => by cases ha⟩ hle xs.length (Nat.le_refl _)
      have hyl := ht.2.2
      have hg := ht.1.graph ok K hK.1
      have hKN : (graphRun bs K (tellsRun bs xs xs.length []).1).2.length ≤ 8000 := by
        rw [hg.2.2]
        by_cases h0 : K = 0
        · omega
        · have h1 := hK.1 (K - 1) (by omega)
          have h2 := (ht.1.graph ok (K - 1) (fun j hj => hK.1 j (by omega))).1.short ok
          omega
      have HW : ∀ B g W, SliceR 3 1 B W (.slice (some ⟨g, 0, none⟩) bs.length bs.length) bs.length (intCells bs) → Wds g 0 bs.length bs W := fun B g W hs => ⟨rfl, (row_kept hN0 hs (Below.refl _ _)).1, (row_kept hN0 hs (Below.refl _ _)).2⟩
      have HLs : ∀ B2 rg W, SliceR 3 1 B2 W (.slice (some ⟨rg, 0, none⟩) xs.length xs.length) xs.length (intCells xs) → ListAt rg 0 xs W := fun B2 rg W hr => ⟨fun h0 => (row_kept (by omega) hr (Below.refl _ _)).1, fun k hk => (row_kept (by omega) hr (Below.refl _ _)).2 k hk⟩
      refine ⟨_, _, true, hKN, fun i hi => graph_small ok ht.1 K hK.1 i (by rw [hg.2.2] at hi; exact hi), by rw [hyl]; exact hn, fun B g B2 rg W hs hr => (sGraph_good g 0 bs.length bs.length h rg xs.length xs.length W bs S xs ok (HW B g W hs) hN8 (HLs B2 rg W hr) rfl hn hle (SOk B g W hs) (SRt B g B2 rg W hs hr)).mono (fun _ _ => toldG_some hK hyl), fun B g B2 rg W hs hr => (iGraph_good g 0 bs.length bs.length h rg xs.length xs.length W bs S xs ok (HW B g W hs) hN8 (Nat.le_refl _) (HLs B2 rg W hr) rfl hn hle (ILg B g W hs) (IRt g B2 rg W hr)).mono (fun _ _ => toldGI_some hK hyl)⟩
end Go.Proofs.Ytnoobonlmfgfhaa

/- A heap that is handed in: its numbers are numbers of 64 bits. -/
namespace Go.Proofs.Ytnoobonlmfgfhaa
open Go.RowKit
section
open Go.Deep Go.ChangeShapes Go.WideShapes
variable {H : Type} {enc : TypeId × Value → H} {W : World} {sp : Nat → Bool} {held : Bool}

set_option maxRecDepth 100000 in
/-- A heap that is handed in, out of its cells. -/
theorem open_heapT {fuel : Nat} {cs : List Value} {x : DataW H × List MemPlace} (h : DataW.trod enc Try.prog W 0 sp held fuel 24 cs = some x) :
    ∃ v bs, ∃ n : HpN, cs = [v, .int .i64 n.size, .int .i64 n.to, .int .i64 n.bottom, .int .i64 n.top, .int .i64 n.scan, .int .i64 n.fb, .int .i64 n.ft, .int .i64 n.flips, .int .i64 n.touched] ∧ IntSlice W v bs ∧ bs.length ≤ maxLen ∧ n.touched < 9223372036854775808 := by
  obtain ⟨xs, k, hk, hxy, hcl, hxl, hf⟩ := DataW.trod_struct Try.underlying24 h
  rw [Try.cellsHeap] at hcl
  match xs, hxl, cs, hcl with
  | [y0, y1, y2, y3, y4, y5, y6, y7, y8, y9], _, [v0, v1, v2, v3, v4, v5, v6, v7, v8, v9], _ =>
    have g0 := hf 0 _ rfl
    have g1 := hf 1 _ rfl
    have g2 := hf 2 _ rfl
    have g3 := hf 3 _ rfl
    have g4 := hf 4 _ rfl
    have g5 := hf 5 _ rfl
    have g6 := hf 6 _ rfl
    have g7 := hf 7 _ rfl
    have g8 := hf 8 _ rfl
    have g9 := hf 9 _ rfl
    simp [Try.cellsInt, Try.cellsInts] at g0 g1 g2 g3 g4 g5 g6 g7 g8 g9
    obtain ⟨bs, hb, hl⟩ := open_intS g0
    obtain ⟨i1, e1, _⟩ := DataW.trod_int Try.underlying3 g1
    obtain ⟨i2, e2, _⟩ := DataW.trod_int Try.underlying3 g2
    obtain ⟨i3, e3, _⟩ := DataW.trod_int Try.underlying3 g3
    obtain ⟨i4, e4, _⟩ := DataW.trod_int Try.underlying3 g4
    obtain ⟨i5, e5, _⟩ := DataW.trod_int Try.underlying3 g5
    obtain ⟨i6, e6, _⟩ := DataW.trod_int Try.underlying3 g6
    obtain ⟨i7, e7, _⟩ := DataW.trod_int Try.underlying3 g7
    obtain ⟨i8, e8, _⟩ := DataW.trod_int Try.underlying3 g8
    obtain ⟨i9, e9, _, w9⟩ := DataW.trod_int Try.underlying3 g9
    have h9 : i9 < 9223372036854775808 := by
      simp [Lit.wf] at w9
      omega
    simp at e1 e2 e3 e4 e5 e6 e7 e8 e9
    subst e1 e2 e3 e4 e5 e6 e7 e8 e9
    exact ⟨v0, bs, ⟨i1, i2, i3, i4, i5, i6, i7, i8, i9⟩, rfl, hb, hl, h9⟩
end
end Go.Proofs.Ytnoobonlmfgfhaa
