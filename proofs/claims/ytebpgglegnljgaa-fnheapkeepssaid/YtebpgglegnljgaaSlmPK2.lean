import Derived.Test.YtebpgglegnljgaaSlmPK1
import Derived.Deep.RegionHeld3
import Derived.Test.YtebpgglegnljgaaSlmPK0
namespace Go.Proofs.Ytebpgglegnljgaa
open Go.RowKit

def WkBlk (w : World) (b : Nat) (v : Value) (h : HpN) (tau : Int) (full : Bool) : Prop := w.heap[b]? = some (.cells #[v, .int .i64 h.size, .int .i64 h.to, .int .i64 h.bottom, .int .i64 h.top, .int .i64 h.scan, .int .i64 h.fb, .int .i64 h.ft, .int .i64 h.flips, .int .i64 tau, .bool full] 82)

theorem WkBlk.cells {w : World} {b : Nat} {v : Value} {h : HpN} {tau : Int} {full : Bool} (e : WkBlk w b v h tau full) :
    w.cell? ⟨b, 0, none⟩ = some v ∧ w.cell? ⟨b, 1, none⟩ = some (.int .i64 h.size) ∧ w.cell? ⟨b, 2, none⟩ = some (.int .i64 h.to) ∧ w.cell? ⟨b, 3, none⟩ = some (.int .i64 h.bottom) ∧ w.cell? ⟨b, 4, none⟩ = some (.int .i64 h.top) ∧ w.cell? ⟨b, 5, none⟩ = some (.int .i64 h.scan) ∧ w.cell? ⟨b, 6, none⟩ = some (.int .i64 h.fb) ∧ w.cell? ⟨b, 7, none⟩ = some (.int .i64 h.ft) ∧ w.cell? ⟨b, 8, none⟩ = some (.int .i64 h.flips) ∧ w.cell? ⟨b, 9, none⟩ = some (.int .i64 tau) ∧ w.cell? ⟨b, 10, none⟩ = some (.bool full) := by
  refine ⟨?_, ?_, ?_, ?_, ?_, ?_, ?_, ?_, ?_, ?_, ?_⟩ <;> · rw [cell_of_heap e]; rfl

def touchZ (s : CN) : Int := wrap64 (s.h.touched + (s.r + s.t))

structure Wk (w0 : World) (bm bw N cap : Nat) (s : CN) (full : Bool) (W : World) : Prop where
  blk : WkBlk W bm (.slice (some ⟨bw, 0, none⟩) N cap) s.h (touchZ s) full
  row : CellRow 3 W bw N (intCells s.ws)
  len : s.ws.length = N
  ne : bm ≠ bw
  frame : Frm w0 bm bw W

theorem Wk.keep {w0 W W' : World} {bm bw N cap : Nat} {s : CN} {full : Bool} (c : Wk w0 bm bw N cap s full W) (hb : Below W.heap.size W W') : Wk w0 bm bw N cap s full W' :=
  ⟨(hb.block bm (heap_lt c.blk)).trans c.blk, c.row.of_block (hb.block bw c.row.lt), c.len, c.ne, c.frame.keep hb⟩

theorem Wk.rebase {w0 W : World} {bm bw N cap : Nat} {s : CN} {full : Bool} (c : Wk w0 bm bw N cap s full W) (w1 : World) (f : Frm w1 bm bw W) : Wk w1 bm bw N cap s full W := ⟨c.blk, c.row, c.len, c.ne, f⟩

theorem touch_more (s : CN) (r' t' : Int) (h : r' + t' = s.r + s.t + 1) : wrap64 (touchZ s + 1) = touchZ ⟨s.ws, s.h, r', t'⟩ := by
  unfold touchZ
  dsimp only
  rw [h]
  unfold wrap64
  omega

theorem Wk.touched {w0 W : World} {bm bw N cap : Nat} {s : CN} {full : Bool} (c : Wk w0 bm bw N cap s full W) (r' t' : Int) (h : r' + t' = s.r + s.t + 1) : Wk w0 bm bw N cap ⟨s.ws, s.h, r', t'⟩ full (W.setCell ⟨bm, 9, none⟩ (.int .i64 (wrap64 (touchZ s + 1)))) := by
  refine ⟨?_, c.row.of_block (Below.heap_setCell _ _ _ _ (fun e => c.ne e.symm)), c.len, c.ne, c.frame.set (Or.inl rfl) _⟩
  rw [touch_more s r' t' h]
  simpa [WkBlk] using set_block c.blk 9 (.int .i64 (touchZ ⟨s.ws, s.h, r', t'⟩))

theorem Wk.word {w0 W : World} {bm bw N cap : Nat} {s : CN} {full : Bool} (c : Wk w0 bm bw N cap s full W) {i : Nat} (hi : i < N) (x : Int) : Wk w0 bm bw N cap { s with ws := s.ws.set i x } full (W.setCell ⟨bw, i, none⟩ (.int .i64 x)) := by
  obtain ⟨N', f, hrow, hN', hf⟩ := c.row
  refine ⟨(Below.heap_setCell _ _ _ _ c.ne).trans c.blk, ⟨N', _, hrow.set i _, hN', int_set s.ws i (by rw [c.len]; exact hi) x hf⟩, by dsimp only; rw [List.length_set]; exact c.len, c.ne, c.frame.set (Or.inr rfl) _⟩

theorem Wk.bottom {w0 W : World} {bm bw N cap : Nat} {s : CN} {full : Bool} (c : Wk w0 bm bw N cap s full W) (x : Int) : Wk w0 bm bw N cap { s with h := { s.h with bottom := x } } full (W.setCell ⟨bm, 3, none⟩ (.int .i64 x)) :=
  ⟨by simpa [WkBlk, touchZ] using set_block c.blk 3 (.int .i64 x), c.row.of_block (Below.heap_setCell _ _ _ _ (fun e => c.ne e.symm)), c.len, c.ne, c.frame.set (Or.inl rfl) _⟩

theorem Wk.filled {w0 W : World} {bm bw N cap : Nat} {s : CN} {full : Bool} (c : Wk w0 bm bw N cap s full W) (b : Bool) : Wk w0 bm bw N cap s b (W.setCell ⟨bm, 10, none⟩ (.bool b)) :=
  ⟨by simpa [WkBlk, touchZ] using set_block c.blk 10 (.bool b), c.row.of_block (Below.heap_setCell _ _ _ _ (fun e => c.ne e.symm)), c.len, c.ne, c.frame.set (Or.inl rfl) _⟩

theorem Wk.scanned {w0 W : World} {bm bw N cap : Nat} {s : CN} {full : Bool} (c : Wk w0 bm bw N cap s full W) (x : Int) : Wk w0 bm bw N cap { s with h := { s.h with scan := x } } full (W.setCell ⟨bm, 5, none⟩ (.int .i64 x)) :=
  ⟨by simpa [WkBlk, touchZ] using set_block c.blk 5 (.int .i64 x), c.row.of_block (Below.heap_setCell _ _ _ _ (fun e => c.ne e.symm)), c.len, c.ne, c.frame.set (Or.inl rfl) _⟩

set_option maxRecDepth 100000 in
theorem sread_calls {w0 W : World} {bm bw N cap : Nat} {s : CN} (c : Wk w0 bm bw N cap s false W) {i : Nat} (hi : i < N) :
    Calls Try.prog 81 #[.pointer (some ⟨bm, 0, none⟩), .int .i64 (i : Int)] W fun e w' => e = .returned (.int .i64 (s.ws.getD i 0)) ∧ Wk w0 bm bw N cap ⟨s.ws, s.h, s.r + 1, s.t⟩ false w' := by
  have HC := hid (c.touched (s.r + 1) s.t (by omega))
  have HK := hid c
  obtain ⟨c0, -, -, -, -, -, -, -, -, c9, c10⟩ := c.blk.cells
  have f9 := frozen_of_heap c.blk 9
  have q0 := c.row.cell (i := i) hi
  unfold intCells at q0
  have hne := c.ne
  clear c
  generalize touchZ s = tau at *
  go_enter Try.func81, Try.ntmps81
  go_wp2_with fail
  go_ret
  exact ⟨rfl, HC.out⟩

set_option maxRecDepth 100000 in
theorem swrite_calls {w0 W : World} {bm bw N cap : Nat} {s : CN} (c : Wk w0 bm bw N cap s false W) {i : Nat} (hi : i < N) (x : Int) :
    Calls Try.prog 76 #[.pointer (some ⟨bm, 0, none⟩), .int .i64 (i : Int), .int .i64 x] W fun e w' => e = .returned (.tuple #[]) ∧ Wk w0 bm bw N cap ⟨s.ws.set i x, s.h, s.r, s.t + 1⟩ false w' := by
  have HC := hid ((c.touched s.r (s.t + 1) (by omega)).word hi x)
  obtain ⟨c0, -, -, -, -, -, -, -, -, c9, c10⟩ := c.blk.cells
  have f9 := frozen_of_heap c.blk 9
  have q0 := c.row.cell (i := i) hi
  obtain ⟨_, _, hrow, _, _⟩ := c.row
  have q1 := hrow.frozen i hi
  clear hrow
  unfold intCells at q0
  have hne := c.ne
  clear c
  generalize touchZ s = tau at *
  go_enter Try.func76, Try.ntmps76
  go_wp2_with fail
  go_end0
  exact ⟨rfl, HC.out⟩

set_option maxRecDepth 100000 in
theorem swrite_full {w0 W : World} {bm bw N cap : Nat} {s : CN} (c : Wk w0 bm bw N cap s true W) (i x : Int) :
    Calls Try.prog 76 #[.pointer (some ⟨bm, 0, none⟩), .int .i64 i, .int .i64 x] W fun e w' => e = .returned (.tuple #[]) ∧ W = w' := by
  obtain ⟨-, -, -, -, -, -, -, -, -, -, c10⟩ := c.blk.cells
  clear c
  go_enter Try.func76, Try.ntmps76
  go_wp2_with fail
  exact bodyPost_ret (v := .tuple #[]) (by simp [results, Try.results76, go_sem]) rfl ⟨rfl, rfl⟩

def hereZ (h : HpN) (x : Int) : Bool := if x % 8 = 0 then inZ h (x / 8) else true

set_option maxRecDepth 100000 in
theorem here_calls {w0 W : World} {bm bw N cap : Nat} {s : CN} {full : Bool} (c : Wk w0 bm bw N cap s full W) (x : Int) (h0 : 0 ≤ s.h.to) (h1 : s.h.to ≤ 4000) (h2 : 0 ≤ s.h.size) (h3 : s.h.size ≤ 4000) :
    Calls Try.prog 82 #[.pointer (some ⟨bm, 0, none⟩), .int .i64 x] W fun e w' => e = .returned (.bool (hereZ s.h x)) ∧ Below W.heap.size W w' := by
  have HT := hid (fun w => specTag_calls x w)
  have HNum := hid (fun w => specNum_calls x w)
  unfold tagZ at HT
  unfold numZ at HNum
  obtain ⟨-, c1, c2, -, -, -, -, -, -, -, -⟩ := c.blk.cells
  clear c
  by_cases ht : x % 8 = 0
  · rw [ht] at HT
    have hA : hereZ s.h x = decide (s.h.to ≤ x / 8 ∧ x / 8 < s.h.to + s.h.size) := by unfold hereZ inZ; rw [if_pos ht]
    rw [hA]
    clear hA ht
    generalize x / 8 = k at *
    generalize s.h.to = g2 at *
    generalize s.h.size = g1 at *
    by_cases hc1 : g2 ≤ k
    · by_cases hc2 : k < g2 + g1
      all_goals
        go_enter Try.func82, Try.ntmps82
        go_wp2_with fail
        refine (HT.out _).mono ?_
        rintro e w1 ⟨rfl, rfl⟩
        go_wp2_with fail
        refine (HNum.out _).mono ?_
        rintro e w1 ⟨rfl, rfl⟩
        go_wp2_with fail
        go_quiet (fail)
        go_wp2_with fail
        go_ret
        exact ⟨by simp [hc1, hc2], below_drewN (Below.refl _ _) _⟩
    · have e1 : decide (g2 ≤ k) = false := decide_eq_false hc1
      go_enter Try.func82, Try.ntmps82
      go_wp2_with fail
      refine (HT.out _).mono ?_
      rintro e w1 ⟨rfl, rfl⟩
      go_wp2_with fail
      refine (HNum.out _).mono ?_
      rintro e w1 ⟨rfl, rfl⟩
      go_wp2_with fail
      go_quiet (fail)
      go_wp2_with fail
      go_ret
      exact ⟨by rw [decide_eq_false (show ¬ (g2 ≤ k ∧ k < g2 + g1) by omega)]; rfl, below_drewN (Below.refl _ _) _⟩
  · have hA : hereZ s.h x = true := by unfold hereZ; rw [if_neg ht]
    rw [hA]
    clear hA
    generalize x % 8 = t at *
    go_enter Try.func82, Try.ntmps82
    go_wp2_with fail
    refine (HT.out _).mono ?_
    rintro e w1 ⟨rfl, rfl⟩
    go_wp2_with fail
    go_ret
    exact ⟨rfl, Below.refl _ _⟩
end Go.Proofs.Ytebpgglegnljgaa

namespace Go.Proofs.Ytebpgglegnljgaa
open Go.RowKit

structure OkHeap (ws S : List Int) (h : HpN) : Prop where
  ord : Ordered h ws.length
  spec : specLay ws h = some S
  impl : implLay ws h = some S
  noted : Noted ws S
  objs : specObjs ws S h ws.length = true
  scan : h.scan < h.bottom → S.getD h.scan.toNat 0 ≠ 0

theorem ok_facts {ws : List Int} {h : HpN} (ho : Ordered h ws.length) (hk : specOk ws h = true) : ∃ S, OkHeap ws S h := by
  have hi := ok_same ho
  rw [hk] at hi
  unfold specOk at hk
  cases hs : specLay ws h with
  | none => rw [hs] at hk; cases hk
  | some S =>
    rw [hs] at hk
    dsimp only at hk
    rw [Bool.and_eq_true] at hk
    refine ⟨S, ho, hs, ?_, specLay_noted rfl ho hs, hk.2, ?_⟩
    · have hsc := hk.1
      unfold specLay at hs
      unfold implLay
      cases h1 : lay ws h.to.toNat h.bottom.toNat (List.replicate ws.length 0) with
      | none => rw [h1] at hs; cases hs
      | some S1 =>
        rw [h1] at hs
        dsimp only at hs ⊢
        cases h2 : lay ws h.top.toNat (h.to + h.size).toNat S1 with
        | none => rw [h2] at hs; cases hs
        | some S2 =>
          rw [h2] at hs
          dsimp only at hs ⊢
          by_cases hb : h.scan < h.bottom
          · rw [if_pos hb] at hs ⊢
            obtain ⟨o1, o2, o3, o4, o5, o6, o7, o8, o9, o10, o11, o12, o13⟩ := ho
            cases h3 : lay ws (h.size - h.to).toNat h.fb.toNat S2 with
            | none => rw [h3] at hs; cases hs
            | some S3 =>
              rw [h3] at hs
              dsimp only at hs ⊢
              have k : S.getD h.scan.toNat 0 = S2.getD h.scan.toNat 0 := (lay_else hs _ (by omega)).trans (lay_else h3 _ (by omega))
              rw [decide_eq_true hb, k] at hsc
              rw [if_neg (by simpa using hsc)]
              exact hs
          · rw [if_neg hb] at hs ⊢
            exact hs
    · intro hb h0
      have hsc := hk.1
      rw [decide_eq_true hb, h0] at hsc
      cases hsc

def GoodW (ws S : List Int) (x : Int) : Prop := x % 8 = 0 → 0 ≤ x / 8 ∧ x / 8 < (ws.length : Int) ∧ S.getD (x / 8).toNat 0 ≠ 0

theorem good_of_leads {ws S : List Int} {h : HpN} {x : Int} {old : Bool} (e : specLeads ws S h x old = true) : GoodW ws S x := by
  intro hx
  unfold specLeads at e
  rw [if_neg (by omega)] at e
  split at e
  · cases e
  · rename_i hn
    omega

theorem good_here {ws S : List Int} {h : HpN} {x : Int} (ho : Ordered h ws.length) (hg : GoodW ws S x) : hereZ h x = !lateZ h x := by
  obtain ⟨o1, o2, o3, o4, -⟩ := ho
  unfold hereZ lateZ inZ
  by_cases hx : x % 8 = 0
  · obtain ⟨g1, g2, -⟩ := hg hx
    rw [if_pos hx, decide_eq_true hx, Bool.true_and, Bool.eq_iff_iff]
    simp
    omega
  · rw [if_neg hx, decide_eq_false hx]
    rfl

theorem size_div {x : Int} (h : sizeZ x ≠ 0) : sizeZ x = x / 16 ∧ (x / 16 = 3 ∨ x / 16 = 6) := by
  have h3 := size_three x
  have e : sizeZ x = x / 16 := by
    unfold sizeZ at h ⊢
    split
    · rename_i h1
      rw [if_pos h1] at h
      split
      · rfl
      · rename_i h2
        rw [if_neg h2] at h
        exact absurd rfl h
    · rename_i h1
      rw [if_neg h1] at h
      split
      · rename_i h2
        rw [if_pos h2] at h
        exact absurd rfl h
      · rfl
  omega

def Heads (ws S : List Int) : Prop := S.length = ws.length ∧ ∀ a, S.getD a 0 ≠ 0 → (S.getD a 0 = 3 ∨ S.getD a 0 = 6) ∧ a + (S.getD a 0).toNat ≤ ws.length ∧ ws.getD a 0 / 16 = S.getD a 0

theorem heads_noted {ws S : List Int} (hn : Noted ws S) : Heads ws S := by
  refine ⟨hn.1, fun a ha => ?_⟩
  obtain ⟨h1, h2, h3⟩ := hn.2 a ha
  rw [h2] at ha
  obtain ⟨e1, e2⟩ := size_div ha
  have e3 := sizeN_cast (ws.getD a 0)
  rw [h2, e1]
  refine ⟨e2, by omega, rfl⟩

theorem good_move {ws S : List Int} {h : HpN} {x : Int} (hn : Heads ws S) (hg : GoodW ws S x) : MoveOk ws h ws.length x := by
  intro hl
  have hx : x % 8 = 0 := by
    unfold lateZ at hl
    rw [Bool.and_eq_true, decide_eq_true_eq] at hl
    exact hl.1
  obtain ⟨g1, g2, g3⟩ := hg hx
  obtain ⟨h1, h2, h3⟩ := hn.2 _ g3
  refine ⟨by omega, fun _ => ?_⟩
  rw [h3]
  exact ⟨h1, h2⟩

theorem field_good {ws S : List Int} {h : HpN} (ok : OkHeap ws S h) {a i : Nat} (ha : S.getD a 0 ≠ 0) (hm : ws.getD a 0 % 16 ≠ 15) (hi : (i : Int) < S.getD a 0 - 1) : GoodW ws S (ws.getD (a + 1 + i) 0) := by
  have h1 := ok.noted.2 a ha
  have h2 := ok.objs
  unfold specObjs at h2
  rw [List.all_eq_true] at h2
  have h3 := h2 a (List.mem_range.2 h1.1)
  rw [Bool.or_eq_true] at h3
  have h4 : specAt ws S h a = true := h3.resolve_left (by simpa using ha)
  unfold specAt at h4
  rw [if_neg hm, List.all_eq_true] at h4
  have e3 := sizeN_cast (ws.getD a 0)
  have h5 := h4 i (List.mem_range.2 (by omega))
  rw [show a + 1 + i = a + (i + 1) by omega]
  exact good_of_leads h5

theorem used_stays {ws S : List Int} {h : HpN} (ok : OkHeap ws S h) {a : Nat} (ha : S.getD a 0 ≠ 0) (hin : inZ h (a : Int) = true) : ws.getD a 0 % 16 ≠ 15 := by
  intro hm
  have h1 := ok.noted.2 a ha
  have h2 := ok.objs
  unfold specObjs at h2
  rw [List.all_eq_true] at h2
  have h3 := h2 a (List.mem_range.2 h1.1)
  rw [Bool.or_eq_true] at h3
  have h4 : specAt ws S h a = true := h3.resolve_left (by simpa using ha)
  unfold specAt at h4
  rw [if_pos hm] at h4
  unfold specMoved at h4
  rw [hin] at h4
  cases h4

theorem used_same {ws S : List Int} {h : HpN} (ok : OkHeap ws S h) (x : Int) : wordOkZ S h x = specLeads ws S h x false := by
  rw [Bool.eq_iff_iff]
  have ho := ok.ord
  obtain ⟨o1, o2, o3, o4, -⟩ := ho
  unfold wordOkZ
  by_cases hx : x % 8 = 0
  · rw [if_pos hx]
    constructor
    · intro e
      obtain ⟨-, l1, l2, l3⟩ := leadsZ_at e
      have hst := used_stays ok (a := (x / 8).toNat) (by omega) (inZ_iff.2 (by omega))
      exact specLeads_mk hx (by omega) (by omega) (by omega) (Or.inl ⟨inZ_iff.2 ⟨l1, l2⟩, hst⟩)
    · intro e
      obtain ⟨a1, a2, a3, a4⟩ := specLeads_at hx e
      rcases a4 with ⟨b1, -⟩ | ⟨-, b2⟩
      · exact leadsZ_mk hx (inZ_iff.1 b1).1 (inZ_iff.1 b1).2 (noted_pos ok.noted a3)
      · cases b2
  · rw [if_neg hx]
    unfold specLeads
    rw [if_pos hx]
end Go.Proofs.Ytebpgglegnljgaa

namespace Go.Proofs.Ytebpgglegnljgaa
open Go.RowKit

structure Nums (h : HpN) (N : Nat) : Prop where
  s0 : 20 ≤ h.size
  s1 : h.size ≤ 4000
  len : (N : Int) = 2 * h.size
  to : h.to = 0 ∨ h.to = h.size
  b0 : h.to ≤ h.bottom
  bt : h.bottom ≤ h.top
  te : h.top ≤ h.to + h.size

def Old (h : HpN) (a : Nat) : Prop := h.size - h.to ≤ (a : Int) ∧ (a : Int) < h.size - h.to + h.size

structure Fro (S ws : List Int) (h : HpN) : Prop where
  heads : ∀ a : Nat, Old h a → S.getD a 0 ≠ 0 → (S.getD a 0 = 3 ∨ S.getD a 0 = 6) ∧ (a : Int) + S.getD a 0 ≤ h.size - h.to + h.size ∧ ws.getD a 0 / 16 = S.getD a 0
  apart : ∀ a b : Nat, a < b → S.getD a 0 ≠ 0 → S.getD b 0 ≠ 0 → (a : Int) + S.getD a 0 ≤ (b : Int)

def Aim (S : List Int) (h : HpN) (N : Nat) (x : Int) : Prop := x % 8 = 0 → 0 ≤ x / 8 ∧ x / 8 < (N : Int) ∧ (Old h (x / 8).toNat → S.getD (x / 8).toNat 0 ≠ 0)

theorem late_old {h : HpN} {x : Int} (hl : lateZ h x = true) (hn : 0 ≤ h.size - h.to) : x % 8 = 0 ∧ 0 ≤ x / 8 ∧ Old h (x / 8).toNat := by
  unfold lateZ at hl
  rw [Bool.and_eq_true, decide_eq_true_eq, decide_eq_true_eq] at hl
  unfold Old
  omega

theorem aim_here {S : List Int} {h : HpN} {N : Nat} {x : Int} (hn : Nums h N) (hg : Aim S h N x) : hereZ h x = !lateZ h x := by
  have o1 := hn.s0
  have o3 := hn.len
  have o4 := hn.to
  unfold hereZ lateZ inZ
  by_cases hx : x % 8 = 0
  · obtain ⟨g1, g2, -⟩ := hg hx
    rw [if_pos hx, decide_eq_true hx, Bool.true_and, Bool.eq_iff_iff]
    simp
    omega
  · rw [if_neg hx, decide_eq_false hx]
    rfl

theorem aim_move {S ws : List Int} {h : HpN} {N : Nat} {x : Int} (hn : Nums h N) (hf : Fro S ws h) (hg : Aim S h N x) : MoveOk ws h N x := by
  intro hl
  have o1 := hn.s0
  have o3 := hn.len
  have o4 := hn.to
  obtain ⟨hx, h0, hold⟩ := late_old hl (by omega)
  obtain ⟨g1, g2, g3⟩ := hg hx
  obtain ⟨e1, e2, e3⟩ := hf.heads _ hold (g3 hold)
  refine ⟨by omega, fun _ => ?_⟩
  rw [e3]
  exact ⟨e1, by omega⟩

theorem copyW_at (ws : List Int) (a to : Nat) : ∀ n : Nat, (a + n ≤ to ∨ to + n ≤ a) → to + n ≤ ws.length → ∀ j, (copyW ws a to n).getD j 0 = if to ≤ j ∧ j < to + n then ws.getD (a + (j - to)) 0 else ws.getD j 0
  | 0, _, _, j => by
    rw [if_neg (by omega)]
    rfl
  | n + 1, hd, hl, j => by
    rw [copyW, getD_set, copyW_length]
    have ih := copyW_at ws a to n (by omega) (by omega)
    by_cases hj : j = to + n
    · rw [if_pos ⟨hj, by omega⟩, if_pos (by omega), ih, if_neg (by omega), hj]
      congr 1
      omega
    · rw [if_neg (by omega), ih]
      by_cases h2 : to ≤ j ∧ j < to + n
      · rw [if_pos h2, if_pos (by omega)]
      · rw [if_neg h2, if_neg (by omega)]

structure Moved (S : List Int) (N : Nat) (s s' : CN) : Prop where
  len : s'.ws.length = s.ws.length
  h : s'.h = { s.h with bottom := s'.h.bottom }
  nums : Nums s'.h N
  fro : Fro S s'.ws s'.h
  grow : s.h.bottom ≤ s'.h.bottom
  kept : ∀ j : Nat, ¬ Old s.h j → ((j : Int) < s.h.bottom ∨ s'.h.bottom ≤ (j : Int)) → s'.ws.getD j 0 = s.ws.getD j 0
  rest : ∀ a : Nat, Old s.h a → S.getD a 0 ≠ 0 → s'.ws.getD a 0 % 16 ≠ 15 → s.ws.getD a 0 % 16 ≠ 15 ∧ ∀ i : Nat, (i : Int) < S.getD a 0 → s'.ws.getD (a + i) 0 = s.ws.getD (a + i) 0
  new : s'.h.bottom = s.h.bottom ∨ ∃ a : Nat, Old s.h a ∧ S.getD a 0 ≠ 0 ∧ s.ws.getD a 0 % 16 ≠ 15 ∧ s'.h.bottom = s.h.bottom + S.getD a 0 ∧ ∀ i : Nat, (i : Int) < S.getD a 0 → s'.ws.getD (s.h.bottom.toNat + i) 0 = s.ws.getD (a + i) 0
  r0 : s.r ≤ s'.r
  r1 : s'.r ≤ s.r + 2 + (s'.h.bottom - s.h.bottom)
  t0 : s.t ≤ s'.t
  t1 : s'.t ≤ s.t + 2 * (s'.h.bottom - s.h.bottom)

theorem Moved.same {S : List Int} {N : Nat} {s : CN} (hn : Nums s.h N) (hf : Fro S s.ws s.h) (r' : Int) (h0 : s.r ≤ r') (h1 : r' ≤ s.r + 2) : Moved S N s { s with r := r' } :=
  ⟨rfl, rfl, hn, hf, Int.le_refl _, fun _ _ _ => rfl, fun _ _ _ h => ⟨h, fun _ _ => rfl⟩, Or.inl rfl, h0, by dsimp only; omega, Int.le_refl _, by dsimp only; omega⟩

theorem moveZ_keeps {S : List Int} {N : Nat} {s : CN} {x : Int} (hN : s.ws.length = N) (hn : Nums s.h N) (hf : Fro S s.ws s.h) (hg : Aim S s.h N x) : Moved S N s (moveZ s x).2 := by
  unfold moveZ
  cases hl : lateZ s.h x with
  | false =>
    rw [if_pos rfl]
    exact Moved.same hn hf s.r (by omega) (by omega)
  | true =>
    rw [if_neg (by decide)]
    have o1 := hn.s0
    have o2 := hn.s1
    have o3 := hn.len
    have o4 := hn.to
    have o5 := hn.b0
    have o6 := hn.bt
    have o7 := hn.te
    obtain ⟨hx, hx0, hold⟩ := late_old hl (by omega)
    obtain ⟨g1, g2, g3⟩ := hg hx
    generalize (x / 8).toNat = a at *
    have hS := g3 hold
    obtain ⟨e1, e2, e3⟩ := hf.heads a hold hS
    split
    · exact Moved.same hn hf (s.r + 1 + 1) (by omega) (by omega)
    · rename_i hk
      split
      · rename_i hroom
        rw [e3] at hroom ⊢
        unfold Old at hold
        obtain ⟨b, hb⟩ := Int.eq_ofNat_of_zero_le (show 0 ≤ s.h.bottom by omega)
        obtain ⟨n, hnn⟩ := Int.eq_ofNat_of_zero_le (show 0 ≤ S.getD a 0 by omega)
        have hcw := copyW_at s.ws a b n (by omega) (by omega)
        have hat : ∀ j, (((copyW s.ws a b n).set a ((n : Int) * 16 + 15)).set (a + 1) (8 * s.h.bottom)).getD j 0 = if j = a + 1 then 8 * s.h.bottom else if j = a then (n : Int) * 16 + 15 else if b ≤ j ∧ j < b + n then s.ws.getD (a + (j - b)) 0 else s.ws.getD j 0 := fun j => by
          rw [getD_set, getD_set, hcw, List.length_set, copyW_length]
          by_cases h1 : j = a + 1
          · rw [if_pos ⟨h1, by omega⟩, if_pos h1]
          · rw [if_neg (by omega), if_neg h1]
            by_cases h2 : j = a
            · rw [if_pos ⟨h2, by omega⟩, if_pos h2]
            · rw [if_neg (by omega), if_neg h2]
        have hbn : s.h.bottom.toNat = b := by omega
        rw [hnn, hbn, Int.toNat_natCast]
        rw [hnn] at e1 e2 hroom
        refine ⟨by simp only [List.length_set, copyW_length], rfl, ⟨o1, o2, o3, o4, ?_, ?_, o7⟩, ⟨?_, hf.apart⟩, ?_, ?_, ?_, ?_, ?_, ?_, ?_, ?_⟩
        · dsimp only
          omega
        · dsimp only
          omega
        · intro c hc hSc
          obtain ⟨f1, f2, f3⟩ := hf.heads c hc hSc
          refine ⟨f1, f2, ?_⟩
          dsimp only
          rw [hat]
          unfold Old at hc
          dsimp only at hc
          by_cases hca : c = a
          · rw [if_neg (by omega), if_pos hca, hca, hnn]
            omega
          · have : ¬ c = a + 1 := by
              intro h
              have := hf.apart a c (by omega) hS hSc
              omega
            rw [if_neg this, if_neg hca, if_neg (by omega)]
            exact f3
        · dsimp only
          omega
        · intro j hj hj2
          dsimp only at hj2 ⊢
          rw [hat, if_neg (by unfold Old at hj; omega), if_neg (by unfold Old at hj; omega), if_neg (by omega)]
        · intro c hc hSc hm
          dsimp only at hm ⊢
          have hc' := hc
          unfold Old at hc'
          rw [hat] at hm
          have hca : ¬ c = a := by
            intro h
            rw [if_neg (by omega), if_pos h] at hm
            omega
          obtain ⟨f1, f2, f3⟩ := hf.heads c hc hSc
          have hap : (a : Int) + S.getD a 0 ≤ (c : Int) ∨ (c : Int) + S.getD c 0 ≤ (a : Int) := by
            by_cases h : a < c
            · exact Or.inl (hf.apart a c h hS hSc)
            · exact Or.inr (hf.apart c a (by omega) hSc hS)
          rw [hnn] at hap
          refine ⟨?_, fun i hi => ?_⟩
          · rw [if_neg (by omega), if_neg hca, if_neg (by omega)] at hm
            exact hm
          · rw [hat, if_neg (by omega), if_neg (by omega), if_neg (by omega)]
        · refine Or.inr ⟨a, by unfold Old; exact hold, hS, hk, ?_, fun i hi => ?_⟩
          · dsimp only
            rw [hnn]
          · dsimp only
            rw [hnn] at hi
            rw [hbn, hat, if_neg (by omega), if_neg (by omega), if_pos (by omega)]
            congr 1
            omega
        · dsimp only
          omega
        · dsimp only
          omega
        · dsimp only
          omega
        · dsimp only
          omega
      · exact Moved.same hn hf (s.r + 1) (by omega) (by omega)
end Go.Proofs.Ytebpgglegnljgaa

namespace Go.Proofs.Ytebpgglegnljgaa
open Go.RowKit

theorem fieldZ_keeps {S : List Int} {N : Nat} {s : CN} {q : Nat} (hN : s.ws.length = N) (hn : Nums s.h N) (hf : Fro S s.ws s.h) (hg : Aim S s.h N (s.ws.getD q 0)) (hq : ¬ Old s.h q) (hqb : (q : Int) < s.h.bottom) {y : Int} {s' : CN} (he : fieldZ s q = (some y, s')) :
    s'.ws.length = N ∧ s'.h = { s.h with bottom := s'.h.bottom } ∧ Nums s'.h N ∧ Fro S s'.ws s'.h ∧ s.h.bottom ≤ s'.h.bottom ∧
    (∀ j : Nat, ¬ Old s.h j → j ≠ q → ((j : Int) < s.h.bottom ∨ s'.h.bottom ≤ (j : Int)) → s'.ws.getD j 0 = s.ws.getD j 0) ∧
    (∀ a : Nat, Old s.h a → S.getD a 0 ≠ 0 → s'.ws.getD a 0 % 16 ≠ 15 → s.ws.getD a 0 % 16 ≠ 15 ∧ ∀ i : Nat, (i : Int) < S.getD a 0 → s'.ws.getD (a + i) 0 = s.ws.getD (a + i) 0) ∧
    (s'.h.bottom = s.h.bottom ∨ ∃ a : Nat, Old s.h a ∧ S.getD a 0 ≠ 0 ∧ s.ws.getD a 0 % 16 ≠ 15 ∧ s'.h.bottom = s.h.bottom + S.getD a 0 ∧ ∀ i : Nat, (i : Int) < S.getD a 0 → s'.ws.getD (s.h.bottom.toNat + i) 0 = s.ws.getD (a + i) 0) ∧
    s.r ≤ s'.r ∧ s'.r ≤ s.r + 3 + (s'.h.bottom - s.h.bottom) ∧ s.t ≤ s'.t ∧ s'.t ≤ s.t + 1 + 2 * (s'.h.bottom - s.h.bottom) := by
  unfold fieldZ at he
  split at he
  · cases he
    dsimp only
    exact ⟨hN, rfl, hn, hf, by omega, fun _ _ _ _ => rfl, fun _ _ _ h => ⟨h, fun _ _ => rfl⟩, Or.inl rfl, by omega, by omega, by omega, by omega⟩
  · have m := moveZ_keeps (s := { s with r := s.r + 1 }) (x := s.ws.getD q 0) hN hn hf hg
    generalize moveZ { s with r := s.r + 1 } (s.ws.getD q 0) = R at m he
    obtain ⟨o, s2⟩ := R
    cases o with
    | none => cases he
    | some z =>
      cases he
      dsimp only at m ⊢
      have e1 := m.h
      have e2 := m.grow
      have e3 := m.r0
      have e4 := m.r1
      have e5 := m.t0
      have e6 := m.t1
      dsimp only at e1 e2 e3 e4 e5 e6
      have oq : ∀ a : Nat, Old s.h a → ∀ i : Nat, (i : Int) < S.getD a 0 → S.getD a 0 ≠ 0 → a + i ≠ q := fun a ha i hi hS h => by
        have := (hf.heads a ha hS).2.1
        unfold Old at ha hq
        omega
      refine ⟨by rw [List.length_set, m.len]; exact hN, e1, m.nums, ⟨fun a ha hS => ?_, hf.apart⟩, e2, fun j hj hjq hjb => ?_, fun a ha hS hm => ?_, ?_, by omega, by omega, by omega, by omega⟩
      · have ha' : Old s.h a := by rw [e1] at ha; exact ha
        obtain ⟨f1, f2, f3⟩ := m.fro.heads a ha hS
        refine ⟨f1, f2, ?_⟩
        rw [getD_set, if_neg (by have := oq a ha' 0 (by omega) hS; omega)]
        exact f3
      · rw [getD_set, if_neg (by omega)]
        exact m.kept j hj hjb
      · have h0 := oq a ha 0 (by have := (hf.heads a ha hS).1; omega) hS
        rw [getD_set, if_neg (by omega)] at hm
        obtain ⟨f1, f2⟩ := m.rest a ha hS hm
        refine ⟨f1, fun i hi => ?_⟩
        rw [getD_set, if_neg (by have := oq a ha i hi hS; omega)]
        exact f2 i hi
      · rcases m.new with h | ⟨a, f1, f2, f3, f4, f5⟩
        · exact Or.inl h
        · refine Or.inr ⟨a, f1, f2, f3, f4, fun i hi => ?_⟩
          rw [getD_set, if_neg (by have := hn.b0; have := hn.to; have := hn.s0; omega)]
          exact f5 i hi

inductive RowOk (S ws : List Int) (h : HpN) (N : Nat) : Nat → Nat → Prop
  | nil (p : Nat) : RowOk S ws h N p p
  | cons {p q : Nat} (n : Nat) (hn : n = 3 ∨ n = 6) (hd : ws.getD p 0 / 16 = n) (hf : ∀ i, 1 ≤ i → i < n → Aim S h N (ws.getD (p + i) 0)) (rest : RowOk S ws h N (p + n) q) : RowOk S ws h N p q

theorem RowOk.le {S ws : List Int} {h : HpN} {N p q : Nat} (r : RowOk S ws h N p q) : p ≤ q := by
  induction r with
  | nil => exact Nat.le_refl _
  | cons n _ _ _ _ ih => omega

theorem RowOk.keep {S ws ws' : List Int} {h h' : HpN} {N p q : Nat} (r : RowOk S ws h N p q) (hh : ∀ a, Old h' a ↔ Old h a) (hw : ∀ j, p ≤ j → j < q → ws'.getD j 0 = ws.getD j 0) : RowOk S ws' h' N p q := by
  induction r with
  | nil p => exact RowOk.nil p
  | @cons p q n hn hd hf rest ih =>
    have hle := rest.le
    refine RowOk.cons n hn (by rw [hw p (Nat.le_refl _) (by omega)]; exact hd) (fun i h1 h2 => ?_) (ih (fun j h1 h2 => hw j (by omega) h2))
    rw [hw (p + i) (by omega) (by omega)]
    intro hx
    obtain ⟨a1, a2, a3⟩ := hf i h1 h2 hx
    exact ⟨a1, a2, fun ho => a3 ((hh _).1 ho)⟩

theorem RowOk.snoc {S ws : List Int} {h : HpN} {N p q : Nat} (r : RowOk S ws h N p q) (n : Nat) (hn : n = 3 ∨ n = 6) (hd : ws.getD q 0 / 16 = n) (hf : ∀ i, 1 ≤ i → i < n → Aim S h N (ws.getD (q + i) 0)) : RowOk S ws h N p (q + n) := by
  induction r with
  | nil p => exact RowOk.cons n hn hd hf (RowOk.nil _)
  | cons m hm hd' hf' _ ih => exact RowOk.cons m hm hd' hf' (ih hd hf)

structure Scn (S : List Int) (N : Nat) (s : CN) : Prop where
  len : s.ws.length = N
  nums : Nums s.h N
  fro : Fro S s.ws s.h
  olds : ∀ a : Nat, Old s.h a → S.getD a 0 ≠ 0 → s.ws.getD a 0 % 16 ≠ 15 → ∀ i : Nat, 1 ≤ i → (i : Int) < S.getD a 0 → Aim S s.h N (s.ws.getD (a + i) 0)
  sc0 : s.h.to ≤ s.h.scan
  row : RowOk S s.ws s.h N s.h.scan.toNat s.h.bottom.toNat
  r0 : 0 ≤ s.r
  r1 : s.r ≤ 4 * s.h.scan + s.h.bottom
  t0 : 0 ≤ s.t
  t1 : s.t ≤ s.h.scan + 2 * s.h.bottom

structure Inn (S : List Int) (N p n k : Nat) (s : CN) : Prop where
  len : s.ws.length = N
  nums : Nums s.h N
  fro : Fro S s.ws s.h
  olds : ∀ a : Nat, Old s.h a → S.getD a 0 ≠ 0 → s.ws.getD a 0 % 16 ≠ 15 → ∀ i : Nat, 1 ≤ i → (i : Int) < S.getD a 0 → Aim S s.h N (s.ws.getD (a + i) 0)
  sc : s.h.scan = p
  sc0 : s.h.to ≤ p
  hn : n = 3 ∨ n = 6
  pn : (p : Int) + n ≤ s.h.bottom
  left : ∀ i, k < i → i < n → Aim S s.h N (s.ws.getD (p + i) 0)
  row : RowOk S s.ws s.h N (p + n) s.h.bottom.toNat
  r0 : 0 ≤ s.r
  r1 : s.r ≤ 4 * p + s.h.bottom + 1 + 3 * k
  t0 : 0 ≤ s.t
  t1 : s.t ≤ p + 2 * s.h.bottom + k

theorem Scn.enter {S : List Int} {N : Nat} {s : CN} (c : Scn S N s) (hb : s.h.scan ≠ s.h.bottom) : ∃ p n : Nat, s.h.scan = p ∧ s.ws.getD p 0 / 16 = n ∧ Inn S N p n 0 { s with r := s.r + 1 } := by
  have o1 := c.nums.s0
  have o4 := c.nums.to
  have o5 := c.sc0
  have o6 := c.nums.b0
  obtain ⟨p, hp⟩ := Int.eq_ofNat_of_zero_le (show 0 ≤ s.h.scan by omega)
  have hpn : s.h.scan.toNat = p := by omega
  have hr := c.row
  rw [hpn] at hr
  generalize hbt : s.h.bottom.toNat = b at hr
  have hle := hr.le
  cases hr with
  | nil => exact absurd (by omega) hb
  | cons n hn hd hf rest =>
    have hle2 := rest.le
    have e1 := c.r0
    have e2 := c.r1
    have e3 := c.t0
    have e4 := c.t1
    refine ⟨p, n, hp, hd, c.len, c.nums, c.fro, c.olds, hp, by dsimp only; omega, hn, by dsimp only; omega, fun i h1 h2 => hf i (by omega) h2, ?_, ?_, ?_, ?_, ?_⟩
    · dsimp only
      rw [hbt]
      exact rest
    · dsimp only
      omega
    · dsimp only
      omega
    · dsimp only
      omega
    · dsimp only
      omega

theorem Inn.exit {S : List Int} {N p n : Nat} {s : CN} (c : Inn S N p n (n - 1) s) : Scn S N { s with h := { s.h with scan := (p : Int) + n } } := by
  have e1 := c.r1
  have e2 := c.t1
  have e3 := c.hn
  have e4 := c.sc0
  refine ⟨c.len, ⟨c.nums.s0, c.nums.s1, c.nums.len, c.nums.to, c.nums.b0, c.nums.bt, c.nums.te⟩, ⟨c.fro.heads, c.fro.apart⟩, c.olds, ?_, ?_, c.r0, ?_, c.t0, ?_⟩
  · dsimp only
    omega
  · dsimp only
    rw [show ((p : Int) + n).toNat = p + n by omega]
    exact c.row.keep (fun a => Iff.rfl) (fun _ _ _ => rfl)
  · dsimp only
    omega
  · dsimp only
    omega

theorem Inn.asks {S : List Int} {N p n k : Nat} {s : CN} (c : Inn S N p n k s) (hk : k + 1 < n) : p + (k + 1) < N ∧ 0 ≤ s.h.to ∧ s.h.to ≤ s.h.size ∧ s.h.size ≤ 4000 ∧ 0 ≤ s.h.bottom ∧ s.h.bottom ≤ s.h.top ∧ s.h.top ≤ (N : Int) ∧ N ≤ 8000 ∧ s.r ≤ 60000 ∧ s.t ≤ 60000 ∧ MoveOk s.ws s.h N (s.ws.getD (p + (k + 1)) 0) ∧ hereZ s.h (s.ws.getD (p + (k + 1)) 0) = !lateZ s.h (s.ws.getD (p + (k + 1)) 0) := by
  have o1 := c.nums.s0
  have o2 := c.nums.s1
  have o3 := c.nums.len
  have o4 := c.nums.to
  have o5 := c.nums.b0
  have o6 := c.nums.bt
  have o7 := c.nums.te
  have e1 := c.r1
  have e2 := c.t1
  have e3 := c.pn
  have e4 := c.hn
  have ha := c.left (k + 1) (by omega) hk
  exact ⟨by omega, by omega, by omega, o2, by omega, o6, by omega, by omega, by omega, by omega, aim_move c.nums c.fro ha, aim_here c.nums ha⟩

theorem Inn.step {S : List Int} {N p n k : Nat} {s s' : CN} {y : Int} (c : Inn S N p n k s) (hk : k + 1 < n) (he : fieldZ s (p + (k + 1)) = (some y, s')) : Inn S N p n (k + 1) s' := by
  have o1 := c.nums.s0
  have o4 := c.nums.to
  have o5 := c.nums.b0
  have o6 := c.nums.bt
  have o7 := c.nums.te
  have e3 := c.pn
  have e4 := c.hn
  have e5 := c.sc0
  have hnq : ∀ j : Nat, s.h.to ≤ (j : Int) → (j : Int) < s.h.to + s.h.size → ¬ Old s.h j := fun j h1 h2 h3 => by unfold Old at h3; omega
  obtain ⟨f1, f2, f3, f4, f5, f6, f7, f8, f9, f10, f11, f12⟩ := fieldZ_keeps c.len c.nums c.fro (c.left (k + 1) (by omega) hk) (hnq _ (by omega) (by omega)) (by omega) he
  have hO : ∀ a, Old s'.h a ↔ Old s.h a := fun a => by rw [f2]; exact Iff.rfl
  have hA : ∀ x, Aim S s.h N x → Aim S s'.h N x := fun x hx hx8 => by
    obtain ⟨a1, a2, a3⟩ := hx hx8
    exact ⟨a1, a2, fun ho => a3 ((hO _).1 ho)⟩
  have g1 := c.r0
  have g2 := c.r1
  have g3 := c.t0
  have g4 := c.t1
  have hto : s'.h.to = s.h.to := by rw [f2]
  have hsz : s'.h.size = s.h.size := by rw [f2]
  refine ⟨f1, f3, f4, fun a ha hS hm i hi1 hi2 => ?_, by rw [f2]; exact c.sc, by rw [hto]; exact e5, e4, by omega, fun i h1 h2 => ?_, ?_, by omega, by push_cast; omega, by omega, by push_cast; omega⟩
  · obtain ⟨m1, m2⟩ := f7 a ((hO a).1 ha) hS hm
    rw [m2 i hi2]
    exact hA _ (c.olds a ((hO a).1 ha) hS m1 i hi1 hi2)
  · rw [f6 (p + i) (hnq _ (by omega) (by omega)) (by omega) (Or.inl (by omega))]
    exact hA _ (c.left i (by omega) h2)
  · have hrow : RowOk S s'.ws s'.h N (p + n) s.h.bottom.toNat := c.row.keep hO (fun j h1 h2 => f6 j (hnq j (by omega) (by omega)) (by omega) (Or.inl (by omega)))
    rcases f8 with h | ⟨a, n1, n2, n3, n4, n5⟩
    · rw [h]
      exact hrow
    · obtain ⟨e6, e7, e8⟩ := c.fro.heads a n1 n2
      obtain ⟨m, hm⟩ := Int.eq_ofNat_of_zero_le (show 0 ≤ S.getD a 0 by omega)
      rw [n4, hm, show (s.h.bottom + (m : Int)).toNat = s.h.bottom.toNat + m by omega]
      rw [hm] at e6 e8
      refine hrow.snoc m (by omega) ?_ (fun i h1 h2 => ?_)
      · have := n5 0 (by omega)
        rw [Nat.add_zero, Nat.add_zero] at this
        rw [this]
        exact e8
      · rw [n5 i (by omega)]
        exact hA _ (c.olds a n1 n2 n3 i h1 (by omega))

def fieldsRun (p : Nat) : Nat → CN → Option CN
  | 0, s => some s
  | k + 1, s => match fieldsRun p k s with
    | none => none
    | some s' => match fieldZ s' (p + (k + 1)) with
      | (some _, s'') => some s''
      | (none, _) => none

def scanOne (s : CN) : Option CN :=
  if s.h.scan = s.h.bottom then some s else
  match fieldsRun s.h.scan.toNat ((s.ws.getD s.h.scan.toNat 0 / 16).toNat - 1) { s with r := s.r + 1 } with
  | none => none
  | some s' => some { s' with h := { s'.h with scan := s.h.scan + s.ws.getD s.h.scan.toNat 0 / 16 } }

def scanRun : Nat → CN → Option CN
  | 0, s => some s
  | k + 1, s => match scanRun k s with
    | none => none
    | some s' => scanOne s'

theorem fieldsRun_inn {S : List Int} {N p n : Nat} {s : CN} (c : Inn S N p n 0 s) : ∀ k, k < n → ∀ s', fieldsRun p k s = some s' → Inn S N p n k s'
  | 0, _, s', h => by cases h; exact c
  | k + 1, hk, s', h => by
    unfold fieldsRun at h
    cases h1 : fieldsRun p k s with
    | none => rw [h1] at h; cases h
    | some s1 =>
      rw [h1] at h
      have c1 := fieldsRun_inn c k (by omega) s1 h1
      dsimp only at h
      cases h2 : fieldZ s1 (p + (k + 1)) with
      | mk o s2 =>
        rw [h2] at h
        cases o with
        | none => cases h
        | some y =>
          cases h
          exact c1.step hk h2

theorem scanOne_scn {S : List Int} {N : Nat} {s s' : CN} (c : Scn S N s) (h : scanOne s = some s') : Scn S N s' := by
  unfold scanOne at h
  by_cases hb : s.h.scan = s.h.bottom
  · rw [if_pos hb] at h
    cases h
    exact c
  · rw [if_neg hb] at h
    obtain ⟨p, n, hp, hd, ci⟩ := c.enter hb
    rw [show s.h.scan.toNat = p by omega, hd, Int.toNat_natCast] at h
    have hn := ci.hn
    cases h1 : fieldsRun p (n - 1) { s with r := s.r + 1 } with
    | none => rw [h1] at h; cases h
    | some s1 =>
      rw [h1] at h
      cases h
      have c1 := fieldsRun_inn ci (n - 1) (by omega) s1 h1
      rw [hp]
      exact c1.exit

theorem scanRun_scn {S : List Int} {N : Nat} {s : CN} (c : Scn S N s) : ∀ k s', scanRun k s = some s' → Scn S N s'
  | 0, s', h => by cases h; exact c
  | k + 1, s', h => by
    unfold scanRun at h
    cases h1 : scanRun k s with
    | none => rw [h1] at h; cases h
    | some s1 =>
      rw [h1] at h
      exact scanOne_scn (scanRun_scn c k s1 h1) h

theorem scanRun_end {s s' : CN} {k : Nat} (h : scanRun k s = some s') (hb : s'.h.scan = s'.h.bottom) : ∀ j, scanRun (k + j) s = some s'
  | 0 => h
  | j + 1 => by
    rw [← Nat.add_assoc]
    unfold scanRun
    rw [scanRun_end h hb j]
    dsimp only
    unfold scanOne
    rw [if_pos hb]

theorem scanRun_none {s : CN} {k : Nat} (h : scanRun k s = none) : ∀ j, scanRun (k + j) s = none
  | 0 => h
  | j + 1 => by
    rw [← Nat.add_assoc]
    unfold scanRun
    rw [scanRun_none h j]
end Go.Proofs.Ytebpgglegnljgaa

namespace Go.Proofs.Ytebpgglegnljgaa
open Go.RowKit

def Apart (S : List Int) : Prop := ∀ a b : Nat, a < b → S.getD a 0 ≠ 0 → S.getD b 0 ≠ 0 → (a : Int) + S.getD a 0 ≤ (b : Int)

theorem lay_apart {ws : List Int} {p to : Nat} {S S' : List Int} (h : lay ws p to S = some S') (hl : to ≤ S.length) (hA : Apart S) (h0 : ∀ a : Nat, 0 ≤ S.getD a 0) (hD : ∀ a : Nat, S.getD a 0 ≠ 0 → (a : Int) + S.getD a 0 ≤ p ∨ to ≤ a) :
    Apart S' ∧ (∀ a : Nat, 0 ≤ S'.getD a 0) ∧ S'.length = S.length ∧ ∀ a : Nat, S'.getD a 0 ≠ 0 → (S.getD a 0 ≠ 0 ∧ S'.getD a 0 = S.getD a 0) ∨ (p ≤ a ∧ (a : Int) + S'.getD a 0 ≤ to) := by
  by_cases hp : p < to
  · by_cases hn : sizeN (ws.getD p 0) = 0 ∨ to < p + sizeN (ws.getD p 0)
    · rw [lay_bad ws S hp hn] at h
      cases h
    · rw [lay_next ws S hp hn] at h
      have g : ∀ a : Nat, (S.set p ((sizeN (ws.getD p 0) : Nat) : Int)).getD a 0 = if a = p then ((sizeN (ws.getD p 0) : Nat) : Int) else S.getD a 0 := fun a => by
        rw [getD_set]
        by_cases e : a = p
        · rw [if_pos ⟨e, by omega⟩, if_pos e]
        · rw [if_neg (by omega), if_neg e]
      obtain ⟨i1, i2, i3, i4⟩ := lay_apart h (by rw [List.length_set]; exact hl) (fun a b hab ha hb => by
        rw [g] at ha hb ⊢
        by_cases ea : a = p
        · rw [if_pos ea] at ha ⊢
          rw [if_neg (by omega)] at hb
          have := hD b hb
          have := h0 b
          omega
        · rw [if_neg ea] at ha ⊢
          by_cases eb : b = p
          · have := hD a ha
            have := h0 a
            omega
          · rw [if_neg eb] at hb
            exact hA a b hab ha hb) (fun a => by
        rw [g]
        split
        · omega
        · exact h0 a) (fun a ha => by
        rw [g] at ha ⊢
        by_cases ea : a = p
        · rw [if_pos ea]
          omega
        · rw [if_neg ea] at ha ⊢
          have := hD a ha
          omega)
      refine ⟨i1, i2, by rw [i3, List.length_set], fun a ha => ?_⟩
      rcases i4 a ha with ⟨j1, j2⟩ | ⟨j1, j2⟩
      · rw [g] at j1 j2
        by_cases ea : a = p
        · rw [if_pos ea] at j2
          right
          omega
        · rw [if_neg ea] at j1 j2
          exact Or.inl ⟨j1, j2⟩
      · right
        omega
  · rw [lay_end ws S hp] at h
    cases h
    exact ⟨hA, h0, rfl, fun a ha => Or.inl ⟨ha, rfl⟩⟩
termination_by to - p
decreasing_by omega

inductive LayRow (S : List Int) : Nat → Nat → Prop
  | nil (p : Nat) : LayRow S p p
  | cons {p q : Nat} (n : Nat) (hn : n ≠ 0) (hd : S.getD p 0 = n) (rest : LayRow S (p + n) q) : LayRow S p q

theorem LayRow.le {S : List Int} {p q : Nat} (r : LayRow S p q) : p ≤ q := by
  induction r with
  | nil => exact Nat.le_refl _
  | cons n _ _ _ ih => omega

theorem LayRow.keep {S S' : List Int} {p q : Nat} (r : LayRow S p q) (hw : ∀ j, p ≤ j → j < q → S'.getD j 0 = S.getD j 0) : LayRow S' p q := by
  induction r with
  | nil p => exact LayRow.nil p
  | @cons p q n hn hd rest ih =>
    have hle := rest.le
    exact LayRow.cons n hn (by rw [hw p (Nat.le_refl _) (by omega)]; exact hd) (ih (fun j h1 h2 => hw j (by omega) h2))

theorem LayRow.from {S : List Int} {p q : Nat} (r : LayRow S p q) (hA : Apart S) {c : Nat} (h1 : p ≤ c) (h2 : c < q) (hc : S.getD c 0 ≠ 0) : LayRow S c q := by
  induction r with
  | nil p => omega
  | @cons p q n hn hd rest ih =>
    by_cases e : c = p
    · rw [e]
      exact LayRow.cons n hn hd rest
    · have := hA p c (by omega) (by omega) hc
      exact ih (by omega) h2

theorem lay_row {ws : List Int} {p to : Nat} {S S' : List Int} (h : lay ws p to S = some S') (hl : to ≤ S.length) (hpt : p ≤ to) : LayRow S' p to := by
  by_cases hp : p < to
  · by_cases hn : sizeN (ws.getD p 0) = 0 ∨ to < p + sizeN (ws.getD p 0)
    · rw [lay_bad ws S hp hn] at h
      cases h
    · rw [lay_next ws S hp hn] at h
      have e := lay_else h p (by omega)
      rw [getD_set, if_pos ⟨rfl, by omega⟩] at e
      exact LayRow.cons (sizeN (ws.getD p 0)) (by omega) e (lay_row h (by rw [List.length_set]; exact hl) (by omega))
  · rw [show p = to by omega]
    exact LayRow.nil _
termination_by to - p
decreasing_by omega

theorem zeros_getD (n a : Nat) : (List.replicate n (0 : Int)).getD a 0 = 0 := by
  simp only [List.getD, List.getElem?_replicate]
  split <;> rfl

theorem lay_places {ws S : List Int} {h : HpN} (ho : Ordered h ws.length) (hs : specLay ws h = some S) :
    Apart S ∧ (∀ a : Nat, Old h a → S.getD a 0 ≠ 0 → (a : Int) + S.getD a 0 ≤ h.size - h.to + h.size) ∧ LayRow S h.to.toNat h.bottom.toNat := by
  obtain ⟨o1, o2, o3, o4, o5, o6, o7, o8, o9, o10, o11, o12, o13⟩ := ho
  unfold specLay at hs
  cases h1 : lay ws h.to.toNat h.bottom.toNat (List.replicate ws.length 0) with
  | none => rw [h1] at hs; cases hs
  | some S1 =>
    rw [h1] at hs
    dsimp only at hs
    obtain ⟨a1, a2, a3, a4⟩ := lay_apart h1 (by simp; omega) (fun a b _ ha _ => absurd (zeros_getD _ a) ha) (fun a => by rw [zeros_getD]; omega) (fun a ha => absurd (zeros_getD _ a) ha)
    have r1 := lay_row h1 (by simp; omega) (by omega)
    have a4' : ∀ a : Nat, S1.getD a 0 ≠ 0 → h.to.toNat ≤ a ∧ (a : Int) + S1.getD a 0 ≤ h.bottom.toNat := fun a ha => by
      rcases a4 a ha with ⟨j, _⟩ | j
      · exact absurd (zeros_getD _ a) j
      · exact j
    rw [List.length_replicate] at a3
    cases h2 : lay ws h.top.toNat (h.to + h.size).toNat S1 with
    | none => rw [h2] at hs; cases hs
    | some S2 =>
      rw [h2] at hs
      dsimp only at hs
      obtain ⟨b1, b2, b3, b4⟩ := lay_apart h2 (by omega) a1 a2 (fun a ha => by have := a4' a ha; omega)
      have b4' : ∀ a : Nat, S2.getD a 0 ≠ 0 → h.to.toNat ≤ a ∧ (a : Int) + S2.getD a 0 ≤ (h.to + h.size).toNat := fun a ha => by
        rcases b4 a ha with ⟨j1, j2⟩ | j
        · have := a4' a j1
          omega
        · omega
      have r2 : LayRow S2 h.to.toNat h.bottom.toNat := r1.keep (fun j _ j2 => lay_else h2 j (by omega))
      by_cases hb : h.scan < h.bottom
      · rw [if_pos hb] at hs
        cases h3 : lay ws (h.size - h.to).toNat h.fb.toNat S2 with
        | none => rw [h3] at hs; cases hs
        | some S3 =>
          rw [h3] at hs
          dsimp only at hs
          obtain ⟨c1, c2, c3, c4⟩ := lay_apart h3 (by omega) b1 b2 (fun a ha => by have := b4' a ha; have := b2 a; omega)
          have c4' : ∀ a : Nat, S3.getD a 0 ≠ 0 → (S2.getD a 0 ≠ 0 ∧ S3.getD a 0 = S2.getD a 0) ∨ ((h.size - h.to).toNat ≤ a ∧ (a : Int) + S3.getD a 0 ≤ h.fb.toNat) := c4
          obtain ⟨d1, d2, d3, d4⟩ := lay_apart hs (by omega) c1 c2 (fun a ha => by
            rcases c4' a ha with ⟨j1, j2⟩ | j
            · have := b4' a j1
              have := b2 a
              omega
            · omega)
          refine ⟨d1, fun a ha hS => ?_, r2.keep (fun j j1 j2 => (lay_else hs j (by omega)).trans (lay_else h3 j (by omega)))⟩
          unfold Old at ha
          rcases d4 a hS with ⟨j1, j2⟩ | j
          · rcases c4' a j1 with ⟨k1, k2⟩ | k
            · have := b4' a k1
              have := b2 a
              omega
            · omega
          · omega
      · rw [if_neg hb] at hs
        cases hs
        refine ⟨b1, fun a ha hS => ?_, r2⟩
        unfold Old at ha
        have := b4' a hS
        have := b2 a
        omega

theorem good_aim {ws S : List Int} {h : HpN} {x : Int} (hg : GoodW ws S x) : Aim S h ws.length x := fun hx => ⟨(hg hx).1, (hg hx).2.1, fun _ => (hg hx).2.2⟩

theorem scn_start {ws S : List Int} {h : HpN} (ok : OkHeap ws S h) : Scn S ws.length ⟨ws, h, 0, 0⟩ := by
  obtain ⟨p1, p2, p3⟩ := lay_places ok.ord ok.spec
  have hd := heads_noted ok.noted
  obtain ⟨o1, o2, o3, o4, o5, o6, o7, o8, o9, o10, o11, o12, o13⟩ := id ok.ord
  have hfield : ∀ a : Nat, S.getD a 0 ≠ 0 → ws.getD a 0 % 16 ≠ 15 → ∀ i : Nat, 1 ≤ i → (i : Int) < S.getD a 0 → Aim S h ws.length (ws.getD (a + i) 0) := fun a hS hm i h1 h2 => by
    have e := field_good ok hS hm (i := i - 1) (by omega)
    rw [show a + 1 + (i - 1) = a + i by omega] at e
    exact good_aim e
  refine ⟨rfl, ⟨o1, o2, o3, o4, by dsimp only; omega, o9, o10⟩, ⟨fun a ha hS => ⟨(hd.2 a hS).1, p2 a ha hS, (hd.2 a hS).2.2⟩, p1⟩, fun a _ hS hm => hfield a hS hm, o7, ?_, by dsimp only; omega, by dsimp only; omega, by dsimp only; omega, by dsimp only; omega⟩
  dsimp only
  by_cases hb : h.scan < h.bottom
  · have r := p3.from p1 (c := h.scan.toNat) (by omega) (by omega) (ok.scan hb)
    have conv : ∀ p q, LayRow S p q → h.to ≤ (p : Int) → (q : Int) ≤ h.to + h.size → RowOk S ws h ws.length p q := by
      intro p q r
      induction r with
      | nil p => exact fun _ _ => RowOk.nil p
      | @cons p q n hn hd' rest ih =>
        intro h1 h2
        have hle := rest.le
        have hS : S.getD p 0 ≠ 0 := by omega
        obtain ⟨e1, e2, e3⟩ := hd.2 p hS
        have hm := used_stays ok hS (inZ_iff.2 ⟨h1, by omega⟩)
        exact RowOk.cons n (by omega) (by rw [e3, hd']) (fun i h3 h4 => hfield p hS hm i h3 (by omega)) (ih (by omega) h2)
    exact conv _ _ r (by omega) (by omega)
  · rw [show h.scan.toNat = h.bottom.toNat by omega]
    exact RowOk.nil _
end Go.Proofs.Ytebpgglegnljgaa

namespace Go.Proofs.Ytebpgglegnljgaa
open Go.RowKit

def flipH (h : HpN) : HpN := ⟨h.size, h.size - h.to, h.size - h.to, h.size - h.to + h.size, h.size - h.to, h.bottom, h.top, wrap64 (h.flips + 1), h.touched⟩

def movesRun (xs : List Int) : Nat → CN → Option (List Int × CN)
  | 0, s => some (xs, s)
  | k + 1, s => match movesRun xs k s with
    | none => none
    | some (ys, s') => match moveZ s' (ys.getD k 0) with
      | (some y, s'') => some (ys.set k y, s'')
      | (none, _) => none

theorem movesRun_none {xs : List Int} {s : CN} {k : Nat} (h : movesRun xs k s = none) : ∀ j, movesRun xs (k + j) s = none
  | 0 => h
  | j + 1 => by
    rw [← Nat.add_assoc]
    unfold movesRun
    rw [movesRun_none h j]

theorem movesRun_more {xs ys : List Int} {s s' s'' : CN} {k : Nat} {y : Int} (h : movesRun xs k s = some (ys, s')) (he : moveZ s' (ys.getD k 0) = (some y, s'')) : movesRun xs (k + 1) s = some (ys.set k y, s'') := by
  unfold movesRun
  rw [h]
  dsimp only
  rw [he]

theorem movesRun_stop {xs ys : List Int} {s s' s'' : CN} {k : Nat} (h : movesRun xs k s = some (ys, s')) (he : moveZ s' (ys.getD k 0) = (none, s'')) : movesRun xs (k + 1) s = none := by
  unfold movesRun
  rw [h]
  dsimp only
  rw [he]

structure Mvs (S : List Int) (N j : Nat) (s : CN) : Prop where
  len : s.ws.length = N
  nums : Nums s.h N
  fro : Fro S s.ws s.h
  r0 : 0 ≤ s.r
  r1 : s.r ≤ 40000 + 2 * j + s.h.bottom
  t0 : 0 ≤ s.t
  t1 : s.t ≤ 40000 + 2 * s.h.bottom

theorem Mvs.asks {S : List Int} {N j : Nat} {s : CN} {x : Int} (c : Mvs S N j s) (hj : j ≤ 30) (ha : Aim S s.h N x) : 0 ≤ s.h.to ∧ s.h.to ≤ s.h.size ∧ s.h.size ≤ 4000 ∧ 0 ≤ s.h.bottom ∧ s.h.bottom ≤ s.h.top ∧ s.h.top ≤ (N : Int) ∧ N ≤ 8000 ∧ s.r ≤ 70000 ∧ s.t ≤ 70000 ∧ MoveOk s.ws s.h N x ∧ hereZ s.h x = !lateZ s.h x := by
  have o1 := c.nums.s0
  have o2 := c.nums.s1
  have o3 := c.nums.len
  have o4 := c.nums.to
  have o5 := c.nums.b0
  have o6 := c.nums.bt
  have o7 := c.nums.te
  have e1 := c.r1
  have e2 := c.t1
  exact ⟨by omega, by omega, o2, by omega, o6, by omega, by omega, by omega, by omega, aim_move c.nums c.fro ha, aim_here c.nums ha⟩

theorem Mvs.step {S : List Int} {N j : Nat} {s : CN} {x : Int} (c : Mvs S N j s) (ha : Aim S s.h N x) : Mvs S N (j + 1) (moveZ s x).2 ∧ ∀ y, Aim S s.h N y → Aim S (moveZ s x).2.h N y := by
  have m := moveZ_keeps c.len c.nums c.fro ha
  have e1 := m.r0
  have e2 := m.r1
  have e3 := m.t0
  have e4 := m.t1
  have e5 := c.r0
  have e6 := c.r1
  have e7 := c.t0
  have e8 := c.t1
  have e9 := m.grow
  refine ⟨⟨m.len.trans c.len, m.nums, m.fro, by omega, by push_cast; omega, by omega, by omega⟩, fun y hy hy8 => ?_⟩
  obtain ⟨a1, a2, a3⟩ := hy hy8
  refine ⟨a1, a2, fun ho => a3 ?_⟩
  rw [m.h] at ho
  exact ho

theorem movesRun_mvs {S : List Int} {N j : Nat} {s : CN} {xs : List Int} (c : Mvs S N j s) (ha : ∀ i, i < xs.length → Aim S s.h N (xs.getD i 0)) : ∀ k, k ≤ xs.length → ∀ ys s', movesRun xs k s = some (ys, s') → Mvs S N (j + k) s' ∧ ys.length = xs.length ∧ ∀ i, k ≤ i → i < xs.length → ys.getD i 0 = xs.getD i 0 ∧ Aim S s'.h N (xs.getD i 0)
  | 0, _, ys, s', h => by
    cases h
    exact ⟨c, rfl, fun i _ hi => ⟨rfl, ha i hi⟩⟩
  | k + 1, hk, ys, s', h => by
    unfold movesRun at h
    cases h1 : movesRun xs k s with
    | none => rw [h1] at h; cases h
    | some r =>
      obtain ⟨zs, s1⟩ := r
      rw [h1] at h
      obtain ⟨c1, hl, hi⟩ := movesRun_mvs c ha k (by omega) zs s1 h1
      dsimp only at h
      obtain ⟨e1, e2⟩ := hi k (Nat.le_refl _) (by omega)
      rw [← e1] at e2
      obtain ⟨c2, hA⟩ := c1.step e2
      cases h2 : moveZ s1 (zs.getD k 0) with
      | mk o s2 =>
        rw [h2] at h c2 hA
        cases o with
        | none => cases h
        | some y =>
          cases h
          refine ⟨c2, by rw [List.length_set, hl], fun i h3 h4 => ?_⟩
          obtain ⟨f1, f2⟩ := hi i (by omega) h4
          refine ⟨?_, hA _ f2⟩
          rw [getD_set, if_neg (by omega)]
          exact f1

theorem lay_used {ws S : List Int} {h : HpN} (ho : Ordered h ws.length) (hs : specLay ws h = some S) : ∀ a : Nat, inZ h (a : Int) = true → S.getD a 0 ≠ 0 → (a : Int) + S.getD a 0 ≤ h.to + h.size := by
  obtain ⟨o1, o2, o3, o4, o5, o6, o7, o8, o9, o10, o11, o12, o13⟩ := ho
  unfold specLay at hs
  intro a ha hS
  rw [inZ_iff] at ha
  cases h1 : lay ws h.to.toNat h.bottom.toNat (List.replicate ws.length 0) with
  | none => rw [h1] at hs; cases hs
  | some S1 =>
    rw [h1] at hs
    dsimp only at hs
    obtain ⟨a1, a2, a3, a4⟩ := lay_apart h1 (by simp; omega) (fun a b _ ha _ => absurd (zeros_getD _ a) ha) (fun a => by rw [zeros_getD]; omega) (fun a ha => absurd (zeros_getD _ a) ha)
    have a4' : ∀ a : Nat, S1.getD a 0 ≠ 0 → h.to.toNat ≤ a ∧ (a : Int) + S1.getD a 0 ≤ h.bottom.toNat := fun a ha => by
      rcases a4 a ha with ⟨j, _⟩ | j
      · exact absurd (zeros_getD _ a) j
      · exact j
    rw [List.length_replicate] at a3
    cases h2 : lay ws h.top.toNat (h.to + h.size).toNat S1 with
    | none => rw [h2] at hs; cases hs
    | some S2 =>
      rw [h2] at hs
      dsimp only at hs
      obtain ⟨b1, b2, b3, b4⟩ := lay_apart h2 (by omega) a1 a2 (fun a ha => by have := a4' a ha; omega)
      have b4' : ∀ a : Nat, S2.getD a 0 ≠ 0 → h.to.toNat ≤ a ∧ (a : Int) + S2.getD a 0 ≤ (h.to + h.size).toNat := fun a ha => by
        rcases b4 a ha with ⟨j1, j2⟩ | j
        · have := a4' a j1
          omega
        · omega
      by_cases hb : h.scan < h.bottom
      · rw [if_pos hb] at hs
        cases h3 : lay ws (h.size - h.to).toNat h.fb.toNat S2 with
        | none => rw [h3] at hs; cases hs
        | some S3 =>
          rw [h3] at hs
          dsimp only at hs
          have e1 := lay_else hs a (by omega)
          have e2 := lay_else h3 a (by omega)
          rw [e1, e2] at hS ⊢
          have := b4' a hS
          omega
      · rw [if_neg hb] at hs
        cases hs
        have := b4' a hS
        omega

theorem mvs_start {ws ws' S : List Int} {h h' : HpN} (ok : OkHeap ws S h) (hsz : h'.size = h.size) (hto : h'.to = h.to) (hl : ws'.length = ws.length) (hd : ∀ a : Nat, inZ h (a : Int) = true → S.getD a 0 ≠ 0 → ws'.getD a 0 / 16 = S.getD a 0) {r t : Int} (hr : 0 ≤ r) (hr1 : r ≤ 40000) (ht : 0 ≤ t) (ht1 : t ≤ 40000) : Mvs S ws.length 0 ⟨ws', flipH h', r, t⟩ := by
  have hn := heads_noted ok.noted
  have hu := lay_used ok.ord ok.spec
  have hp := (lay_places ok.ord ok.spec).1
  obtain ⟨o1, o2, o3, o4, -⟩ := id ok.ord
  have hO : ∀ a : Nat, Old (flipH h') a → inZ h (a : Int) = true := fun a ha => by
    unfold Old flipH at ha
    dsimp only at ha
    rw [inZ_iff]
    omega
  refine ⟨hl, ⟨?_, ?_, ?_, ?_, ?_, ?_, ?_⟩, ⟨fun a ha hS => ⟨(hn.2 a hS).1, ?_, hd a (hO a ha) hS⟩, hp⟩, hr, ?_, ht, ?_⟩
  all_goals unfold flipH
  all_goals dsimp only
  all_goals try omega
  have := hu a (hO a ha) hS
  omega

theorem used_aim {ws S : List Int} {h h' : HpN} {x : Int} (ok : OkHeap ws S h) (hx : wordOkZ S h x = true) : Aim S (flipH h') ws.length x := by
  rw [used_same ok] at hx
  intro hx8
  obtain ⟨a1, a2, a3, a4⟩ := specLeads_at hx8 hx
  exact ⟨a1, a2, fun _ => a3⟩
end Go.Proofs.Ytebpgglegnljgaa

namespace Go.Proofs.Ytebpgglegnljgaa
open Go.RowKit

theorem lay_sides {ws S : List Int} {h : HpN} (ho : Ordered h ws.length) (hs : specLay ws h = some S) : ∀ a : Nat, inZ h (a : Int) = true → S.getD a 0 ≠ 0 → (a : Int) + S.getD a 0 ≤ h.bottom ∨ h.top ≤ (a : Int) := by
  obtain ⟨o1, o2, o3, o4, o5, o6, o7, o8, o9, o10, o11, o12, o13⟩ := ho
  unfold specLay at hs
  intro a ha hS
  rw [inZ_iff] at ha
  cases h1 : lay ws h.to.toNat h.bottom.toNat (List.replicate ws.length 0) with
  | none => rw [h1] at hs; cases hs
  | some S1 =>
    rw [h1] at hs
    dsimp only at hs
    obtain ⟨a1, a2, a3, a4⟩ := lay_apart h1 (by simp; omega) (fun a b _ ha _ => absurd (zeros_getD _ a) ha) (fun a => by rw [zeros_getD]; omega) (fun a ha => absurd (zeros_getD _ a) ha)
    have a4' : ∀ a : Nat, S1.getD a 0 ≠ 0 → h.to.toNat ≤ a ∧ (a : Int) + S1.getD a 0 ≤ h.bottom.toNat := fun a ha => by
      rcases a4 a ha with ⟨j, _⟩ | j
      · exact absurd (zeros_getD _ a) j
      · exact j
    rw [List.length_replicate] at a3
    cases h2 : lay ws h.top.toNat (h.to + h.size).toNat S1 with
    | none => rw [h2] at hs; cases hs
    | some S2 =>
      rw [h2] at hs
      dsimp only at hs
      obtain ⟨b1, b2, b3, b4⟩ := lay_apart h2 (by omega) a1 a2 (fun a ha => by have := a4' a ha; omega)
      have b5 : ∀ a : Nat, S2.getD a 0 ≠ 0 → (a : Int) + S2.getD a 0 ≤ h.bottom ∨ h.top ≤ (a : Int) := fun a ha => by
        rcases b4 a ha with ⟨j1, j2⟩ | j
        · have := a4' a j1
          omega
        · omega
      by_cases hb : h.scan < h.bottom
      · rw [if_pos hb] at hs
        cases h3 : lay ws (h.size - h.to).toNat h.fb.toNat S2 with
        | none => rw [h3] at hs; cases hs
        | some S3 =>
          rw [h3] at hs
          dsimp only at hs
          have e1 := lay_else hs a (by omega)
          have e2 := lay_else h3 a (by omega)
          rw [e1, e2] at hS ⊢
          exact b5 a hS
      · rw [if_neg hb] at hs
        cases hs
        exact b5 a hS

structure UsdF (S : List Int) (h : HpN) (W : List Int) : Prop where
  apart : Apart S
  sides : ∀ a : Nat, inZ h (a : Int) = true → S.getD a 0 ≠ 0 → (a : Int) + S.getD a 0 ≤ h.bottom ∨ h.top ≤ (a : Int)
  heads : ∀ a : Nat, S.getD a 0 ≠ 0 → (S.getD a 0 = 3 ∨ S.getD a 0 = 6) ∧ W.getD a 0 / 16 = S.getD a 0
  b0 : 0 ≤ h.bottom
  bt : h.bottom ≤ h.top
  te : h.top ≤ h.to + h.size

structure Usd (S : List Int) (h : HpN) (W : List Int) (s : CN) : Prop where
  to : s.h.to = h.to
  size : s.h.size = h.size
  top : s.h.top = h.top
  bot : h.bottom ≤ s.h.bottom
  kept : ∀ a : Nat, inZ h (a : Int) = true → S.getD a 0 ≠ 0 → s.ws.getD a 0 = W.getD a 0
  row : s.h.scan < h.bottom → LayRow S s.h.scan.toNat h.bottom.toNat

theorem fields_usd {S W : List Int} {h : HpN} {N p n : Nat} {s : CN} (F : UsdF S h W) (c : Inn S N p n 0 s) (u : Usd S h W s) (hpn : (p : Int) < h.bottom → S.getD p 0 = n) : ∀ k, k < n → ∀ s', fieldsRun p k s = some s' → Usd S h W s'
  | 0, _, s', he => by cases he; exact u
  | k + 1, hk, s', he => by
    unfold fieldsRun at he
    cases h1 : fieldsRun p k s with
    | none => rw [h1] at he; cases he
    | some s1 =>
      rw [h1] at he
      have c1 := fieldsRun_inn c k (by omega) s1 h1
      have u1 := fields_usd F c u hpn k (by omega) s1 h1
      dsimp only at he
      cases h2 : fieldZ s1 (p + (k + 1)) with
      | mk o s2 =>
        rw [h2] at he
        cases o with
        | none => cases he
        | some y =>
          cases he
          have o1 := c1.nums.s0
          have o4 := c1.nums.to
          have o5 := c1.nums.b0
          have o6 := c1.nums.bt
          have o7 := c1.nums.te
          have e3 := c1.pn
          have e5 := c1.sc0
          have v1 := u1.to
          have v2 := u1.size
          have v3 := u1.top
          have v4 := u1.bot
          have hnq : ∀ j : Nat, s1.h.to ≤ (j : Int) → (j : Int) < s1.h.to + s1.h.size → ¬ Old s1.h j := fun j h1 h2 h3 => by unfold Old at h3; omega
          obtain ⟨f1, f2, f3, f4, f5, f6, f7, f8, f9, f10, f11, f12⟩ := fieldZ_keeps c1.len c1.nums c1.fro (c1.left (k + 1) (by omega) hk) (hnq _ (by omega) (by omega)) (by omega) h2
          have t1 : s'.h.to = s1.h.to := by rw [f2]
          have t2 : s'.h.size = s1.h.size := by rw [f2]
          have t3 : s'.h.top = s1.h.top := by rw [f2]
          have t4 : s'.h.scan = s1.h.scan := by rw [f2]
          have t5 := f3.bt
          refine ⟨by omega, by omega, by omega, by omega, fun a ha hS => ?_, fun hb => ?_⟩
          · have hz := inZ_iff.1 ha
            have hs := F.sides a ha hS
            have hh := (F.heads a hS).1
            have hb := F.bt
            rw [f6 a (hnq _ (by omega) (by omega)) ?_ (by omega)]
            · exact u1.kept a ha hS
            · intro e
              by_cases hp : (p : Int) < h.bottom
              · have hp' := hpn hp
                have := F.apart p a (by omega) (by omega) hS
                omega
              · omega
          · rw [t4] at hb ⊢
            exact u1.row hb

theorem scanOne_usd {S W : List Int} {h : HpN} {N : Nat} {s s' : CN} (F : UsdF S h W) (c : Scn S N s) (u : Usd S h W s) (he : scanOne s = some s') : Usd S h W s' := by
  unfold scanOne at he
  by_cases hb : s.h.scan = s.h.bottom
  · rw [if_pos hb] at he
    cases he
    exact u
  · rw [if_neg hb] at he
    obtain ⟨p, n, hp, hd, ci⟩ := c.enter hb
    have hpt : s.h.scan.toNat = p := by omega
    have hn := ci.hn
    have q1 := c.sc0
    have q2 := u.to
    have q3 := F.bt
    have q4 := F.te
    have q5 := F.b0
    have hrow : (p : Int) < h.bottom → S.getD p 0 = n ∧ LayRow S (p + n) h.bottom.toNat := fun hlt => by
      have r := u.row (by omega)
      rw [hpt] at r
      generalize hbb : h.bottom.toNat = b at r
      cases r with
      | nil => omega
      | cons m hm hS rest =>
        have hS0 : S.getD p 0 ≠ 0 := by omega
        have e1 := u.kept p (inZ_iff.2 ⟨by omega, by omega⟩) hS0
        have e2 := (F.heads p hS0).2
        rw [← e1, hd] at e2
        have e3 : m = n := by omega
        rw [e3] at rest
        exact ⟨e2.symm, rest⟩
    rw [hpt, hd, Int.toNat_natCast] at he
    cases h1 : fieldsRun p (n - 1) { s with r := s.r + 1 } with
    | none => rw [h1] at he; cases he
    | some s1 =>
      rw [h1] at he
      cases he
      have u1 := fields_usd F ci ⟨u.to, u.size, u.top, u.bot, u.kept, u.row⟩ (fun hlt => (hrow hlt).1) (n - 1) (by omega) s1 h1
      refine ⟨u1.to, u1.size, u1.top, u1.bot, u1.kept, fun hlt => ?_⟩
      dsimp only at hlt ⊢
      rw [hp, show ((p : Int) + (n : Int)).toNat = p + n by omega]
      exact (hrow (by omega)).2

theorem scanRun_usd {S W : List Int} {h : HpN} {N : Nat} {s : CN} (F : UsdF S h W) (c : Scn S N s) (u : Usd S h W s) : ∀ k s', scanRun k s = some s' → Usd S h W s'
  | 0, s', he => by cases he; exact u
  | k + 1, s', he => by
    unfold scanRun at he
    cases h1 : scanRun k s with
    | none => rw [h1] at he; cases he
    | some s1 =>
      rw [h1] at he
      exact scanOne_usd F (scanRun_scn c k s1 h1) (scanRun_usd F c u k s1 h1) he

theorem usd_facts {ws S : List Int} {h : HpN} (ok : OkHeap ws S h) : UsdF S h ws := by
  obtain ⟨p1, p2, p3⟩ := lay_places ok.ord ok.spec
  have hd := heads_noted ok.noted
  obtain ⟨o1, o2, o3, o4, o5, o6, o7, o8, o9, o10, o11, o12, o13⟩ := id ok.ord
  exact ⟨p1, lay_sides ok.ord ok.spec, fun a hS => ⟨(hd.2 a hS).1, (hd.2 a hS).2.2⟩, by omega, o9, o10⟩

theorem usd_start {ws S : List Int} {h : HpN} (ok : OkHeap ws S h) : Usd S h ws ⟨ws, h, 0, 0⟩ := by
  obtain ⟨p1, p2, p3⟩ := lay_places ok.ord ok.spec
  obtain ⟨o1, o2, o3, o4, o5, o6, o7, o8, o9, o10, o11, o12, o13⟩ := id ok.ord
  refine ⟨rfl, rfl, rfl, Int.le_refl _, fun _ _ _ => rfl, fun hb => ?_⟩
  dsimp only at hb ⊢
  exact p3.from p1 (c := h.scan.toNat) (by omega) (by omega) (ok.scan hb)

theorem mvs_scanned {ws S : List Int} {h : HpN} (ok : OkHeap ws S h) {n : Nat} {s : CN} (hr : scanRun n ⟨ws, h, 0, 0⟩ = some s) : Mvs S ws.length 0 { s with h := flipH s.h } := by
  have c := scanRun_scn (scn_start ok) n s hr
  have u := scanRun_usd (usd_facts ok) (scn_start ok) (usd_start ok) n s hr
  have F := usd_facts ok
  have o1 := c.nums.s0
  have o2 := c.nums.s1
  have o4 := c.nums.to
  have o6 := c.nums.bt
  have o7 := c.nums.te
  have e1 := c.r1
  have e2 := c.t1
  have e3 := c.row.le
  have e4 := c.sc0
  have e5 := c.nums.b0
  exact mvs_start ok u.size u.to c.len (fun a ha hS => by rw [u.kept a ha hS]; exact (F.heads a hS).2) c.r0 (by omega) c.t0 (by omega)
end Go.Proofs.Ytebpgglegnljgaa

namespace Go.Proofs.Ytebpgglegnljgaa
open Go.RowKit

def writesRun (fs : List Int) (a : Nat) : Nat → CN → CN
  | 0, s => s
  | k + 1, s => ⟨(writesRun fs a k s).ws.set (a + 1 + k) (fs.getD k 0), (writesRun fs a k s).h, (writesRun fs a k s).r, (writesRun fs a k s).t + 1⟩

def headZ (kind : Int) (n a : Nat) (s : CN) : CN := ⟨s.ws.set a ((n : Int) * 16 + kind), { s.h with top := a }, s.r, s.t + 1⟩

def putZ (kind : Int) (fs : List Int) (s : CN) : CN := writesRun fs (s.h.top - (1 + fs.length : Nat)).toNat fs.length (headZ kind (1 + fs.length) (s.h.top - (1 + fs.length : Nat)).toNat s)

def makeRun (rs fs : List Int) (kind : Int) (m : Nat) (s0 : CN) : Option (List Int × CN) :=
  match scanRun m s0 with
  | none => none
  | some s =>
    if s.h.top - s.h.bottom < (1 + fs.length : Nat) then
      if s.h.scan = s.h.bottom then
        match movesRun rs rs.length { s with h := flipH s.h } with
        | none => none
        | some (rs', s1) => match movesRun fs fs.length s1 with
          | none => none
          | some (fs', s2) => if s2.h.top - s2.h.bottom < (1 + fs.length : Nat) then none else some (rs', putZ kind fs' s2)
      else none
    else some (rs, putZ kind fs s)

structure PutOk (N n : Nat) (s : CN) : Prop where
  len : s.ws.length = N
  t0 : 0 ≤ s.t
  t1 : s.t ≤ 70000
  b0 : 0 ≤ s.h.bottom
  room : s.h.bottom + n ≤ s.h.top
  top : s.h.top ≤ N
  N1 : N ≤ 8000

theorem Scn.put {S : List Int} {N n : Nat} {s : CN} (c : Scn S N s) (hr : ¬ s.h.top - s.h.bottom < n) : PutOk N n s := by
  have o1 := c.nums.s0
  have o2 := c.nums.s1
  have o3 := c.nums.len
  have o4 := c.nums.to
  have o5 := c.nums.b0
  have o6 := c.nums.bt
  have o7 := c.nums.te
  have e2 := c.t1
  have e3 := c.row.le
  have e4 := c.sc0
  exact ⟨c.len, c.t0, by omega, by omega, by omega, by omega, by omega⟩

theorem Mvs.put {S : List Int} {N n j : Nat} {s : CN} (c : Mvs S N j s) (hr : ¬ s.h.top - s.h.bottom < n) : PutOk N n s := by
  have o1 := c.nums.s0
  have o2 := c.nums.s1
  have o3 := c.nums.len
  have o4 := c.nums.to
  have o5 := c.nums.b0
  have o6 := c.nums.bt
  have o7 := c.nums.te
  have e2 := c.t1
  exact ⟨c.len, c.t0, by omega, by omega, by omega, by omega, by omega⟩

theorem writesRun_keeps (fs : List Int) (a : Nat) (s : CN) : ∀ k, (writesRun fs a k s).ws.length = s.ws.length ∧ (writesRun fs a k s).h = s.h ∧ (writesRun fs a k s).r = s.r ∧ (writesRun fs a k s).t = s.t + k
  | 0 => ⟨rfl, rfl, rfl, by simp [writesRun]⟩
  | k + 1 => by
    obtain ⟨h1, h2, h3, h4⟩ := writesRun_keeps fs a s k
    unfold writesRun
    refine ⟨by rw [List.length_set, h1], h2, h3, ?_⟩
    dsimp only
    rw [h4]
    push_cast
    omega

theorem used_aim_any {ws S : List Int} {h : HpN} {x : Int} (ok : OkHeap ws S h) (hx : wordOkZ S h x = true) (h' : HpN) : Aim S h' ws.length x := by
  rw [used_same ok] at hx
  intro hx8
  obtain ⟨a1, a2, a3, a4⟩ := specLeads_at hx8 hx
  exact ⟨a1, a2, fun _ => a3⟩
end Go.Proofs.Ytebpgglegnljgaa

namespace Go.Proofs.Ytebpgglegnljgaa
open Go.RowKit

theorem Col.scanned {w0 W : World} {bc bw N cap : Nat} {ws : List Int} {h : HpN} {r t : Int} (c : Col w0 bc bw N cap ws h r t W) (x : Int) : Col w0 bc bw N cap ws { h with scan := x } r t (W.setCell ⟨bc, 5, none⟩ (.int .i64 x)) :=
  ⟨by simpa [ColBlk] using set_block c.blk 5 (.int .i64 x), c.row.of_block (Below.heap_setCell _ _ _ _ (fun e => c.ne e.symm)), c.len, c.ne, c.frame.set (Or.inl rfl) _⟩

def ColAt (w0 : World) (bc bw N cap : Nat) (s : CN) (W : World) : Prop := Col w0 bc bw N cap s.ws s.h s.r s.t W

def LookPost (w0 : World) (bc bw N cap : Nat) (o : Option CN) (e : Ending) (w' : World) : Prop :=
  match o with
  | some s => e = .returned (.bool true) ∧ ColAt w0 bc bw N cap s w'
  | none => e = .returned (.bool false) ∧ ∃ s, ColAt w0 bc bw N cap s w'

theorem fieldsRun_none {p : Nat} {s : CN} {k : Nat} (h : fieldsRun p k s = none) : ∀ j, fieldsRun p (k + j) s = none
  | 0 => h
  | j + 1 => by
    rw [← Nat.add_assoc]
    unfold fieldsRun
    rw [fieldsRun_none h j]

theorem fieldsRun_more {p : Nat} {s s' s'' : CN} {k : Nat} {y : Int} (h : fieldsRun p k s = some s') (he : fieldZ s' (p + (k + 1)) = (some y, s'')) : fieldsRun p (k + 1) s = some s'' := by
  unfold fieldsRun
  rw [h]
  dsimp only
  rw [he]

theorem fieldsRun_stop {p : Nat} {s s' s'' : CN} {k : Nat} (h : fieldsRun p k s = some s') (he : fieldZ s' (p + (k + 1)) = (none, s'')) : fieldsRun p (k + 1) s = none := by
  unfold fieldsRun
  rw [h]
  dsimp only
  rw [he]

theorem scanRun_more {s s' : CN} {k p n : Nat} (h : scanRun k s = some s') (hp : s'.h.scan = p) (hn : s'.ws.getD p 0 / 16 = n) (hb : s'.h.scan ≠ s'.h.bottom) : scanRun (k + 1) s = match fieldsRun p (n - 1) { s' with r := s'.r + 1 } with
    | none => none
    | some s2 => some { s2 with h := { s2.h with scan := (p : Int) + n } } := by
  unfold scanRun
  rw [h]
  dsimp only
  unfold scanOne
  rw [if_neg hb, show s'.h.scan.toNat = p by omega, hn, hp, Int.toNat_natCast]
  try rfl

set_option maxHeartbeats 4000000 in
set_option maxRecDepth 100000 in
theorem look_calls {w0 W : World} {bc bw N cap : Nat} {S : List Int} (s : CN) (c : ColAt w0 bc bw N cap s W) (hs : Scn S N s) (m : Nat) (hm : m ≤ 4000) :
    Calls Try.prog 50 #[.pointer (some ⟨bc, 0, none⟩), .int .i64 (m : Int)] W (LookPost w0 bc bw N cap (scanRun m s)) := by
  have HC := hid c
  have HS := hid hs
  obtain ⟨R, hR⟩ : ∃ R, scanRun m s = R := ⟨_, rfl⟩
  rw [hR]
  have HR := hid hR
  clear c hs hR
  go_enter Try.func50, Try.ntmps50
  go_wp2_with fail
  go_loopw [1] (fun o wr => ∃ (j : Int) (k : Nat) (s' : CN), o = .int .i64 j ∧ Hid (0 ≤ j ∧ (k : Int) + j = m) ∧ Hid (scanRun k s = some s') ∧ Hid (ColAt w0 bc bw N cap s' wr)) (fun o _ => (intOf o).toNat)
  case atStart => exact ⟨m, 0, s, rfl, ⟨by omega, by omega⟩, rfl, HC.out⟩
  case round =>
    obtain ⟨j, k, s', rfl, HJ, HK, HI⟩ := hrel
    clear HC
    have HSc := hid (scanRun_scn HS.out k s' HK.out)
    have c5 := HI.out.blk.cells.2.2.2.2.2.1
    have c3 := HI.out.blk.cells.2.2.2.1
    have hfin : ∀ (hx : s'.h.scan = s'.h.bottom ∨ j = 0), Hid (R = some s') := fun hx => by
      rcases hx with hx | hx
      · have := scanRun_end HK.out hx j.toNat
        rw [show k + j.toNat = m by have := HJ.out; omega, HR.out] at this
        exact this
      · have h1 : k = m := by have := HJ.out; omega
        have := HK.out
        rw [h1, HR.out] at this
        exact this
    rename World => wo
    by_cases hj : 0 < j
    case neg =>
      have HF := hfin (Or.inr (by have := HJ.out; omega))
      have hd : decide (0 < j) = false := decide_eq_false hj
      clear hfin hj
      go_wp2_with fail
      go_quiet (fail)
      go_wp2_with fail
      go_ret
      rw [HF.out]
      exact ⟨rfl, HI.out.keep (below_drewN (Below.refl _ _) _)⟩
    case pos =>
    have hd : decide (0 < j) = true := decide_eq_true hj
    by_cases hb : s'.h.scan < s'.h.bottom
    case neg =>
      have HF := hfin (Or.inl (by
        have h1 := HSc.out.row.le
        have h2 := HSc.out.sc0
        have h3 := HSc.out.nums.to
        have h4 := HSc.out.nums.s0
        have h5 := HSc.out.nums.b0
        omega))
      clear hfin hj
      go_wp2_with fail
      go_quiet (fail)
      go_wp2_with fail
      go_ret
      rw [HF.out]
      exact ⟨rfl, HI.out.keep (below_drewN (Below.refl _ _) _)⟩
    case pos =>
    clear hfin
    obtain ⟨p, n, hp, hn, hin⟩ := HSc.out.enter (by omega)
    have HIn := hid hin
    have hn3 := hin.hn
    have hpN : p < N := by have := hin.asks (by omega); omega
    have hr0 := HSc.out.r0
    have hr1 : s'.r ≤ 60000 := by have := (hin.asks (by omega)); have := this.2.2.2.2.2.2.2.2.1; dsimp only at this; omega
    have HMo := hid (scanRun_more HK.out hp hn (by omega))
    have HRd := hid (fun nq => read_calls (HI.out.keep (below_drewN (Below.refl _ _) nq)) (i := p) hpN hr0 (by omega))
    rw [hp] at c5
    have c5' : ∀ nq, (wo.drewN nq).cell? ⟨bc, 5, none⟩ = some (.int .i64 (p : Int)) := fun nq => c5
    rw [hp] at hb
    clear hin
    have HPn := hid hn
    have HPp := hid hp
    clear hn hp
    go_wp2_with fail
    go_quiet (fail)
    have HRd' := hid (HRd.out nq)
    have c5n := c5' nq
    clear HRd c5 c5' c3
    generalize wo.drewN nq = W2 at *
    generalize hF : s'.ws.getD p 0 = F at *
    have HPn' : F / 16 = (n : Int) := HPn.out
    go_wp2_with fail
    refine HRd'.out.mono ?_
    rintro e W3 ⟨rfl, hC3⟩
    have HC3 : Hid (ColAt w0 bc bw N cap { s' with r := s'.r + 1 } W3) := hC3
    clear hC3 HRd' HI
    clear c5n hr0 hr1
    go_wp2_with fail
    go_loopw [6] (fun i wr => ∃ (ii : Int) (q : Nat) (s2 : CN), i = .int .i64 ii ∧ Hid (ii = (q : Int) + 1 ∧ q + 1 ≤ n) ∧ Hid (fieldsRun p q { s' with r := s'.r + 1 } = some s2) ∧ Hid (ColAt w0 bc bw N cap s2 wr)) (fun i _ => n - (intOf i).toNat)
    case atStart => exact ⟨1, 0, _, rfl, ⟨rfl, by omega⟩, rfl, HC3.out⟩
    case round =>
      obtain ⟨ii, q, s2, rfl, HQ, HK2, HI2⟩ := hrel
      clear HC3
      have HIq := hid (fieldsRun_inn HIn.out q (by have := HQ.out; omega) s2 HK2.out)
      have c5 := HI2.out.blk.cells.2.2.2.2.2.1
      rw [HIq.out.sc] at c5
      have h1n : 1 ≤ ii := by have := HQ.out; omega
      by_cases hlt : ii < (n : Int)
      · have hq1 : q + 1 < n := by have := HQ.out; omega
        obtain ⟨k1, k2, k3, k4, k5, k6, k7, k8, k9, k10, k11, k12⟩ := HIq.out.asks hq1
        have HFd := hid (field_calls s2 HI2.out (p + (q + 1)) k1 k2 k3 k4 k5 k6 k7 k8 HIq.out.r0 k9 HIq.out.t0 k10 k11)
        rw [show ((p + (q + 1) : Nat) : Int) = (p : Int) + ii by have := HQ.out; omega] at HFd
        obtain ⟨o, s3, hz⟩ : ∃ o s3, fieldZ s2 (p + (q + 1)) = (o, s3) := ⟨_, _, rfl⟩
        rw [hz] at HFd
        have HZ := hid hz
        have hpb : (p : Int) ≤ 8000 := by omega
        clear k1 k2 k3 k4 k5 k6 k7 k9 k10 k11 k12 hz HI2
        cases o with
        | some y =>
          dsimp only [moveV] at HFd
          go_wp2_with fail
          refine HFd.out.mono ?_
          rintro e W4 ⟨rfl, hC4⟩
          have HC4 : Hid (ColAt w0 bc bw N cap s3 W4) := hC4
          clear hC4 HFd c5
          go_wp2_with fail
          have hs : n - (intOf (.int .i64 (ii + 1))).toNat < n - (intOf (.int .i64 ii)).toNat := by simp only [intOf]; have := HQ.out; omega
          exact ⟨⟨ii + 1, q + 1, s3, rfl, ⟨by have := HQ.out; push_cast; omega, by omega⟩, fieldsRun_more HK2.out HZ.out, HC4.out⟩, hs⟩
        | none =>
          dsimp only [moveV] at HFd
          have HF : Hid (R = none) := by
            have h1 := fieldsRun_none (fieldsRun_stop HK2.out HZ.out) (n - 1 - (q + 1))
            rw [show q + 1 + (n - 1 - (q + 1)) = n - 1 by omega] at h1
            have h2 := HMo.out
            rw [h1] at h2
            have h3 := scanRun_none h2 (m - (k + 1))
            rw [show k + 1 + (m - (k + 1)) = m by have := HJ.out; omega, HR.out] at h3
            exact h3
          go_wp2_with fail
          refine HFd.out.mono ?_
          rintro e W4 ⟨rfl, hC4⟩
          have HC4 : Hid (ColAt w0 bc bw N cap s3 W4) := hC4
          clear hC4 HFd c5
          go_wp2_with fail
          go_ret
          rw [HF.out]
          exact ⟨rfl, s3, HC4.out⟩
      · have hqn : q = n - 1 := by have := HQ.out; omega
        have f5 := frozen_of_heap HI2.out.blk 5
        have hpb : (p : Int) + n ≤ 8000 := by
          have h1 := HIq.out.pn
          have h2 := HIq.out.nums.bt
          have h3 := HIq.out.nums.te
          have h4 := HIq.out.nums.to
          have h5 := HIq.out.nums.s1
          omega
        have HF : Hid (scanRun (k + 1) s = some { s2 with h := { s2.h with scan := (p : Int) + n } }) := by
          have h2 := HMo.out
          have h1 := HK2.out
          rw [hqn] at h1
          rw [h1] at h2
          exact h2
        have HC4 := hid (Col.scanned HI2.out ((p : Int) + n))
        clear HI2 HIq hqn
        go_wp2_with fail
        have hs : (intOf (.int .i64 (j - 1))).toNat < (intOf (.int .i64 j)).toNat := by simp only [intOf]; omega
        have hw : wrap64 (j - 1) = j - 1 := by have := HJ.out; unfold wrap64; omega
        rw [hw]
        exact ⟨⟨j - 1, k + 1, _, rfl, ⟨by have := HJ.out; omega, by have := HJ.out; push_cast; omega⟩, HF.out, HC4.out⟩, hs⟩
end Go.Proofs.Ytebpgglegnljgaa

namespace Go.Proofs.Ytebpgglegnljgaa
open Go.RowKit

def Frm3 (w0 : World) (b1 b2 b3 : Nat) (W : World) : Prop := W.os = w0.os ∧ W.tape = w0.tape ∧ W.output = w0.output ∧ w0.heap.size ≤ W.heap.size ∧ ∀ g, g < w0.heap.size → g ≠ b1 → g ≠ b2 → g ≠ b3 → W.heap[g]? = w0.heap[g]?

theorem Frm3.refl (w : World) (b1 b2 b3 : Nat) : Frm3 w b1 b2 b3 w := ⟨rfl, rfl, rfl, Nat.le_refl _, fun _ _ _ _ _ => rfl⟩

theorem Frm3.step {w0 W W' : World} {b1 b2 b3 : Nat} (f : Frm3 w0 b1 b2 b3 W) (g : Frm W b1 b2 W') : Frm3 w0 b1 b2 b3 W' := by
  obtain ⟨f1, f2, f3, f4, f5⟩ := f
  exact ⟨g.os.trans f1, g.tape.trans f2, g.output.trans f3, Nat.le_trans f4 g.size, fun c hc h1 h2 h3 => (g.block c (Nat.lt_of_lt_of_le hc f4) h1 h2).trans (f5 c hc h1 h2 h3)⟩

theorem Frm3.trans {w0 W W' : World} {b1 b2 b3 : Nat} (f : Frm3 w0 b1 b2 b3 W) (g : Frm3 W b1 b2 b3 W') : Frm3 w0 b1 b2 b3 W' := by
  obtain ⟨f1, f2, f3, f4, f5⟩ := f
  obtain ⟨g1, g2, g3, g4, g5⟩ := g
  exact ⟨g1.trans f1, g2.trans f2, g3.trans f3, Nat.le_trans f4 g4, fun c hc h1 h2 h3 => (g5 c (Nat.lt_of_lt_of_le hc f4) h1 h2 h3).trans (f5 c hc h1 h2 h3)⟩

theorem Frm3.set {w0 W : World} {b1 b2 b3 : Nat} (f : Frm3 w0 b1 b2 b3 W) (i : Nat) (v : Value) : Frm3 w0 b1 b2 b3 (W.setCell ⟨b3, i, none⟩ v) := by
  obtain ⟨f1, f2, f3, f4, f5⟩ := f
  exact ⟨f1, f2, f3, by simpa [World.setCell] using f4, fun c hc h1 h2 h3 => (Below.heap_setCell _ _ _ _ h3).trans (f5 c hc h1 h2 h3)⟩

theorem row_set {W : World} {g n : Nat} {xs : List Int} (hr : CellRow 3 W g n (intCells xs)) (hl : xs.length = n) {i : Nat} (hi : i < n) (x : Int) : CellRow 3 (W.setCell ⟨g, i, none⟩ (.int .i64 x)) g n (intCells (xs.set i x)) := by
  obtain ⟨N', f, hrow, hN', hf⟩ := hr
  exact ⟨N', _, hrow.set i _, hN', int_set xs i (by omega) x hf⟩

theorem Col.beside {w0 W : World} {bc bw N cap g : Nat} {ws : List Int} {h : HpN} {r t : Int} (c : Col w0 bc bw N cap ws h r t W) (h1 : g ≠ bc) (h2 : g ≠ bw) (i : Nat) (x : Value) : Col (W.setCell ⟨g, i, none⟩ x) bc bw N cap ws h r t (W.setCell ⟨g, i, none⟩ x) :=
  ⟨(Below.heap_setCell _ _ _ _ (fun e => h1 e.symm)).trans c.blk, c.row.of_block (Below.heap_setCell _ _ _ _ (fun e => h2 e.symm)), c.len, c.ne, Frm.refl _ _ _⟩

def MovesPost (W : World) (bc bw N cap g n : Nat) (o : Option (List Int × CN)) (e : Ending) (w' : World) : Prop :=
  match o with
  | some (ys, s) => e = .returned (.bool true) ∧ ColAt w' bc bw N cap s w' ∧ CellRow 3 w' g n (intCells ys) ∧ Frm3 W bc bw g w'
  | none => e = .returned (.bool false) ∧ (∃ s, ColAt w' bc bw N cap s w') ∧ Frm3 W bc bw g w'

set_option maxHeartbeats 4000000 in
set_option maxRecDepth 100000 in
theorem moveAll_calls {w0 W : World} {bc bw N cap g n gcap j : Nat} {S : List Int} (s : CN) (c : ColAt w0 bc bw N cap s W) (hs : Mvs S N j s) (xs : List Int) (hl : xs.length = n) (hn : j + n ≤ 30) (hg1 : g ≠ bc) (hg2 : g ≠ bw) (hr : CellRow 3 W g n (intCells xs)) (ha : ∀ i, i < xs.length → Aim S s.h N (xs.getD i 0)) :
    Calls Try.prog 71 #[.pointer (some ⟨bc, 0, none⟩), .slice (some ⟨g, 0, none⟩) n gcap] W (MovesPost W bc bw N cap g n (movesRun xs n s)) := by
  have HC := hid (Col.rebase c W (Frm.refl _ _ _))
  have HRw := hid hr
  have HMv := hid (movesRun_mvs hs ha)
  obtain ⟨R, hR⟩ : ∃ R, movesRun xs n s = R := ⟨_, rfl⟩
  rw [hR]
  have HR := hid hR
  have HL := hid hl
  have HG1 := hid hg1
  have HG2 := hid hg2
  have HNn := hid hn
  clear c hr hR hs ha hl hg1 hg2 hn
  go_enter Try.func71, Try.ntmps71
  go_wp2_with fail
  go_loopw [11] (fun i wr => ∃ (ii : Int) (k : Nat) (ys : List Int) (s' : CN), i = .int .i64 ii ∧ Hid (ii = (k : Int) ∧ k ≤ n) ∧ Hid (movesRun xs k s = some (ys, s')) ∧ Hid (ColAt wr bc bw N cap s' wr) ∧ Hid (CellRow 3 wr g n (intCells ys)) ∧ Hid (Frm3 W bc bw g wr)) (fun i _ => n - (intOf i).toNat)
  case atStart => exact ⟨0, 0, xs, s, rfl, ⟨rfl, by omega⟩, rfl, HC.out, HRw.out, Frm3.refl _ _ _ _⟩
  case round =>
    obtain ⟨ii, k, ys, s', rfl, HQ, HK, HI, HRo, HF3⟩ := hrel
    clear HC HRw
    have hi0 : 0 ≤ ii := by have := HQ.out; omega
    by_cases hlt : ii < (n : Int)
    · have hkn : k < n := by have := HQ.out; omega
      obtain ⟨m1, m2, m3⟩ := HMv.out k (by have := HL.out; omega) ys s' HK.out
      obtain ⟨e1, e2⟩ := m3 k (Nat.le_refl _) (by have := HL.out; omega)
      rw [← e1] at e2
      obtain ⟨k2, k3, k4, k5, k6, k7, k8, k9, k10, k11, k12⟩ := m1.asks (by have := HNn.out; omega) e2
      have HMo := hid (move_calls s' HI.out (ys.getD k 0) k2 k3 k4 k5 k6 k7 k8 m1.r0 k9 m1.t0 k10 k11)
      have q0 := HRo.out.cell (i := k) hkn
      unfold intCells at q0
      obtain ⟨_, _, hrow, _, _⟩ := HRo.out
      have q1 := hrow.frozen k hkn
      have hik : ii.toNat = k := by have := HQ.out; omega
      have HLy : Hid (ys.length = n) := m2.trans HL.out
      obtain ⟨o, s2, hz⟩ : ∃ o s2, moveZ s' (ys.getD k 0) = (o, s2) := ⟨_, _, rfl⟩
      rw [hz] at HMo
      have HZ := hid hz
      clear hz m1 m2 m3 e1 e2 k2 k3 k4 k5 k6 k7 k8 k9 k10 k11 k12 hrow
      have hs : Hid (n - (intOf (.int .i64 (ii + 1))).toNat < n - (intOf (.int .i64 ii)).toNat) := by show _ < _; simp only [intOf]; have := HQ.out; omega
      cases o with
      | none =>
        dsimp only [moveV] at HMo
        have HF : Hid (R = none) := by
          have h1 := movesRun_none (movesRun_stop HK.out HZ.out) (n - (k + 1))
          rw [show k + 1 + (n - (k + 1)) = n by omega, HR.out] at h1
          exact h1
        go_wp2_with fail
        refine HMo.out.mono ?_
        rintro e W4 ⟨rfl, hC4⟩
        have HC4 := hid hC4
        clear hC4 HMo q0 q1
        go_wp2_with fail
        go_ret
        rw [HF.out]
        exact ⟨rfl, ⟨s2, HC4.out.rebase _ (Frm.refl _ _ _)⟩, HF3.out.step HC4.out.frame⟩
      | some y =>
        dsimp only [moveV] at HMo
        go_wp2_with fail
        refine HMo.out.mono ?_
        rintro e W4 ⟨rfl, hC4⟩
        have HC4 := hid hC4
        have hblk := hC4.frame.block g HRo.out.lt HG1.out HG2.out
        have HRo4 := hid (HRo.out.of_block hblk)
        have q0' : W4.cell? ⟨g, k, none⟩ = some (.int .i64 (ys.getD k 0)) := (World.cell?_of_block (w := wr) hblk).trans q0
        obtain ⟨_, _, hrow, _, _⟩ := HRo4.out
        have q1' := hrow.frozen k hkn
        clear hC4 HMo q0 q1 hrow hblk
        go_wp2_with fail
        have hw : wrap64 (ii + 1) = ii + 1 := by have := HQ.out; have := HNn.out; unfold wrap64; omega
        rw [hw]
        exact ⟨⟨ii + 1, k + 1, ys.set k y, s2, rfl, ⟨by have := HQ.out; push_cast; omega, by omega⟩, movesRun_more HK.out HZ.out, HC4.out.beside HG1.out HG2.out k _, row_set HRo4.out HLy.out hkn y, (HF3.out.step HC4.out.frame).set k _⟩, hs.out⟩
    · have hkn : k = n := by have := HQ.out; omega
      have HF : Hid (R = some (ys, s')) := by have h := HK.out; rw [hkn, HR.out] at h; exact h
      go_wp2_with fail
      go_ret
      rw [HF.out]
      exact ⟨rfl, HI.out, HRo.out, HF3.out⟩

theorem cell_off (W : World) (b : Nat) {i j : Nat} (h : i ≠ j) (v : Value) : (W.setCell ⟨b, i, none⟩ v).cell? ⟨b, j, none⟩ = W.cell? ⟨b, j, none⟩ :=
  World.cell?_setCell_other _ _ _ _ (fun e => h (by cases e; rfl))

theorem Col.toSet {w0 W : World} {bc bw N cap : Nat} {ws : List Int} {h : HpN} {r t : Int} (c : Col w0 bc bw N cap ws h r t W) (x : Int) : Col w0 bc bw N cap ws { h with to := x } r t (W.setCell ⟨bc, 2, none⟩ (.int .i64 x)) :=
  ⟨by simpa [ColBlk] using set_block c.blk 2 (.int .i64 x), c.row.of_block (Below.heap_setCell _ _ _ _ (fun e => c.ne e.symm)), c.len, c.ne, c.frame.set (Or.inl rfl) _⟩

theorem Col.topSet {w0 W : World} {bc bw N cap : Nat} {ws : List Int} {h : HpN} {r t : Int} (c : Col w0 bc bw N cap ws h r t W) (x : Int) : Col w0 bc bw N cap ws { h with top := x } r t (W.setCell ⟨bc, 4, none⟩ (.int .i64 x)) :=
  ⟨by simpa [ColBlk] using set_block c.blk 4 (.int .i64 x), c.row.of_block (Below.heap_setCell _ _ _ _ (fun e => c.ne e.symm)), c.len, c.ne, c.frame.set (Or.inl rfl) _⟩

theorem Col.fbSet {w0 W : World} {bc bw N cap : Nat} {ws : List Int} {h : HpN} {r t : Int} (c : Col w0 bc bw N cap ws h r t W) (x : Int) : Col w0 bc bw N cap ws { h with fb := x } r t (W.setCell ⟨bc, 6, none⟩ (.int .i64 x)) :=
  ⟨by simpa [ColBlk] using set_block c.blk 6 (.int .i64 x), c.row.of_block (Below.heap_setCell _ _ _ _ (fun e => c.ne e.symm)), c.len, c.ne, c.frame.set (Or.inl rfl) _⟩

theorem Col.ftSet {w0 W : World} {bc bw N cap : Nat} {ws : List Int} {h : HpN} {r t : Int} (c : Col w0 bc bw N cap ws h r t W) (x : Int) : Col w0 bc bw N cap ws { h with ft := x } r t (W.setCell ⟨bc, 7, none⟩ (.int .i64 x)) :=
  ⟨by simpa [ColBlk] using set_block c.blk 7 (.int .i64 x), c.row.of_block (Below.heap_setCell _ _ _ _ (fun e => c.ne e.symm)), c.len, c.ne, c.frame.set (Or.inl rfl) _⟩

theorem Col.flipsSet {w0 W : World} {bc bw N cap : Nat} {ws : List Int} {h : HpN} {r t : Int} (c : Col w0 bc bw N cap ws h r t W) (x : Int) : Col w0 bc bw N cap ws { h with flips := x } r t (W.setCell ⟨bc, 8, none⟩ (.int .i64 x)) :=
  ⟨by simpa [ColBlk] using set_block c.blk 8 (.int .i64 x), c.row.of_block (Below.heap_setCell _ _ _ _ (fun e => c.ne e.symm)), c.len, c.ne, c.frame.set (Or.inl rfl) _⟩

set_option maxHeartbeats 4000000 in
set_option maxRecDepth 100000 in
theorem change_any {w0 W : World} {bc bw N cap : Nat} (s : CN) (c : ColAt w0 bc bw N cap s W) (h0 : 0 ≤ s.h.to) (h1 : s.h.to ≤ s.h.size) (h2 : s.h.size ≤ 4000) (v : Value) (Q : Bool → World → Prop)
    (hMA : ∀ X, ColAt X bc bw N cap { s with h := flipH s.h } X → Frm W bc bw X → Calls Try.prog 71 #[.pointer (some ⟨bc, 0, none⟩), v] X fun e w' => ∃ b, e = .returned (.bool b) ∧ Q b w') :
    Calls Try.prog 48 #[.pointer (some ⟨bc, 0, none⟩), v] W fun e w' => ∃ b, e = .returned (.bool b) ∧ Q b w' := by
  have HC := hid (Col.rebase c W (Frm.refl _ _ _))
  have HMA := hid hMA
  obtain ⟨c0, c1, c2, c3, c4, c5, c6, c7, c8, c9, c10, c11⟩ := c.blk.cells
  have hOt := hid (fun w => other_calls (.slice (some ⟨bw, 0, none⟩) N cap) { s.h with fb := s.h.bottom, ft := s.h.top } w h0 (show s.h.to ≤ 4000 by omega) (show 0 ≤ s.h.size by omega) h2)
  clear c hMA
  obtain ⟨ws, ⟨g1, g2, g3, g4, g5, g6, g7, g8, g9⟩, r, t⟩ := s
  unfold heapV at hOt
  dsimp only at *
  have f2 := frozen_of_heap HC.out.blk 2
  have f3 := frozen_of_heap HC.out.blk 3
  have f4 := frozen_of_heap HC.out.blk 4
  have f5 := frozen_of_heap HC.out.blk 5
  have f6 := frozen_of_heap HC.out.blk 6
  have f7 := frozen_of_heap HC.out.blk 7
  have f8 := frozen_of_heap HC.out.blk 8
  go_enter Try.func48, Try.ntmps48
  go_wp2_with fail
  go_region_held3 (fun w' => w'.cell? ⟨bc, 3, none⟩ = some (.int .i64 g3) ∧ w'.cell? ⟨bc, 4, none⟩ = some (.int .i64 g4)) (first | (refine ⟨(cell_off _ _ (by decide) _).trans c3, (cell_off _ _ (by decide) _).trans c4⟩) | (refine ⟨(cell_off _ _ (by decide) _).trans ((cell_off _ _ (by decide) _).trans c3), (cell_off _ _ (by decide) _).trans ((cell_off _ _ (by decide) _).trans c4)⟩) | (simp [*]; done)) (fail)
  have HC1 := hid (((HC.out.fbSet g3).ftSet g4).keep (Below.refl _ _).drew)
  generalize ((W.setCell ⟨bc, 6, none⟩ (.int .i64 g3)).setCell ⟨bc, 7, none⟩ (.int .i64 g4)).drew = W1 at *
  dsimp only at HC1
  obtain ⟨d0, d1, d2, d3, d4, d5, d6, d7, d8, d9, d10, d11⟩ := HC1.out.blk.cells
  dsimp only at d0 d1 d2 d3 d4 d5 d6 d7 d8 d9
  clear c0 c1 c2 c3 c4 c5 c6 c7 c8 c9 c10 c11 f2 f3 f4 f5 f6 f7 f8 HC
  go_wp2_with fail
  refine (hOt.out _).mono ?_
  rintro e W2 ⟨rfl, hb2⟩
  have HC2 := hid (HC1.out.keep hb2)
  have f2 := frozen_of_heap HC2.out.blk 2
  have d2' := HC2.out.blk.cells.2.2.1
  have d1' := HC2.out.blk.cells.2.1
  have HC3 := hid (HC2.out.toSet (g1 - g2))
  have d1b := HC3.out.blk.cells.2.1
  have d2b := HC3.out.blk.cells.2.2.1
  have f3 := frozen_of_heap HC3.out.blk 3
  have f4 := frozen_of_heap HC3.out.blk 4
  have f5 := frozen_of_heap HC3.out.blk 5
  have d3b := HC3.out.blk.cells.2.2.2.1
  have d4b := HC3.out.blk.cells.2.2.2.2.1
  have d5b := HC3.out.blk.cells.2.2.2.2.2.1
  dsimp only at d1' d2' d1b d2b d3b d4b d5b
  clear hb2 HC1 HC2 hOt d0 d1 d2 d3 d4 d5 d6 d7 d8 d9 d10 d11
  go_wp2_with fail
  generalize W2.setCell ⟨bc, 2, none⟩ (.int .i64 (g1 - g2)) = W3 at *
  go_region_held3 (fun w' => w'.cell? ⟨bc, 1, none⟩ = some (.int .i64 g1) ∧ w'.cell? ⟨bc, 2, none⟩ = some (.int .i64 (g1 - g2))) (first | (refine ⟨d1b, d2b⟩) | (refine ⟨(cell_off _ _ (by decide) _).trans (d1b), (cell_off _ _ (by decide) _).trans (d2b)⟩) | (refine ⟨(cell_off _ _ (by decide) _).trans ((cell_off _ _ (by decide) _).trans (d1b)), (cell_off _ _ (by decide) _).trans ((cell_off _ _ (by decide) _).trans (d2b))⟩) | (refine ⟨(cell_off _ _ (by decide) _).trans ((cell_off _ _ (by decide) _).trans ((cell_off _ _ (by decide) _).trans (d1b))), (cell_off _ _ (by decide) _).trans ((cell_off _ _ (by decide) _).trans ((cell_off _ _ (by decide) _).trans (d2b)))⟩) | (simp [*]; done)) (fail)
  have hw : IntKind.i64.wrap (g1 - g2 + g1) = g1 - g2 + g1 := by
    rw [IntKind.wrap_i64]
    omega
  rw [hw]
  have HC4 := hid ((((HC3.out.bottom (g1 - g2)).scanned (g1 - g2)).topSet (g1 - g2 + g1)).keep (Below.refl _ _).drew)
  generalize (((W3.setCell ⟨bc, 3, none⟩ (.int .i64 (g1 - g2))).setCell ⟨bc, 5, none⟩ (.int .i64 (g1 - g2))).setCell ⟨bc, 4, none⟩ (.int .i64 (g1 - g2 + g1))).drew = W4 at *
  have d8 := HC4.out.blk.cells.2.2.2.2.2.2.2.2.1
  have f8 := frozen_of_heap HC4.out.blk 8
  have HC5 := hid (HC4.out.flipsSet (wrap64 (g8 + 1)))
  dsimp only at d8 HC5
  clear HC3 HC4 hw d1b d2b d3b d4b d5b d1' d2' f2 f3 f4 f5
  go_wp2_with fail
  refine (HMA.out _ (HC5.out.rebase _ (Frm.refl _ _ _)) HC5.out.frame).mono ?_
  rintro e W6 ⟨b, rfl, hP⟩
  have HP := hid hP
  clear hP HMA HC5
  go_wp2_with fail
  go_ret
  exact ⟨b, rfl, HP.out⟩

theorem MovesPost.from {W X w' : World} {bc bw N cap g n : Nat} {o : Option (List Int × CN)} {e : Ending} (f : Frm W bc bw X) (h : MovesPost X bc bw N cap g n o e w') : MovesPost W bc bw N cap g n o e w' := by
  cases o with
  | none =>
    obtain ⟨h1, h2, h3⟩ := h
    exact ⟨h1, h2, ((Frm3.refl _ _ _ _).step f).trans h3⟩
  | some p =>
    obtain ⟨ys, s⟩ := p
    obtain ⟨h1, h2, h3, h4⟩ := h
    exact ⟨h1, h2, h3, ((Frm3.refl _ _ _ _).step f).trans h4⟩

theorem MovesPost.bool {W w' : World} {bc bw N cap g n : Nat} {o : Option (List Int × CN)} {e : Ending} (h : MovesPost W bc bw N cap g n o e w') : ∃ b, e = .returned (.bool b) := by
  cases o with
  | none => exact ⟨_, h.1⟩
  | some p => exact ⟨_, h.1⟩

theorem change_calls {w0 W : World} {bc bw N cap g n gcap : Nat} {S : List Int} (s : CN) (c : ColAt w0 bc bw N cap s W) (h0 : 0 ≤ s.h.to) (h1 : s.h.to ≤ s.h.size) (h2 : s.h.size ≤ 4000) (hs : Mvs S N 0 { s with h := flipH s.h }) (xs : List Int) (hl : xs.length = n) (hn : n ≤ 20) (hg1 : g ≠ bc) (hg2 : g ≠ bw) (hr : CellRow 3 W g n (intCells xs)) (ha : ∀ i, i < xs.length → Aim S (flipH s.h) N (xs.getD i 0)) :
    Calls Try.prog 48 #[.pointer (some ⟨bc, 0, none⟩), .slice (some ⟨g, 0, none⟩) n gcap] W (MovesPost W bc bw N cap g n (movesRun xs n { s with h := flipH s.h })) := by
  refine (change_any s c h0 h1 h2 (.slice (some ⟨g, 0, none⟩) n gcap) (fun b w' => MovesPost W bc bw N cap g n (movesRun xs n { s with h := flipH s.h }) (.returned (.bool b)) w') (fun X hX hf => ?_)).mono ?_
  · refine (moveAll_calls (gcap := gcap) { s with h := flipH s.h } hX hs xs hl (by omega) hg1 hg2 (hr.of_block (hf.block g hr.lt hg1 hg2)) ha).mono ?_
    intro e w' hP
    obtain ⟨b, rfl⟩ := hP.bool
    exact ⟨b, rfl, hP.from hf⟩
  · rintro e w' ⟨b, rfl, hP⟩
    exact hP

end Go.Proofs.Ytebpgglegnljgaa

namespace Go.Proofs.Ytebpgglegnljgaa
open Go.RowKit

def upTo (n k : Nat) : Array Bool := ((List.range n).map (fun i => decide (i < k))).toArray

theorem upTo_zero (n : Nat) : upTo n 0 = Array.replicate n false := by
  apply Array.ext
  · simp [upTo]
  · intro i h1 h2
    simp [upTo]

theorem upTo_next {n k : Nat} : (upTo n k).setIfInBounds k true = upTo n (k + 1) := by
  apply Array.ext
  · simp [upTo]
  · intro i h1 h2
    by_cases hik : k = i
    · subst hik
      simp [upTo]
    · simp [upTo, hik]
      omega

def plainOp (o : Oper) : Bool :=
  match o.op with
  | .move _ | .assign _ | .pick _ _ _ | .load _ _ | .nilCheck _ | .binOp _ _ _ _ _ | .unOp _ _ _ | .fieldAddr _ _ _ | .field _ _ _ | .indexAddr _ _ _ | .index _ _ _ | .convert _ _ _ | .slice _ _ _ _ _ => true
  | _ => false

theorem then_value {α : Type} {s : Result α} {f : α → Value} {n : Next} {w' : World} (h : s.andThen (fun a w => Result.ok (Next.value (f a)) w) = .ok n w') : ∃ v, n = .value v := by
  cases s with
  | ok a w => cases h; exact ⟨_, rfl⟩
  | halt x w => cases h

theorem then_ok {α β : Type} {s : Result α} {f : α → World → Result β} {n : β} {w' : World} (h : s.andThen f = .ok n w') : ∃ a w, f a w = .ok n w' := by
  cases s with
  | ok a w => exact ⟨a, w, h⟩
  | halt x w => cases h

theorem plain_value {P : Program} {a : Act} {o : Oper} {w w' : World} {n : Next} (hp : plainOp o = true) (h : (execOp a.eval o).run P w = .ok n w') : ∃ v, n = .value v := by
  obtain ⟨dst, op, type, pos, after, guard⟩ := o
  cases op <;> simp only [plainOp] at hp <;> try (cases hp; done)
  all_goals
    unfold execOp at h
    simp only [Sem.run_bind, Sem.run_pure] at h
  all_goals first
    | exact then_value h
    | (cases h; exact ⟨_, rfl⟩)
    | (split at h
       all_goals first
         | (cases h; exact ⟨_, rfl⟩)
         | (cases h; done)
         | (split at h
            all_goals first
              | (cases h; exact ⟨_, rfl⟩)
              | (cases h; done)
              | (simp only [Sem.run_bind] at h
                 obtain ⟨_, _, h⟩ := then_ok h
                 obtain ⟨_, _, h⟩ := then_ok h
                 split at h
                 · simp only [Sem.run_bind] at h
                   cases h
                 · cases h
                   exact ⟨_, rfl⟩)))

section
variable {P : Program} {Q : Exit → Act → World → Prop} {S : World → Prop} {l0 : List Oper}

def stepB (l0 : List Oper) (k : Nat) : Bool :=
  match l0[k]? with
  | none => false
  | some o => ((Region.ready .any l0.toArray (upTo l0.length k)).contains k && Region.free .any l0.toArray (upTo l0.length k) k && plainOp o) || (Region.ready .any l0.toArray (upTo l0.length k) == [k])

def walkB (l0 : List Oper) (k : Nat) : Nat → Bool
  | 0 => true
  | m + 1 => stepB l0 k && walkB l0 (k + 1) m

theorem stage_op (hs : Region.noSelect l0.toArray = true) {k : Nat} {o : Oper} (ho : l0[k]? = some o) (hB : stepB l0 k = true) {a : Act} {w : World} (hS : S w)
    (h : if Region.wanted o (yielded l0.toArray a.tmps) then o.quiet P a S (fun a' => ∀ w', S w' → wpAnyH P .any l0.toArray (NoPanic Q) S (l0.length - (k + 1)) (upTo l0.length (k + 1)) a' w') else ∀ w', S w' → wpAnyH P .any l0.toArray (NoPanic Q) S (l0.length - (k + 1)) (upTo l0.length (k + 1)) (a.put o.dst undef) w') :
    wpAnyH P .any l0.toArray (NoPanic Q) S (l0.length - k) (upTo l0.length k) a w := by
  have hk : k < l0.length := (List.getElem?_eq_some_iff.1 ho).1
  have e : l0.length - k = l0.length - (k + 1) + 1 := by omega
  have ho' : l0.toArray[k]? = some o := by simpa using ho
  rw [e]
  unfold stepB at hB
  rw [ho] at hB
  simp only [Bool.or_eq_true, Bool.and_eq_true] at hB
  rcases hB with ⟨⟨hr, hf⟩, hp⟩ | hr
  · by_cases hw : Region.wanted o (yielded l0.toArray a.tmps) = true
    · rw [if_pos hw] at h
      obtain ⟨v, hv, hn⟩ := h
      refine wpAnyH_take (v := v) ho' hs hf hr (fun c a w h => h) (Or.inl ⟨hw, fun w' hw' => ?_⟩) hS (by rw [upTo_next]; exact hn w hS)
      have hq := hv w' hw'
      unfold Oper.quietAt at hq
      cases hx : (execOp a.eval o).run P w' with
      | halt x w2 => rw [hx] at hq; exact hq.elim
      | ok n w2 =>
        obtain ⟨u, rfl⟩ := plain_value hp hx
        rw [hx] at hq
        obtain ⟨rfl, rfl⟩ := hq
        rfl
    · rw [if_neg hw] at h
      exact wpAnyH_take (v := undef) ho' hs hf hr (fun c a w h => h) (Or.inr ⟨by simpa using hw, rfl⟩) hS (by rw [upTo_next]; exact h w hS)
  · refine wpAnyH_all (rs := [k]) (by simpa using hr) (by simp) (fun i hi => ?_)
    rw [List.mem_singleton] at hi
    subst hi
    unfold wpOp
    rw [ho', upTo_next]
    dsimp only
    by_cases hw : Region.wanted o (yielded l0.toArray a.tmps) = true
    · rw [if_pos hw] at h ⊢
      obtain ⟨v, hv, hn⟩ := h
      refine Or.inl ?_
      have hq := hv w hS
      unfold Oper.quietAt at hq
      unfold Oper.wp
      cases hx : (execOp a.eval o).run P w with
      | halt x w2 => rw [hx] at hq; exact hq.elim
      | ok n w2 =>
        rw [hx] at hq
        cases n <;> simp only [Oper.quietUpon] at hq
        case value u =>
          obtain ⟨rfl, rfl⟩ := hq
          exact ⟨hS, hn _ hS⟩
        case skip =>
          obtain ⟨rfl, rfl⟩ := hq
          exact ⟨hS, hn _ hS⟩
        case enter f args =>
          obtain ⟨rfl, hc⟩ := hq
          refine Calls.mono hc ?_
          rintro e w3 ⟨rfl, hC⟩
          exact ⟨hC, hn _ hC⟩
    · rw [if_neg hw] at h ⊢
      exact ⟨hS, h w hS⟩

theorem stage_walk (hs : Region.noSelect l0.toArray = true) : ∀ (m k : Nat) (a : Act) (w : World), walkB l0 k m = true → S w →
    wpQuiet P l0.toArray S (fun a' => ∀ w', S w' → wpAnyH P .any l0.toArray (NoPanic Q) S (l0.length - (k + m)) (upTo l0.length (k + m)) a' w') ((l0.drop k).take m) a →
    wpAnyH P .any l0.toArray (NoPanic Q) S (l0.length - k) (upTo l0.length k) a w
  | 0, k, a, w, _, hS, h => h w hS
  | m + 1, k, a, w, hB, hS, h => by
    unfold walkB at hB
    rw [Bool.and_eq_true] at hB
    have ⟨o, ho⟩ : ∃ o, l0[k]? = some o := by
      cases hx : l0[k]? with
      | none => have := hB.1; unfold stepB at this; rw [hx] at this; cases this
      | some o => exact ⟨o, rfl⟩
    have hd : l0.drop k = o :: l0.drop (k + 1) := by
      have hk := List.getElem?_eq_some_iff.1 ho
      rw [List.drop_eq_getElem_cons hk.1, hk.2]
    rw [hd, List.take_succ_cons] at h
    refine stage_op hs ho hB.1 hS ?_
    unfold wpQuiet at h
    have e : k + (m + 1) = k + 1 + m := by omega
    rw [e] at h
    split
    · rename_i hw
      rw [if_pos hw] at h
      exact Oper.quiet_mono (fun a' h' w' hw' => stage_walk hs m (k + 1) a' w' hB.2 hw' h') h
    · rename_i hw
      rw [if_neg hw] at h
      exact fun w' hw' => stage_walk hs m (k + 1) _ w' hB.2 hw' h

theorem stage_make {k : Nat} {o : Oper} {v : Value} {a a' : Act} {w w1 : World} (ho : l0[k]? = some o) (hr : (Region.ready .any l0.toArray (upTo l0.length k) == [k]) = true) (hw : Region.wanted o (yielded l0.toArray a.tmps) = true)
    (hrun : (execOp a.eval o).run P w = .ok (.value v) w1) (hS : S w1) (hput : a.put o.dst v = a') (h : wpAnyH P .any l0.toArray (NoPanic Q) S (l0.length - (k + 1)) (upTo l0.length (k + 1)) a' w1) :
    wpAnyH P .any l0.toArray (NoPanic Q) S (l0.length - k) (upTo l0.length k) a w := by
  have hk : k < l0.length := (List.getElem?_eq_some_iff.1 ho).1
  have e : l0.length - k = l0.length - (k + 1) + 1 := by omega
  have ho' : l0.toArray[k]? = some o := by simpa using ho
  rw [e]
  refine wpAnyH_all (rs := [k]) (by simpa using hr) (by simp) (fun i hi => ?_)
  rw [List.mem_singleton] at hi
  subst hi
  unfold wpOp
  rw [ho', upTo_next]
  dsimp only
  rw [if_pos hw]
  refine Or.inl ?_
  unfold Oper.wp
  rw [hrun]
  subst hput
  exact ⟨hS, h⟩

theorem stage_end {a : Act} {w : World} (hr : (Region.ready .any l0.toArray (upTo l0.length l0.length)).isEmpty = true) (h : Q .normal a w) : wpAnyH P .any l0.toArray (NoPanic Q) S (l0.length - l0.length) (upTo l0.length l0.length) a w :=
  wpAnyH_done (Q := NoPanic Q) (by simpa using hr) (NoPanic.normal h) _

theorem stage_begin {id : Nat} {a : Act} {w : World} (hm : P.follows .mixedOrders = true) (h : wpAnyH P .any l0.toArray (NoPanic Q) S (l0.length - 0) (upTo l0.length 0) a w.drew) : (Code.region id l0.toArray true).wp P Q a w := by
  refine wp_region_noPanic (wp_region_held (S := S) hm ?_)
  rw [upTo_zero] at h
  simpa using h
end
end Go.Proofs.Ytebpgglegnljgaa

namespace Go.Proofs.Ytebpgglegnljgaa
open Go.RowKit
section
variable {P : Program} {ops : Array Oper} {Q : Exit → Act → World → Prop} {S : World → Prop}

def waitsB (ops : Array Oper) : Nat → Nat → Nat → Bool
  | 0, _, _ => false
  | f + 1, c, i => match ops[c]? with
    | none => false
    | some o => o.after.any (fun e => Region.binds .any e && (e.on == i || waitsB ops f e.on i))

def ShutL (ops : Array Oper) (listed : Array Bool) : Prop := ∀ (j : Nat) (o : Oper), ops[j]? = some o → listed.getD j false = true → ∀ e ∈ o.after, Region.binds .any e = true → listed.getD e.on false = true

theorem ShutL.waits {listed : Array Bool} (h : ShutL ops listed) : ∀ (f c i : Nat), waitsB ops f c i = true → listed.getD c false = true → listed.getD i false = true
  | 0, _, _, hw, _ => by cases hw
  | f + 1, c, i, hw, hc => by
    unfold waitsB at hw
    cases ho : ops[c]? with
    | none => rw [ho] at hw; cases hw
    | some o =>
      rw [ho] at hw
      dsimp only at hw
      rw [Array.any_eq_true'] at hw
      obtain ⟨e, he, hb⟩ := hw
      rw [Bool.and_eq_true, Bool.or_eq_true] at hb
      have h1 := h c o ho hc e he hb.1
      rcases hb.2 with h2 | h2
      · rw [beq_iff_eq] at h2
        rw [← h2]
        exact h1
      · exact ShutL.waits h f e.on i h2 h1

theorem ShutL.next {listed : Array Bool} (h : ShutL ops listed) {i : Nat} (hr : i ∈ Region.ready .any ops listed) : ShutL ops (listed.setIfInBounds i true) := by
  intro j o ho hj e he hb
  obtain ⟨_, oi, hoi, hall⟩ := mem_ready.1 hr
  by_cases hij : i = j
  · subst hij
    rw [hoi] at ho
    cases ho
    exact getD_set_true (hall e he hb)
  · rw [getD_set_ne false hij] at hj
    exact getD_set_true (h j o ho hj e he hb)

def wpTill (P : Program) (ops : Array Oper) (Q : Exit → Act → World → Prop) (S : World → Prop) (c : Nat) (K : Nat → Array Bool → Act → World → Prop) : Nat → Array Bool → Act → World → Prop
  | 0, _, _, _ => False
  | fuel + 1, listed, a, w => Region.ready .any ops listed ≠ [] ∧ ∀ i ∈ Region.ready .any ops listed, if i = c then wpOp P ops Q i (fun a' w' => K fuel (listed.setIfInBounds i true) a' w') a w else wpOp P ops Q i (fun a' w' => S w' ∧ wpTill P ops Q S c K fuel (listed.setIfInBounds i true) a' w') a w

theorem any_of_till {c : Nat} : ∀ (fuel : Nat) (listed : Array Bool) (a : Act) (w : World), wpTill P ops Q S c (wpAny P .any ops Q) fuel listed a w → wpAny P .any ops Q fuel listed a w
  | 0, _, _, _, h => h.elim
  | fuel + 1, listed, a, w, h => ⟨fun h0 => absurd h0 h.1, fun i hi => by
      have h1 := h.2 i hi
      split at h1
      · exact h1
      · exact wpOp_mono (fun a' w' h' => any_of_till fuel _ a' w' h'.2) h1⟩

theorem till_first {c i : Nat} {oi : Oper} {v : Value} {K : Nat → Array Bool → Act → World → Prop} {f : Nat} (hi : ops[i]? = some oi) (hsel : Region.noSelect ops = true)
    (hQ : ∀ d a w, Q (.panic d) (a.put oi.dst v) w → Q (.panic d) a w) (hc : waitsB ops f c i = true) (hic : i ≠ c) :
    ∀ (fuel : Nat) (listed : Array Bool) (a : Act) (w : World), ShutL ops listed →
      (∀ j oj, ops[j]? = some oj → j ≠ i → listed.getD j true = false → (∀ e ∈ oj.after, Region.binds .any e = true → e.on ≠ i) → oi.apart ops oj = true) →
      i ∈ Region.ready .any ops listed → YieldsIf P ops S oi v a → S w →
      wpTill P ops Q S c K fuel (listed.setIfInBounds i true) (a.put oi.dst v) w → wpTill P ops Q S c K (fuel + 1) listed a w
  | 0, _, _, _, _, _, _, _, _, H => H.elim
  | fuel + 1, listed, a, w, hsh, hfree, hr, hy, hS, H => by
    refine ⟨fun h => by rw [h] at hr; exact (List.not_mem_nil hr).elim, fun j hj => ?_⟩
    by_cases hji : j = i
    · subst hji
      rw [if_neg hic]
      exact hy.wpOp hi hS ⟨hS, H⟩
    obtain ⟨hjun, oj, hoj, hall⟩ := mem_ready.1 hj
    have hir := (mem_ready.1 hr).1
    have hlast : listed.getD i false = true → False := fun h => by
      rcases Nat.lt_or_ge i listed.size with h' | h'
      · simp [h'] at hir h
        rw [hir] at h
        cases h
      · simp [Array.getElem?_eq_none h'] at h
    have hjc : j ≠ c := fun e => by
      subst e
      refine hlast ?_
      -- j is ready: all it waits for has come up
      cases f with
      | zero => cases hc
      | succ f =>
        unfold waitsB at hc
        rw [hoj] at hc
        dsimp only at hc
        rw [Array.any_eq_true'] at hc
        obtain ⟨e, he, hb⟩ := hc
        rw [Bool.and_eq_true, Bool.or_eq_true] at hb
        have h1 := hall e he hb.1
        rcases hb.2 with h2 | h2
        · rw [beq_iff_eq] at h2
          rw [← h2]
          exact h1
        · exact hsh.waits f e.on i h2 h1
    have h1 := H.2 j (ready_mono hj hji)
    rw [if_neg hjc] at h1 ⊢
    have hnot : ∀ e ∈ oj.after, Region.binds .any e = true → e.on ≠ i := fun e he hb heq => by
      have := hall e he hb
      rw [heq] at this
      exact hlast this
    have hsp := Region.noSelect_spec hsel
    have h2 := wpOp_putIf hoj (hfree j oj hoj hji hjun hnot) (fun cs b => hsp i oi cs b hi) (fun cs b => hsp j oj cs b hoj) hQ hy h1
    refine wpOp_mono (fun a' w' h3 => ⟨h3.2.1, till_first hi hsel hQ hc hic fuel (listed.setIfInBounds j true) a' w' (hsh.next hj) (fun k ok hk hki hun hno => hfree k ok hk hki ?_ hno) (ready_mono hr (Ne.symm hji)) h3.1 h3.2.1 ?_⟩) h2
    · by_cases hjk : j = k
      · subst hjk
        exact hjun
      · rw [getD_set_ne true hjk] at hun
        exact hun
    · rw [Array.setIfInBounds_comm _ _ hji]
      exact h3.2.2

theorem till_first_any {c i : Nat} {oi : Oper} {v : Value} (hi : ops[i]? = some oi) (hsel : Region.noSelect ops = true)
    (hQ : ∀ d a w, Q (.panic d) (a.put oi.dst v) w → Q (.panic d) a w) (hic : i ≠ c) :
    ∀ (fuel : Nat) (listed : Array Bool) (a : Act) (w : World),
      (∀ j oj, ops[j]? = some oj → j ≠ i → listed.getD j true = false → (∀ e ∈ oj.after, Region.binds .any e = true → e.on ≠ i) → oi.apart ops oj = true) →
      i ∈ Region.ready .any ops listed → Yields P ops oi v a → S w →
      wpTill P ops Q S c (wpAny P .any ops Q) fuel (listed.setIfInBounds i true) (a.put oi.dst v) w → wpTill P ops Q S c (wpAny P .any ops Q) (fuel + 1) listed a w
  | 0, _, _, _, _, _, _, _, H => H.elim
  | fuel + 1, listed, a, w, hfree, hr, hy, hS, H => by
    refine ⟨fun h => by rw [h] at hr; exact (List.not_mem_nil hr).elim, fun j hj => ?_⟩
    by_cases hji : j = i
    · subst hji
      rw [if_neg hic]
      exact (Yields.yieldsIf hy).wpOp hi hS ⟨hS, H⟩
    obtain ⟨hjun, oj, hoj, hall⟩ := mem_ready.1 hj
    have hir := (mem_ready.1 hr).1
    have hlast : listed.getD i false = true → False := fun h => by
      rcases Nat.lt_or_ge i listed.size with h' | h'
      · simp [h'] at hir h
        rw [hir] at h
        cases h
      · simp [Array.getElem?_eq_none h'] at h
    have hnot : ∀ e ∈ oj.after, Region.binds .any e = true → e.on ≠ i := fun e he hb heq => by
      have := hall e he hb
      rw [heq] at this
      exact hlast this
    have hsp := Region.noSelect_spec hsel
    have hap := hfree j oj hoj hji hjun hnot
    have hf' : ∀ k ok, ops[k]? = some ok → k ≠ i → (listed.setIfInBounds j true).getD k true = false → (∀ e ∈ ok.after, Region.binds .any e = true → e.on ≠ i) → oi.apart ops ok = true := fun k ok hk hki hun hno => by
      refine hfree k ok hk hki ?_ hno
      by_cases hjk : j = k
      · subst hjk
        exact hjun
      · rw [getD_set_ne true hjk] at hun
        exact hun
    have all : ∀ a', YieldsIf P ops (fun _ => True) oi v a' → Yields P ops oi v a' := fun a' h => h.imp (fun ⟨hw, hv⟩ => ⟨hw, fun w => hv w trivial⟩) id
    have h1 := H.2 j (ready_mono hj hji)
    by_cases hjc : j = c
    · subst hjc
      rw [if_pos rfl] at h1 ⊢
      have h2 := wpOp_putIf hoj hap (fun cs b => hsp i oi cs b hi) (fun cs b => hsp j oj cs b hoj) hQ (Yields.yieldsIf (S := fun _ => True) hy) h1
      refine wpOp_mono (fun a' w' h3 => wpAny_first hi (fun k o cs b hk => hsp k o cs b hk) hQ fuel (listed.setIfInBounds j true) a' w' hf' (ready_mono hr (Ne.symm hji)) (all a' h3.1) ?_) h2
      rw [Array.setIfInBounds_comm _ _ hji]
      exact h3.2
    · rw [if_neg hjc] at h1 ⊢
      have h2 := wpOp_putIf hoj hap (fun cs b => hsp i oi cs b hi) (fun cs b => hsp j oj cs b hoj) hQ (Yields.yieldsIf (S := fun _ => True) hy) h1
      refine wpOp_mono (fun a' w' h3 => ⟨h3.2.1, till_first_any hi hsel hQ hic fuel (listed.setIfInBounds j true) a' w' hf' (ready_mono hr (Ne.symm hji)) (all a' h3.1) h3.2.1 ?_⟩) h2
      rw [Array.setIfInBounds_comm _ _ hji]
      exact h3.2.2
end

section
variable {P : Program} {Q : Exit → Act → World → Prop} {S : World → Prop} {l0 : List Oper}

def moveB (o : Oper) : Bool :=
  match o.op with
  | .move _ | .assign _ => true
  | _ => false

theorem move_any {a : Act} {o : Oper} (h : moveB o = true) : ∃ v, ∀ w, (execOp a.eval o).run P w = .ok (.value v) w := by
  obtain ⟨dst, op, type, pos, after, guard⟩ := o
  cases op <;> simp only [moveB] at h <;> try (cases h; done)
  all_goals exact ⟨_, fun w => rfl⟩

def stepC (l0 : List Oper) (c k : Nat) : Bool :=
  match l0[k]? with
  | none => false
  | some o => !(k == c) && (((Region.ready .any l0.toArray (upTo l0.length k)).contains k && Region.free .any l0.toArray (upTo l0.length k) k && plainOp o && (waitsB l0.toArray l0.length c k || moveB o)) || (Region.ready .any l0.toArray (upTo l0.length k) == [k]))

def walkC (l0 : List Oper) (c k : Nat) : Nat → Bool
  | 0 => true
  | m + 1 => stepC l0 c k && walkC l0 c (k + 1) m

def shutB (l0 : List Oper) (k : Nat) : Bool := (List.range k).all (fun j => match l0[j]? with
  | none => true
  | some o => o.after.all (fun e => !Region.binds .any e || decide (e.on < k)))

theorem shut_upTo {k : Nat} (hk : k ≤ l0.length) (h : shutB l0 k = true) : ShutL l0.toArray (upTo l0.length k) := by
  intro j o ho hj e he hb
  unfold shutB at h
  rw [List.all_eq_true] at h
  have hjk : j < k := by
    by_cases hjl : j < l0.length
    · simp [upTo, hjl] at hj
      exact hj
    · simp [upTo, hjl] at hj
  have h1 := h j (List.mem_range.2 hjk)
  rw [show l0[j]? = some o by simpa using ho] at h1
  dsimp only at h1
  rw [Array.all_eq_true_iff_forall_mem] at h1
  have h2 := h1 e he
  rw [hb] at h2
  have h3 : e.on < k := by simpa using h2
  have h4 : e.on < l0.length := by omega
  simp [upTo, h4, h3]

theorem till_op (hs : Region.noSelect l0.toArray = true) {c k : Nat} {o : Oper} (ho : l0[k]? = some o) (hsh : shutB l0 k = true) (hB : stepC l0 c k = true) {a : Act} {w : World} (hS : S w)
    (h : if Region.wanted o (yielded l0.toArray a.tmps) then o.quiet P a S (fun a' => ∀ w', S w' → wpTill P l0.toArray (NoPanic Q) S c (wpAny P .any l0.toArray (NoPanic Q)) (l0.length - (k + 1)) (upTo l0.length (k + 1)) a' w') else ∀ w', S w' → wpTill P l0.toArray (NoPanic Q) S c (wpAny P .any l0.toArray (NoPanic Q)) (l0.length - (k + 1)) (upTo l0.length (k + 1)) (a.put o.dst undef) w') :
    wpTill P l0.toArray (NoPanic Q) S c (wpAny P .any l0.toArray (NoPanic Q)) (l0.length - k) (upTo l0.length k) a w := by
  have hk : k < l0.length := (List.getElem?_eq_some_iff.1 ho).1
  have e : l0.length - k = l0.length - (k + 1) + 1 := by omega
  have ho' : l0.toArray[k]? = some o := by simpa using ho
  rw [e]
  unfold stepC at hB
  rw [ho] at hB
  rw [Bool.and_eq_true, Bool.or_eq_true, Bool.and_eq_true, Bool.and_eq_true, Bool.and_eq_true] at hB
  obtain ⟨hkc, hB⟩ := hB
  have hkc' : k ≠ c := by simpa using hkc
  rcases hB with ⟨⟨⟨hr, hf⟩, hp⟩, hwt⟩ | hr
  · have take : ∀ v, YieldsIf P l0.toArray S o v a → wpTill P l0.toArray (NoPanic Q) S c (wpAny P .any l0.toArray (NoPanic Q)) (l0.length - (k + 1)) (upTo l0.length (k + 1)) (a.put o.dst v) w → wpTill P l0.toArray (NoPanic Q) S c (wpAny P .any l0.toArray (NoPanic Q)) (l0.length - (k + 1) + 1) (upTo l0.length k) a w := fun v hy hn =>
      by
        rw [Bool.or_eq_true] at hwt
        rcases hwt with hwt | hmv
        · exact till_first ho' hs (fun d a w h => h) hwt hkc' _ _ _ _ (shut_upTo (by omega) hsh) (Region.free_spec ho' hf) (by simpa using hr) hy hS (by rw [upTo_next]; exact hn)
        · refine till_first_any ho' hs (fun d a w h => h) hkc' _ _ _ _ (Region.free_spec ho' hf) (by simpa using hr) ?_ hS (by rw [upTo_next]; exact hn)
          rcases hy with ⟨hw, hv⟩ | ⟨hw, hv⟩
          · obtain ⟨u, hu⟩ := move_any (P := P) (a := a) hmv
            have e1 := hv w hS
            rw [hu w] at e1
            cases e1
            exact Or.inl ⟨hw, hu⟩
          · exact Or.inr ⟨hw, hv⟩
    by_cases hw : Region.wanted o (yielded l0.toArray a.tmps) = true
    · rw [if_pos hw] at h
      obtain ⟨v, hv, hn⟩ := h
      refine take v (Or.inl ⟨hw, fun w' hw' => ?_⟩) (hn w hS)
      have hq := hv w' hw'
      unfold Oper.quietAt at hq
      cases hx : (execOp a.eval o).run P w' with
      | halt x w2 => rw [hx] at hq; exact hq.elim
      | ok n w2 =>
        obtain ⟨u, rfl⟩ := plain_value hp hx
        rw [hx] at hq
        obtain ⟨rfl, rfl⟩ := hq
        rfl
    · rw [if_neg hw] at h
      exact take undef (Or.inr ⟨by simpa using hw, rfl⟩) (h w hS)
  · have hr' : Region.ready .any l0.toArray (upTo l0.length k) = [k] := by simpa using hr
    refine ⟨by rw [hr']; simp, fun i hi => ?_⟩
    rw [hr', List.mem_singleton] at hi
    subst hi
    rw [if_neg hkc']
    unfold wpOp
    rw [ho', upTo_next]
    dsimp only
    by_cases hw : Region.wanted o (yielded l0.toArray a.tmps) = true
    · rw [if_pos hw] at h ⊢
      obtain ⟨v, hv, hn⟩ := h
      refine Or.inl ?_
      have hq := hv w hS
      unfold Oper.quietAt at hq
      unfold Oper.wp
      cases hx : (execOp a.eval o).run P w with
      | halt x w2 => rw [hx] at hq; exact hq.elim
      | ok n w2 =>
        rw [hx] at hq
        cases n <;> simp only [Oper.quietUpon] at hq
        case value u =>
          obtain ⟨rfl, rfl⟩ := hq
          exact ⟨hS, hn _ hS⟩
        case skip =>
          obtain ⟨rfl, rfl⟩ := hq
          exact ⟨hS, hn _ hS⟩
        case enter f args =>
          obtain ⟨rfl, hc⟩ := hq
          refine Calls.mono hc ?_
          rintro e w3 ⟨rfl, hC⟩
          exact ⟨hC, hn _ hC⟩
    · rw [if_neg hw] at h ⊢
      exact ⟨hS, h w hS⟩

def shutW (l0 : List Oper) (k : Nat) : Nat → Bool
  | 0 => true
  | m + 1 => shutB l0 k && shutW l0 (k + 1) m

theorem till_walk (hs : Region.noSelect l0.toArray = true) {c : Nat} : ∀ (m k : Nat) (a : Act) (w : World), shutW l0 k m = true → walkC l0 c k m = true → S w →
    wpQuiet P l0.toArray S (fun a' => ∀ w', S w' → wpTill P l0.toArray (NoPanic Q) S c (wpAny P .any l0.toArray (NoPanic Q)) (l0.length - (k + m)) (upTo l0.length (k + m)) a' w') ((l0.drop k).take m) a →
    wpTill P l0.toArray (NoPanic Q) S c (wpAny P .any l0.toArray (NoPanic Q)) (l0.length - k) (upTo l0.length k) a w
  | 0, k, a, w, _, _, hS, h => h w hS
  | m + 1, k, a, w, hH, hB, hS, h => by
    unfold walkC at hB
    unfold shutW at hH
    rw [Bool.and_eq_true] at hB hH
    have ⟨o, ho⟩ : ∃ o, l0[k]? = some o := by
      cases hx : l0[k]? with
      | none => have := hB.1; unfold stepC at this; rw [hx] at this; cases this
      | some o => exact ⟨o, rfl⟩
    have hd : l0.drop k = o :: l0.drop (k + 1) := by
      have hk := List.getElem?_eq_some_iff.1 ho
      rw [List.drop_eq_getElem_cons hk.1, hk.2]
    rw [hd, List.take_succ_cons] at h
    refine till_op hs ho hH.1 hB.1 hS ?_
    unfold wpQuiet at h
    have e : k + (m + 1) = k + 1 + m := by omega
    rw [e] at h
    split
    · rename_i hw
      rw [if_pos hw] at h
      exact Oper.quiet_mono (fun a' h' w' hw' => till_walk hs m (k + 1) a' w' hH.2 hB.2 hw' h') h
    · rename_i hw
      rw [if_neg hw] at h
      exact fun w' hw' => till_walk hs m (k + 1) _ w' hH.2 hB.2 hw' h

theorem till_enter {c : Nat} {o : Oper} {f : FuncId} {args : Array Value} {a : Act} {w : World} (ho : l0[c]? = some o) (hr : (Region.ready .any l0.toArray (upTo l0.length c) == [c]) = true) (hw : Region.wanted o (yielded l0.toArray a.tmps) = true)
    (hrun : (execOp a.eval o).run P w = .ok (.enter f args) w) (h : Calls P f args w fun e w' => ∃ v, e = .returned v ∧ wpAny P .any l0.toArray (NoPanic Q) (l0.length - (c + 1)) (upTo l0.length (c + 1)) (a.put o.dst v) w') :
    wpTill P l0.toArray (NoPanic Q) S c (wpAny P .any l0.toArray (NoPanic Q)) (l0.length - c) (upTo l0.length c) a w := by
  have hk : c < l0.length := (List.getElem?_eq_some_iff.1 ho).1
  have e : l0.length - c = l0.length - (c + 1) + 1 := by omega
  have ho' : l0.toArray[c]? = some o := by simpa using ho
  have hr' : Region.ready .any l0.toArray (upTo l0.length c) = [c] := by simpa using hr
  rw [e]
  refine ⟨by rw [hr']; simp, fun i hi => ?_⟩
  rw [hr', List.mem_singleton] at hi
  subst hi
  rw [if_pos rfl]
  unfold wpOp
  rw [ho', upTo_next]
  dsimp only
  rw [if_pos hw]
  refine Or.inl ?_
  unfold Oper.wp
  rw [hrun]
  refine Calls.mono h ?_
  rintro e w3 ⟨v, rfl, hn⟩
  exact hn

theorem any_frame {k : Nat} {a a' : Act} {w : World} (ha : a = a') (h : wpAny P .any l0.toArray (NoPanic Q) (l0.length - k) (upTo l0.length k) a' w) : wpAny P .any l0.toArray (NoPanic Q) (l0.length - k) (upTo l0.length k) a w := by
  subst ha
  exact h

theorem any_stage (S : World → Prop) {k : Nat} {a : Act} {w : World} (h : wpAnyH P .any l0.toArray (NoPanic Q) S (l0.length - k) (upTo l0.length k) a w) : wpAny P .any l0.toArray (NoPanic Q) (l0.length - k) (upTo l0.length k) a w := wpAny_of_held _ _ _ _ h

theorem any_till (S : World → Prop) (c : Nat) {k : Nat} {a : Act} {w : World} (h : wpTill P l0.toArray (NoPanic Q) S c (wpAny P .any l0.toArray (NoPanic Q)) (l0.length - k) (upTo l0.length k) a w) : wpAny P .any l0.toArray (NoPanic Q) (l0.length - k) (upTo l0.length k) a w := any_of_till _ _ _ _ h

theorem till_begin {id c : Nat} {a : Act} {w : World} (hm : P.follows .mixedOrders = true) (h : wpTill P l0.toArray (NoPanic Q) S c (wpAny P .any l0.toArray (NoPanic Q)) (l0.length - 0) (upTo l0.length 0) a w.drew) : (Code.region id l0.toArray true).wp P Q a w := by
  refine wp_region_noPanic (wp_region_any hm (any_of_till (S := S) (c := c) _ _ _ _ ?_))
  rw [upTo_zero] at h
  simpa using h
end
end Go.Proofs.Ytebpgglegnljgaa

namespace Go.Proofs.Ytebpgglegnljgaa
open Go.RowKit

def Frm4 (w0 : World) (b1 b2 b3 b4 : Nat) (W : World) : Prop := W.os = w0.os ∧ W.tape = w0.tape ∧ W.output = w0.output ∧ w0.heap.size ≤ W.heap.size ∧ ∀ g, g < w0.heap.size → g ≠ b1 → g ≠ b2 → g ≠ b3 → g ≠ b4 → W.heap[g]? = w0.heap[g]?

theorem Frm.four {w0 W : World} {b1 b2 : Nat} (f : Frm w0 b1 b2 W) (b3 b4 : Nat) : Frm4 w0 b1 b2 b3 b4 W := ⟨f.os, f.tape, f.output, f.size, fun g hg h1 h2 _ _ => f.block g hg h1 h2⟩

theorem Frm3.four {w0 W : World} {b1 b2 b3 : Nat} (f : Frm3 w0 b1 b2 b3 W) (b4 : Nat) : Frm4 w0 b1 b2 b3 b4 W := by
  obtain ⟨f1, f2, f3, f4, f5⟩ := f
  exact ⟨f1, f2, f3, f4, fun g hg h1 h2 h3 _ => f5 g hg h1 h2 h3⟩

theorem Frm3.four' {w0 W : World} {b1 b2 b4 : Nat} (f : Frm3 w0 b1 b2 b4 W) (b3 : Nat) : Frm4 w0 b1 b2 b3 b4 W := by
  obtain ⟨f1, f2, f3, f4, f5⟩ := f
  exact ⟨f1, f2, f3, f4, fun g hg h1 h2 _ h4 => f5 g hg h1 h2 h4⟩

theorem Frm4.trans {w0 W W' : World} {b1 b2 b3 b4 : Nat} (f : Frm4 w0 b1 b2 b3 b4 W) (g : Frm4 W b1 b2 b3 b4 W') : Frm4 w0 b1 b2 b3 b4 W' := by
  obtain ⟨f1, f2, f3, f4, f5⟩ := f
  obtain ⟨g1, g2, g3, g4, g5⟩ := g
  exact ⟨g1.trans f1, g2.trans f2, g3.trans f3, Nat.le_trans f4 g4, fun c hc h1 h2 h3 h4 => (g5 c (Nat.lt_of_lt_of_le hc f4) h1 h2 h3 h4).trans (f5 c hc h1 h2 h3 h4)⟩

def NewPost (W : World) (bc bw N cap g n gf : Nat) (o : Option (List Int × CN)) (e : Ending) (w' : World) : Prop :=
  match o with
  | some (rs, s) => e = .returned (.tuple #[.int .i64 (makeZ 0 s.h.top), .bool true]) ∧ ColAt w' bc bw N cap s w' ∧ CellRow 3 w' g n (intCells rs) ∧ Frm4 W bc bw g gf w'
  | none => e = .returned (.tuple #[.int .i64 0, .bool false]) ∧ Frm4 W bc bw g gf w'

set_option maxRecDepth 100000 in
theorem head_any (n : Nat) (hn : n = 3 ∨ n = 6) (kind : Int) (h0 : 0 ≤ kind) (h1 : kind ≤ 15) (w : World) : Calls Try.prog 73 #[.int .i64 kind, .int .i64 (n : Int)] w fun e w' => e = .returned (.int .i64 ((n : Int) * 16 + kind)) ∧ w = w' := by
  rcases hn with rfl | rfl
  · go_enter Try.func73, Try.ntmps73
    go_wp2
    go_ret
    exact ⟨rfl, rfl⟩
  · go_enter Try.func73, Try.ntmps73
    go_wp2
    go_ret
    exact ⟨rfl, rfl⟩

theorem Col.topAt {w0 W : World} {bc bw N cap : Nat} {s : CN} (c : ColAt w0 bc bw N cap s W) (x : Int) : ColAt w0 bc bw N cap { s with h := { s.h with top := x } } (W.setCell ⟨bc, 4, none⟩ (.int .i64 x)) := Col.topSet c x

set_option maxHeartbeats 4000000 in
set_option maxRecDepth 100000 in
theorem iNew_scan {W : World} {bc bw N cap g n gc gf nf fc : Nat} {kind m : Int} (n1 : Int) (hn1 : wrap64 (1 + (nf : Int)) = n1)
    (HLk : Hid (Calls Try.prog 50 #[.pointer (some ⟨bc, 0, none⟩), .int .i64 m] W (LookPost W bc bw N cap none))) :
    Calls Try.prog 44 #[.pointer (some ⟨bc, 0, none⟩), .slice (some ⟨g, 0, none⟩) n gc, .int .i64 kind, .slice (some ⟨gf, 0, none⟩) nf fc, .int .i64 m] W (NewPost W bc bw N cap g n gf none) := by
  go_enter Try.func44, Try.ntmps44
  go_wp2_with fail
  refine HLk.out.mono ?_
  rintro e W1 ⟨rfl, s1, hC1⟩
  have HF := hid (Col.frame hC1)
  clear hC1 HLk
  go_wp2_with fail
  go_ret2
  exact ⟨rfl, HF.out.four _ _⟩

set_option maxHeartbeats 1600000 in
set_option maxRecDepth 100000 in
theorem iNew_room {W : World} {bc bw N cap g n gc gf nf fc : Nat} {kind m : Int} (n1 : Int) (hn1 : wrap64 (1 + (nf : Int)) = n1) (s1 : CN)
    (HLk : Hid (Calls Try.prog 50 #[.pointer (some ⟨bc, 0, none⟩), .int .i64 m] W (LookPost W bc bw N cap (some s1))))
    (fs rs : List Int) (hl : fs.length = nf) (HNf : Hid (nf = 2 ∨ nf = 5)) (HK : Hid (0 ≤ kind ∧ kind ≤ 15)) (hg1 : gf ≠ bc) (hg2 : gf ≠ bw) (hq1 : g ≠ bc) (hq2 : g ≠ bw)
    (HRf : Hid (CellRow 3 W gf nf (intCells fs))) (HRr : Hid (CellRow 3 W g n (intCells rs))) (PK : Hid (PutOk N (1 + nf) s1))
    (HRm : Hid (∀ w0 X, ColAt w0 bc bw N cap s1 X → Calls Try.prog 70 #[.pointer (some ⟨bc, 0, none⟩), .int .i64 n1] X fun e w' => e = .returned (.bool true) ∧ Below X.heap.size X w')) :
    Calls Try.prog 44 #[.pointer (some ⟨bc, 0, none⟩), .slice (some ⟨g, 0, none⟩) n gc, .int .i64 kind, .slice (some ⟨gf, 0, none⟩) nf fc, .int .i64 m] W (NewPost W bc bw N cap g n gf (some (rs, putZ kind fs s1))) := by
  go_enter Try.func44, Try.ntmps44
  go_wp2_with fail
  refine HLk.out.mono ?_
  rintro e W1 ⟨rfl, hC1⟩
  have HC1 := hid hC1
  clear hC1 HLk
  go_wp2_with fail
  refine stage_begin (S := fun w' => ∃ x : Later W1.heap.size W1, w' = x.w) (by kernel_rfl) ?_
  refine stage_walk (by kernel_rfl) 28 0 _ _ (by kernel_rfl) ⟨⟨W1.drew, (Below.refl _ _).drew⟩, rfl⟩ ?_
  simp only [List.drop_zero, List.take_succ_cons, List.take_zero]
  repeat (go_big_quiet_step (first | (rename_i y; go_at_call 70; refine (HRm.out _ _ (Col.keep HC1.out y.h)).mono ?_; rintro e w5 ⟨rfl, hb5⟩; exact ⟨rfl, ⟨w5, y.h.trans (hb5.mono y.h.size)⟩, rfl⟩)))
  refine wpQuiet_nil ?_
  rintro w6 ⟨y, rfl⟩
  refine stage_end (by kernel_rfl) ?_
  have HC2 := hid (Col.keep HC1.out y.h)
  generalize y.w = W2 at *
  clear y HC1
  go_wp2_with fail
  refine (HRm.out _ _ HC2.out).mono ?_
  rintro e T3 ⟨rfl, hb3⟩
  have HC3 := hid (Col.keep HC2.out hb3)
  have c4 := (Col.blk HC3.out).cells.2.2.2.2.1
  have f4 := frozen_of_heap (Col.blk HC3.out) 4
  obtain ⟨an, han⟩ : ∃ an : Nat, s1.h.top = (an : Int) + (1 + nf : Nat) := ⟨(s1.h.top - (1 + nf : Nat)).toNat, by have := PK.out.room; have := PK.out.b0; omega⟩
  have Han := hid han
  obtain ⟨ai, hai⟩ : ∃ ai : Int, ai = (an : Int) := ⟨_, rfl⟩
  have Hai := hid hai
  have hat : wrap64 (s1.h.top - n1) = ai := by have := PK.out.top; have := PK.out.N1; have := hn1; have := HNf.out; unfold wrap64 at *; omega
  have HC4 := hid (Col.topAt HC3.out ai)
  have HL := hid hl
  have Hn1 := hid hn1
  obtain ⟨tp, htp⟩ : ∃ tp, s1.h.top = tp := ⟨_, rfl⟩
  have Htp := hid htp
  rw [htp] at c4 hat
  clear hb3 HC2 han hl hn1 htp hai
  go_wp2_with fail
  have hnn : n1 = ((1 + nf : Nat) : Int) := by have := Hn1.out; have := HNf.out; unfold wrap64 at *; omega
  obtain ⟨hv, hhv⟩ : ∃ hv : Int, ((1 + nf : Nat) : Int) * 16 + kind = hv := ⟨_, rfl⟩
  have HHd : Hid (∀ w, Calls Try.prog 73 #[.int .i64 kind, .int .i64 n1] w fun e w' => e = .returned (.int .i64 hv) ∧ w = w') := fun w => by rw [hnn, ← hhv]; exact head_any (1 + nf) (by have := HNf.out; omega) kind HK.out.1 HK.out.2 w
  have HS4 : Hid (headZ kind (1 + nf) an s1 = ⟨s1.ws.set an hv, { s1.h with top := ai }, s1.r, s1.t + 1⟩) := by show _ = _; rw [← hhv, Hai.out]; rfl
  have hanN : an < N := by have := PK.out.top; have := Han.out; omega
  have HWr := hid (fun (X : World) (hX : ColAt W bc bw N cap { s1 with h := { s1.h with top := ai } } X) => show Calls Try.prog 72 #[.pointer (some ⟨bc, 0, none⟩), .int .i64 ai, .int .i64 hv] X (fun e w' => e = .returned (.tuple #[]) ∧ ColAt W bc bw N cap ⟨s1.ws.set an hv, { s1.h with top := ai }, s1.r, s1.t + 1⟩ w') from by
    have e := write_calls hX hanN hv PK.out.t0 (by have := PK.out.t1; dsimp only; omega)
    rw [← Hai.out] at e
    exact e)
  generalize T3.setCell ⟨bc, 4, none⟩ (.int .i64 ai) = T4 at *
  have c4' : ∀ y : Later T4.heap.size T4, y.w.cell? ⟨bc, 4, none⟩ = some (.int .i64 ai) := fun y => y.cell (heap_lt (Col.blk HC4.out)) (Col.blk HC4.out).cells.2.2.2.2.1
  clear c4 f4 HC3 hat hhv hnn
  refine till_begin (c := 9) (S := fun w' => ∃ x : Later T4.heap.size T4, w' = x.w) (by kernel_rfl) ?_
  refine till_walk (by kernel_rfl) 9 0 _ _ (by kernel_rfl) (by kernel_rfl) ⟨⟨T4.drew, (Below.refl _ _).drew⟩, rfl⟩ ?_
  simp only [List.drop_zero, List.take_succ_cons, List.take_zero]
  repeat (go_big_quiet_step (first | (rename_i y; go_at_call 73; refine (HHd.out _).mono ?_; rintro e w5 ⟨rfl, rfl⟩; exact ⟨rfl, y, rfl⟩)))
  refine wpQuiet_nil ?_
  rintro w5 ⟨x1, rfl⟩
  refine till_enter (c := 9) (f := 72) (args := #[.pointer (some ⟨bc, 0, none⟩), .int .i64 ai, .int .i64 hv]) rfl (by kernel_rfl) rfl (by simp [go_sem]) ?_
  refine (HWr.out _ (Col.keep HC4.out x1.h)).mono ?_
  rintro e T5 ⟨rfl, hC5⟩
  refine ⟨_, rfl, ?_⟩
  have HC5 : Hid (ColAt W bc bw N cap (headZ kind (1 + nf) an s1) T5) := by rw [HS4.out]; exact hC5
  clear hC5 HC4 c4' HWr HHd HS4 x1
  refine any_frame (by simp [go_sem]; exact rfl) ?_
  refine any_stage (fun _ => True) ?_
  refine stage_end (by kernel_rfl) ?_
  obtain ⟨s5, hs5⟩ : ∃ s5, headZ kind (1 + nf) an s1 = s5 := ⟨_, rfl⟩
  rw [hs5] at HC5
  have Hs5 := hid hs5
  have HT5 : Hid (s5.h.top = ai ∧ 0 ≤ s5.t ∧ s5.t ≤ 70001 ∧ an + 1 + nf ≤ N ∧ N ≤ 8000) := by
    have := PK.out.t0
    have := PK.out.t1
    have := PK.out.top
    have := PK.out.N1
    have := Han.out
    show _ ∧ _
    have := Hai.out
    have := Htp.out
    rw [← hs5]
    unfold headZ
    dsimp only
    omega
  clear hs5
  go_wp2_with fail
  go_loopw [76] (fun i wr => ∃ (ii : Int) (k : Nat), i = .int .i64 ii ∧ Hid (ii = (k : Int) ∧ k ≤ nf) ∧ Hid (ColAt W bc bw N cap (writesRun fs an k s5) wr)) (fun i _ => nf - (intOf i).toNat)
  case atStart => exact ⟨0, 0, rfl, ⟨rfl, by omega⟩, HC5.out⟩
  case round =>
    obtain ⟨ii, k, rfl, HQ, HI⟩ := hrel
    have hi0 : 0 ≤ ii := by have := HQ.out; omega
    obtain ⟨k1, k2, k3, k4⟩ := writesRun_keeps fs an s5 k
    have c4 := (Col.blk HI.out).cells.2.2.2.2.1
    rw [k2, HT5.out.1] at c4
    by_cases hlt : ii < (nf : Int)
    · have hkn : k < nf := by have := HQ.out; omega
      have hik : ii.toNat = k := by have := HQ.out; omega
      have q0 := (HRf.out.of_block ((Col.frame HI.out).block gf HRf.out.lt hg1 hg2)).cell (i := k) hkn
      unfold intCells at q0
      obtain ⟨z1, hw1⟩ : ∃ z1, wrap64 (ai + 1) = z1 := ⟨_, rfl⟩
      obtain ⟨z2, hw2⟩ : ∃ z2, wrap64 (z1 + ii) = z2 := ⟨_, rfl⟩
      have hz2 : z2 = ((an + 1 + k : Nat) : Int) := by have := HT5.out; have := HQ.out; have := Hai.out; rw [← hw2, ← hw1]; unfold wrap64; omega
      have HWk := hid (write_calls HI.out (i := an + 1 + k) (by have := HT5.out; omega) (fs.getD k 0) (by rw [k4]; have := HT5.out; omega) (by rw [k4]; have := HT5.out; have := HNf.out; omega))
      rw [← hz2] at HWk
      have hsd : Hid (nf - (intOf (.int .i64 (ii + 1))).toNat < nf - (intOf (.int .i64 ii)).toNat) := by show _ < _; simp only [intOf]; have := HQ.out; omega
      obtain ⟨fk, hfk⟩ : ∃ fk, fs.getD k 0 = fk := ⟨_, rfl⟩
      rw [hfk] at q0 HWk
      have Hfk := hid hfk
      clear hfk
      clear k1 k2 k3 k4 hz2
      go_wp2_with fail
      refine HWk.out.mono ?_
      rintro e T6 ⟨rfl, hC6⟩
      have HC6 := hid hC6
      clear hC6 HWk q0 c4 HI
      go_wp2_with fail
      have hw : wrap64 (ii + 1) = ii + 1 := by have := HQ.out; have := HNf.out; unfold wrap64; omega
      rw [hw]
      exact ⟨⟨ii + 1, k + 1, rfl, ⟨by have := HQ.out; push_cast; omega, by omega⟩, by have e := HC6.out; rw [← Hfk.out] at e; exact e⟩, hsd.out⟩
    · have hkn : k = nf := by have := HQ.out; omega
      have HIf := HI
      have HPt : Hid (writesRun fs an k s5 = putZ kind fs s1) := by
        show _ = _
        unfold putZ
        rw [hkn, ← Hs5.out, HL.out, Htp.out, show (tp - ((1 + nf : Nat) : Int)).toNat = an by have := Han.out; have := Htp.out; omega]
      have HTp : Hid ((putZ kind fs s1).h.top = ai) := by show _ = _; rw [← HPt.out, k2]; exact HT5.out.1
      have HMk := hid (fun w => implMake_calls 0 ai w)
      go_wp2_with fail
      refine (HMk.out _).mono ?_
      rintro e T7 ⟨rfl, rfl⟩
      go_wp2_with fail
      go_ret2
      refine ⟨by rw [HTp.out]; rfl, ?_, HRr.out.of_block ((Col.frame HIf.out).block g HRr.out.lt hq1 hq2), (Col.frame HIf.out).four _ _⟩
      rw [← HPt.out]
      exact Col.rebase HIf.out _ (Frm.refl _ _ _)

set_option maxHeartbeats 1600000 in
set_option maxRecDepth 100000 in
theorem iNew_late {W : World} {bc bw N cap g n gc gf nf fc : Nat} {kind m : Int} (n1 : Int) (hn1 : wrap64 (1 + (nf : Int)) = n1) (s1 : CN)
    (HLk : Hid (Calls Try.prog 50 #[.pointer (some ⟨bc, 0, none⟩), .int .i64 m] W (LookPost W bc bw N cap (some s1))))
    (hne : (s1.h.scan == s1.h.bottom) = false)
    (HRm : Hid (∀ w0 X, ColAt w0 bc bw N cap s1 X → Calls Try.prog 70 #[.pointer (some ⟨bc, 0, none⟩), .int .i64 n1] X fun e w' => e = .returned (.bool false) ∧ Below X.heap.size X w')) :
    Calls Try.prog 44 #[.pointer (some ⟨bc, 0, none⟩), .slice (some ⟨g, 0, none⟩) n gc, .int .i64 kind, .slice (some ⟨gf, 0, none⟩) nf fc, .int .i64 m] W (NewPost W bc bw N cap g n gf none) := by
  go_enter Try.func44, Try.ntmps44
  go_wp2_with fail
  refine HLk.out.mono ?_
  rintro e W1 ⟨rfl, hC1⟩
  have HC1 := hid hC1
  clear hC1 HLk
  go_wp2_with fail
  have c3 : ∀ y : Later W1.heap.size W1, y.w.cell? ⟨bc, 3, none⟩ = some (.int .i64 s1.h.bottom) := fun y => y.cell (heap_lt (Col.blk HC1.out)) (Col.blk HC1.out).cells.2.2.2.1
  have c5 : ∀ y : Later W1.heap.size W1, y.w.cell? ⟨bc, 5, none⟩ = some (.int .i64 s1.h.scan) := fun y => y.cell (heap_lt (Col.blk HC1.out)) (Col.blk HC1.out).cells.2.2.2.2.2.1
  generalize s1.h.bottom = bt at *
  generalize s1.h.scan = sc at *
  refine stage_begin (S := fun w' => ∃ x : Later W1.heap.size W1, w' = x.w) (by kernel_rfl) ?_
  refine stage_walk (by kernel_rfl) 28 0 _ _ (by kernel_rfl) ⟨⟨W1.drew, (Below.refl _ _).drew⟩, rfl⟩ ?_
  simp only [List.drop_zero, List.take_succ_cons, List.take_zero]
  repeat (go_big_quiet_step (first | (rename_i y; go_at_call 70; refine (HRm.out _ _ (Col.keep HC1.out y.h)).mono ?_; rintro e w5 ⟨rfl, hb5⟩; exact ⟨rfl, ⟨w5, y.h.trans (hb5.mono y.h.size)⟩, rfl⟩)))
  refine wpQuiet_nil ?_
  rintro w6 ⟨y, rfl⟩
  refine stage_end (by kernel_rfl) ?_
  have HC2 := hid (Col.keep HC1.out y.h)
  generalize y.w = W2 at *
  clear y HC1
  go_wp2_with fail
  refine (HRm.out _ _ HC2.out).mono ?_
  rintro e W3 ⟨rfl, hb3⟩
  have HF3 := hid (Col.frame (Col.keep HC2.out hb3))
  clear hb3 HC2
  go_wp2_with fail
  go_ret2
  exact ⟨rfl, HF3.out.four _ _⟩

set_option maxHeartbeats 1600000 in
set_option maxRecDepth 100000 in
theorem iNew_roots {W : World} {bc bw N cap g n gc gf nf fc : Nat} {kind m : Int} (n1 : Int) (hn1 : wrap64 (1 + (nf : Int)) = n1) (s1 : CN)
    (HLk : Hid (Calls Try.prog 50 #[.pointer (some ⟨bc, 0, none⟩), .int .i64 m] W (LookPost W bc bw N cap (some s1))))
    (fs rs : List Int) (hg1 : gf ≠ bc) (hg2 : gf ≠ bw) (hq1 : g ≠ bc) (hq2 : g ≠ bw)
    (HRf : Hid (CellRow 3 W gf nf (intCells fs))) (HRr : Hid (CellRow 3 W g n (intCells rs)))
    (heq : (s1.h.scan == s1.h.bottom) = true)
    (HRm : Hid (∀ w0 X, ColAt w0 bc bw N cap s1 X → Calls Try.prog 70 #[.pointer (some ⟨bc, 0, none⟩), .int .i64 n1] X fun e w' => e = .returned (.bool false) ∧ Below X.heap.size X w'))
    (HCh : Hid (∀ w0 X, ColAt w0 bc bw N cap s1 X → CellRow 3 X g n (intCells rs) → Calls Try.prog 48 #[.pointer (some ⟨bc, 0, none⟩), .slice (some ⟨g, 0, none⟩) n gc] X (MovesPost X bc bw N cap g n none))) :
    Calls Try.prog 44 #[.pointer (some ⟨bc, 0, none⟩), .slice (some ⟨g, 0, none⟩) n gc, .int .i64 kind, .slice (some ⟨gf, 0, none⟩) nf fc, .int .i64 m] W (NewPost W bc bw N cap g n gf none) := by
  go_enter Try.func44, Try.ntmps44
  go_wp2_with fail
  refine HLk.out.mono ?_
  rintro e W1 ⟨rfl, hC1⟩
  have HC1 := hid hC1
  clear hC1 HLk
  go_wp2_with fail
  have c3 : ∀ y : Later W1.heap.size W1, y.w.cell? ⟨bc, 3, none⟩ = some (.int .i64 s1.h.bottom) := fun y => y.cell (heap_lt (Col.blk HC1.out)) (Col.blk HC1.out).cells.2.2.2.1
  have c5 : ∀ y : Later W1.heap.size W1, y.w.cell? ⟨bc, 5, none⟩ = some (.int .i64 s1.h.scan) := fun y => y.cell (heap_lt (Col.blk HC1.out)) (Col.blk HC1.out).cells.2.2.2.2.2.1
  have HRr1 := hid (HRr.out.of_block ((Col.frame HC1.out).block g HRr.out.lt hq1 hq2))
  have HRf1 := hid (HRf.out.of_block ((Col.frame HC1.out).block gf HRf.out.lt hg1 hg2))
  generalize s1.h.bottom = bt at *
  generalize s1.h.scan = sc at *
  refine till_begin (c := 20) (S := fun w' => ∃ x : Later W1.heap.size W1, w' = x.w) (by kernel_rfl) ?_
  refine till_walk (by kernel_rfl) 20 0 _ _ (by kernel_rfl) (by kernel_rfl) ⟨⟨W1.drew, (Below.refl _ _).drew⟩, rfl⟩ ?_
  simp only [List.drop_zero, List.take_succ_cons, List.take_zero]
  repeat (go_big_quiet_step (first | (rename_i y; go_at_call 70; refine (HRm.out _ _ (Col.keep HC1.out y.h)).mono ?_; rintro e w5 ⟨rfl, hb5⟩; exact ⟨rfl, ⟨w5, y.h.trans (hb5.mono y.h.size)⟩, rfl⟩)))
  refine wpQuiet_nil ?_
  rintro w5 ⟨x1, rfl⟩
  refine till_enter (c := 20) (f := 48) (args := #[.pointer (some ⟨bc, 0, none⟩), .slice (some ⟨g, 0, none⟩) n gc]) rfl (by kernel_rfl) rfl (by simp [go_sem]) ?_
  refine (HCh.out _ _ (Col.keep HC1.out x1.h) (HRr1.out.of_block (x1.h.block g HRr1.out.lt))).mono ?_
  intro e W2 hP
  have HX1 := hid (Col.frame (Col.keep HC1.out x1.h))
  have HRfx := hid (HRf1.out.of_block (x1.h.block gf HRf1.out.lt))
  clear c3 c5 HC1 HCh HRr1 HRf1
  obtain ⟨rfl, -, hf⟩ := hP
  refine ⟨_, rfl, ?_⟩
  have HF2 := hid ((HX1.out.four g gf).trans (hf.four gf))
  clear hf
  refine any_frame (by simp [go_sem]; exact rfl) ?_
  refine any_stage (fun w' => ∃ x : Later W2.heap.size W2, w' = x.w) ?_
  refine stage_walk (by kernel_rfl) 7 21 _ _ (by kernel_rfl) ⟨⟨W2, Below.refl _ _⟩, rfl⟩ ?_
  simp only [List.drop_zero, List.drop_succ_cons, List.take_succ_cons, List.take_zero]
  repeat (go_big_quiet_step (fail))
  refine wpQuiet_nil ?_
  rintro w6 ⟨y, rfl⟩
  refine stage_end (by kernel_rfl) ?_
  have HF3 := hid (HF2.out.trans ((Frm.of_below y.h).four _ _))
  generalize y.w = W3 at *
  go_wp2_with fail
  go_ret2
  exact ⟨rfl, HF3.out⟩

set_option maxHeartbeats 1600000 in
set_option maxRecDepth 100000 in
theorem iNew_fields {W : World} {bc bw N cap g n gc gf nf fc : Nat} {kind m : Int} (n1 : Int) (hn1 : wrap64 (1 + (nf : Int)) = n1) (s1 : CN)
    (HLk : Hid (Calls Try.prog 50 #[.pointer (some ⟨bc, 0, none⟩), .int .i64 m] W (LookPost W bc bw N cap (some s1))))
    (fs rs rs' : List Int) (s2 : CN) (hg1 : gf ≠ bc) (hg2 : gf ≠ bw) (hq1 : g ≠ bc) (hq2 : g ≠ bw) (hgg : gf ≠ g)
    (HRf : Hid (CellRow 3 W gf nf (intCells fs))) (HRr : Hid (CellRow 3 W g n (intCells rs)))
    (heq : (s1.h.scan == s1.h.bottom) = true)
    (HRm : Hid (∀ w0 X, ColAt w0 bc bw N cap s1 X → Calls Try.prog 70 #[.pointer (some ⟨bc, 0, none⟩), .int .i64 n1] X fun e w' => e = .returned (.bool false) ∧ Below X.heap.size X w'))
    (HCh : Hid (∀ w0 X, ColAt w0 bc bw N cap s1 X → CellRow 3 X g n (intCells rs) → Calls Try.prog 48 #[.pointer (some ⟨bc, 0, none⟩), .slice (some ⟨g, 0, none⟩) n gc] X (MovesPost X bc bw N cap g n (some (rs', s2)))))
    (HMa : Hid (∀ w0 X, ColAt w0 bc bw N cap s2 X → CellRow 3 X gf nf (intCells fs) → Calls Try.prog 71 #[.pointer (some ⟨bc, 0, none⟩), .slice (some ⟨gf, 0, none⟩) nf fc] X (MovesPost X bc bw N cap gf nf none))) :
    Calls Try.prog 44 #[.pointer (some ⟨bc, 0, none⟩), .slice (some ⟨g, 0, none⟩) n gc, .int .i64 kind, .slice (some ⟨gf, 0, none⟩) nf fc, .int .i64 m] W (NewPost W bc bw N cap g n gf none) := by
  go_enter Try.func44, Try.ntmps44
  go_wp2_with fail
  refine HLk.out.mono ?_
  rintro e W1 ⟨rfl, hC1⟩
  have HC1 := hid hC1
  clear hC1 HLk
  go_wp2_with fail
  have c3 : ∀ y : Later W1.heap.size W1, y.w.cell? ⟨bc, 3, none⟩ = some (.int .i64 s1.h.bottom) := fun y => y.cell (heap_lt (Col.blk HC1.out)) (Col.blk HC1.out).cells.2.2.2.1
  have c5 : ∀ y : Later W1.heap.size W1, y.w.cell? ⟨bc, 5, none⟩ = some (.int .i64 s1.h.scan) := fun y => y.cell (heap_lt (Col.blk HC1.out)) (Col.blk HC1.out).cells.2.2.2.2.2.1
  have HRr1 := hid (HRr.out.of_block ((Col.frame HC1.out).block g HRr.out.lt hq1 hq2))
  have HRf1 := hid (HRf.out.of_block ((Col.frame HC1.out).block gf HRf.out.lt hg1 hg2))
  generalize s1.h.bottom = bt at *
  generalize s1.h.scan = sc at *
  refine till_begin (c := 20) (S := fun w' => ∃ x : Later W1.heap.size W1, w' = x.w) (by kernel_rfl) ?_
  refine till_walk (by kernel_rfl) 20 0 _ _ (by kernel_rfl) (by kernel_rfl) ⟨⟨W1.drew, (Below.refl _ _).drew⟩, rfl⟩ ?_
  simp only [List.drop_zero, List.take_succ_cons, List.take_zero]
  repeat (go_big_quiet_step (first | (rename_i y; go_at_call 70; refine (HRm.out _ _ (Col.keep HC1.out y.h)).mono ?_; rintro e w5 ⟨rfl, hb5⟩; exact ⟨rfl, ⟨w5, y.h.trans (hb5.mono y.h.size)⟩, rfl⟩)))
  refine wpQuiet_nil ?_
  rintro w5 ⟨x1, rfl⟩
  refine till_enter (c := 20) (f := 48) (args := #[.pointer (some ⟨bc, 0, none⟩), .slice (some ⟨g, 0, none⟩) n gc]) rfl (by kernel_rfl) rfl (by simp [go_sem]) ?_
  refine (HCh.out _ _ (Col.keep HC1.out x1.h) (HRr1.out.of_block (x1.h.block g HRr1.out.lt))).mono ?_
  intro e W2 hP
  have HX1 := hid (Col.frame (Col.keep HC1.out x1.h))
  have HRfx := hid (HRf1.out.of_block (x1.h.block gf HRf1.out.lt))
  clear c3 c5 HC1 HCh HRr1 HRf1
  obtain ⟨rfl, hC2, hr2, hf⟩ := hP
  have HC2 := hid hC2
  have HRr2 := hid hr2
  have HF2 := hid ((HX1.out.four g gf).trans (hf.four gf))
  have hblk := hf.2.2.2.2 gf HRfx.out.lt hg1 hg2 hgg
  have HRf2 := hid (HRfx.out.of_block hblk)
  refine ⟨_, rfl, ?_⟩
  clear hf hC2 hr2 HX1 HRfx hblk
  refine any_frame (by simp [go_sem]; exact rfl) ?_
  refine any_till (fun w' => ∃ x : Later W2.heap.size W2, w' = x.w) 24 ?_
  refine till_walk (by kernel_rfl) 3 21 _ _ (by kernel_rfl) (by kernel_rfl) ⟨⟨W2, Below.refl _ _⟩, rfl⟩ ?_
  simp only [List.drop_zero, List.drop_succ_cons, List.take_succ_cons, List.take_zero]
  repeat (go_big_quiet_step (fail))
  refine wpQuiet_nil ?_
  rintro w6 ⟨x2, rfl⟩
  have HRr3 := hid (HRr2.out.of_block (x2.h.block g HRr2.out.lt))
  have HF3 := hid (HF2.out.trans ((Frm.of_below x2.h).four _ _))
  refine till_enter (c := 24) (f := 71) (args := #[.pointer (some ⟨bc, 0, none⟩), .slice (some ⟨gf, 0, none⟩) nf fc]) rfl (by kernel_rfl) rfl (by simp [go_sem]) ?_
  refine (HMa.out _ _ (Col.keep HC2.out x2.h) (HRf2.out.of_block (x2.h.block gf HRf2.out.lt))).mono ?_
  intro e W4 hP
  clear HC2 HMa HRr2 HRf2 HF2
  obtain ⟨rfl, -, hf⟩ := hP
  have HF4 := hid (HF3.out.trans (hf.four' g))
  refine ⟨_, rfl, ?_⟩
  clear hf HRr3 HF3
  refine any_frame (by simp [go_sem]; exact rfl) ?_
  refine any_stage (fun w' => ∃ x : Later W4.heap.size W4, w' = x.w) ?_
  refine stage_walk (by kernel_rfl) 3 25 _ _ (by kernel_rfl) ⟨⟨W4, Below.refl _ _⟩, rfl⟩ ?_
  simp only [List.drop_zero, List.drop_succ_cons, List.take_succ_cons, List.take_zero]
  repeat (go_big_quiet_step (fail))
  refine wpQuiet_nil ?_
  rintro w6 ⟨y, rfl⟩
  refine stage_end (by kernel_rfl) ?_
  have HF5 := hid (HF4.out.trans ((Frm.of_below y.h).four _ _))
  generalize y.w = W5 at *
  go_wp2_with fail
  go_ret2
  exact ⟨rfl, HF5.out⟩

set_option maxHeartbeats 1600000 in
set_option maxRecDepth 100000 in
theorem iNew_still {W : World} {bc bw N cap g n gc gf nf fc : Nat} {kind m : Int} (n1 : Int) (hn1 : wrap64 (1 + (nf : Int)) = n1) (s1 : CN)
    (HLk : Hid (Calls Try.prog 50 #[.pointer (some ⟨bc, 0, none⟩), .int .i64 m] W (LookPost W bc bw N cap (some s1))))
    (fs rs rs' fs' : List Int) (s2 s3 : CN) (hg1 : gf ≠ bc) (hg2 : gf ≠ bw) (hq1 : g ≠ bc) (hq2 : g ≠ bw) (hgg : gf ≠ g)
    (HRf : Hid (CellRow 3 W gf nf (intCells fs))) (HRr : Hid (CellRow 3 W g n (intCells rs)))
    (heq : (s1.h.scan == s1.h.bottom) = true)
    (HRm : Hid (∀ w0 X, ColAt w0 bc bw N cap s1 X → Calls Try.prog 70 #[.pointer (some ⟨bc, 0, none⟩), .int .i64 n1] X fun e w' => e = .returned (.bool false) ∧ Below X.heap.size X w'))
    (HRm2 : Hid (∀ w0 X, ColAt w0 bc bw N cap s3 X → Calls Try.prog 70 #[.pointer (some ⟨bc, 0, none⟩), .int .i64 n1] X fun e w' => e = .returned (.bool false) ∧ Below X.heap.size X w'))
    (HCh : Hid (∀ w0 X, ColAt w0 bc bw N cap s1 X → CellRow 3 X g n (intCells rs) → Calls Try.prog 48 #[.pointer (some ⟨bc, 0, none⟩), .slice (some ⟨g, 0, none⟩) n gc] X (MovesPost X bc bw N cap g n (some (rs', s2)))))
    (HMa : Hid (∀ w0 X, ColAt w0 bc bw N cap s2 X → CellRow 3 X gf nf (intCells fs) → Calls Try.prog 71 #[.pointer (some ⟨bc, 0, none⟩), .slice (some ⟨gf, 0, none⟩) nf fc] X (MovesPost X bc bw N cap gf nf (some (fs', s3))))) :
    Calls Try.prog 44 #[.pointer (some ⟨bc, 0, none⟩), .slice (some ⟨g, 0, none⟩) n gc, .int .i64 kind, .slice (some ⟨gf, 0, none⟩) nf fc, .int .i64 m] W (NewPost W bc bw N cap g n gf none) := by
  go_enter Try.func44, Try.ntmps44
  go_wp2_with fail
  refine HLk.out.mono ?_
  rintro e W1 ⟨rfl, hC1⟩
  have HC1 := hid hC1
  clear hC1 HLk
  go_wp2_with fail
  have c3 : ∀ y : Later W1.heap.size W1, y.w.cell? ⟨bc, 3, none⟩ = some (.int .i64 s1.h.bottom) := fun y => y.cell (heap_lt (Col.blk HC1.out)) (Col.blk HC1.out).cells.2.2.2.1
  have c5 : ∀ y : Later W1.heap.size W1, y.w.cell? ⟨bc, 5, none⟩ = some (.int .i64 s1.h.scan) := fun y => y.cell (heap_lt (Col.blk HC1.out)) (Col.blk HC1.out).cells.2.2.2.2.2.1
  have HRr1 := hid (HRr.out.of_block ((Col.frame HC1.out).block g HRr.out.lt hq1 hq2))
  have HRf1 := hid (HRf.out.of_block ((Col.frame HC1.out).block gf HRf.out.lt hg1 hg2))
  generalize s1.h.bottom = bt at *
  generalize s1.h.scan = sc at *
  refine till_begin (c := 20) (S := fun w' => ∃ x : Later W1.heap.size W1, w' = x.w) (by kernel_rfl) ?_
  refine till_walk (by kernel_rfl) 20 0 _ _ (by kernel_rfl) (by kernel_rfl) ⟨⟨W1.drew, (Below.refl _ _).drew⟩, rfl⟩ ?_
  simp only [List.drop_zero, List.take_succ_cons, List.take_zero]
  repeat (go_big_quiet_step (first | (rename_i y; go_at_call 70; refine (HRm.out _ _ (Col.keep HC1.out y.h)).mono ?_; rintro e w5 ⟨rfl, hb5⟩; exact ⟨rfl, ⟨w5, y.h.trans (hb5.mono y.h.size)⟩, rfl⟩)))
  refine wpQuiet_nil ?_
  rintro w5 ⟨x1, rfl⟩
  refine till_enter (c := 20) (f := 48) (args := #[.pointer (some ⟨bc, 0, none⟩), .slice (some ⟨g, 0, none⟩) n gc]) rfl (by kernel_rfl) rfl (by simp [go_sem]) ?_
  refine (HCh.out _ _ (Col.keep HC1.out x1.h) (HRr1.out.of_block (x1.h.block g HRr1.out.lt))).mono ?_
  intro e W2 hP
  have HX1 := hid (Col.frame (Col.keep HC1.out x1.h))
  have HRfx := hid (HRf1.out.of_block (x1.h.block gf HRf1.out.lt))
  clear c3 c5 HC1 HCh HRr1 HRf1
  obtain ⟨rfl, hC2, hr2, hf⟩ := hP
  have HC2 := hid hC2
  have HRr2 := hid hr2
  have HF2 := hid ((HX1.out.four g gf).trans (hf.four gf))
  have hblk := hf.2.2.2.2 gf HRfx.out.lt hg1 hg2 hgg
  have HRf2 := hid (HRfx.out.of_block hblk)
  refine ⟨_, rfl, ?_⟩
  clear hf hC2 hr2 HX1 HRfx hblk
  refine any_frame (by simp [go_sem]; exact rfl) ?_
  refine any_till (fun w' => ∃ x : Later W2.heap.size W2, w' = x.w) 24 ?_
  refine till_walk (by kernel_rfl) 3 21 _ _ (by kernel_rfl) (by kernel_rfl) ⟨⟨W2, Below.refl _ _⟩, rfl⟩ ?_
  simp only [List.drop_zero, List.drop_succ_cons, List.take_succ_cons, List.take_zero]
  repeat (go_big_quiet_step (fail))
  refine wpQuiet_nil ?_
  rintro w6 ⟨x2, rfl⟩
  have HRr3 := hid (HRr2.out.of_block (x2.h.block g HRr2.out.lt))
  have HF3 := hid (HF2.out.trans ((Frm.of_below x2.h).four _ _))
  refine till_enter (c := 24) (f := 71) (args := #[.pointer (some ⟨bc, 0, none⟩), .slice (some ⟨gf, 0, none⟩) nf fc]) rfl (by kernel_rfl) rfl (by simp [go_sem]) ?_
  refine (HMa.out _ _ (Col.keep HC2.out x2.h) (HRf2.out.of_block (x2.h.block gf HRf2.out.lt))).mono ?_
  intro e W4 hP
  clear HC2 HMa HRr2 HRf2 HF2
  obtain ⟨rfl, hC4, hr4, hf⟩ := hP
  have HF4 := hid (HF3.out.trans (hf.four' g))
  have HRr4 := hid (HRr3.out.of_block (hf.2.2.2.2 g HRr3.out.lt hq1 hq2 (Ne.symm hgg)))
  have HRf4 := hid hr4
  have HC4 := hid hC4
  refine ⟨_, rfl, ?_⟩
  clear hf hC4 hr4 HRr3 HF3
  refine any_frame (by simp [go_sem]; exact rfl) ?_
  refine any_stage (fun w' => ∃ x : Later W4.heap.size W4, w' = x.w) ?_
  refine stage_walk (by kernel_rfl) 3 25 _ _ (by kernel_rfl) ⟨⟨W4, Below.refl _ _⟩, rfl⟩ ?_
  simp only [List.drop_zero, List.drop_succ_cons, List.take_succ_cons, List.take_zero]
  repeat (go_big_quiet_step (fail))
  refine wpQuiet_nil ?_
  rintro w6 ⟨y, rfl⟩
  refine stage_end (by kernel_rfl) ?_
  have HC2 := hid (Col.keep HC4.out y.h)
  generalize y.w = W2 at *
  clear HC4
  go_wp2_with fail
  refine (HRm2.out _ _ HC2.out).mono ?_
  rintro e W3 ⟨rfl, hb3⟩
  have HF3 := hid (Col.frame (Col.keep HC2.out hb3))
  clear hb3 HC2
  go_wp2_with fail
  go_ret2
  exact ⟨rfl, HF4.out.trans (HF3.out.four _ _)⟩

set_option maxHeartbeats 1600000 in
set_option maxRecDepth 100000 in
theorem iNew_flip {W : World} {bc bw N cap g n gc gf nf fc : Nat} {kind m : Int} (n1 : Int) (hn1 : wrap64 (1 + (nf : Int)) = n1) (s1 : CN)
    (HLk : Hid (Calls Try.prog 50 #[.pointer (some ⟨bc, 0, none⟩), .int .i64 m] W (LookPost W bc bw N cap (some s1))))
    (fs rs rs' fs' : List Int) (s2 s3 : CN) (hl : fs'.length = nf) (HNf : Hid (nf = 2 ∨ nf = 5)) (HK : Hid (0 ≤ kind ∧ kind ≤ 15)) (hg1 : gf ≠ bc) (hg2 : gf ≠ bw) (hq1 : g ≠ bc) (hq2 : g ≠ bw) (hgg : gf ≠ g)
    (HRf : Hid (CellRow 3 W gf nf (intCells fs))) (HRr : Hid (CellRow 3 W g n (intCells rs))) (PK : Hid (PutOk N (1 + nf) s3))
    (heq : (s1.h.scan == s1.h.bottom) = true)
    (HRm : Hid (∀ w0 X, ColAt w0 bc bw N cap s1 X → Calls Try.prog 70 #[.pointer (some ⟨bc, 0, none⟩), .int .i64 n1] X fun e w' => e = .returned (.bool false) ∧ Below X.heap.size X w'))
    (HRm2 : Hid (∀ w0 X, ColAt w0 bc bw N cap s3 X → Calls Try.prog 70 #[.pointer (some ⟨bc, 0, none⟩), .int .i64 n1] X fun e w' => e = .returned (.bool true) ∧ Below X.heap.size X w'))
    (HCh : Hid (∀ w0 X, ColAt w0 bc bw N cap s1 X → CellRow 3 X g n (intCells rs) → Calls Try.prog 48 #[.pointer (some ⟨bc, 0, none⟩), .slice (some ⟨g, 0, none⟩) n gc] X (MovesPost X bc bw N cap g n (some (rs', s2)))))
    (HMa : Hid (∀ w0 X, ColAt w0 bc bw N cap s2 X → CellRow 3 X gf nf (intCells fs) → Calls Try.prog 71 #[.pointer (some ⟨bc, 0, none⟩), .slice (some ⟨gf, 0, none⟩) nf fc] X (MovesPost X bc bw N cap gf nf (some (fs', s3))))) :
    Calls Try.prog 44 #[.pointer (some ⟨bc, 0, none⟩), .slice (some ⟨g, 0, none⟩) n gc, .int .i64 kind, .slice (some ⟨gf, 0, none⟩) nf fc, .int .i64 m] W (NewPost W bc bw N cap g n gf (some (rs', putZ kind fs' s3))) := by
  go_enter Try.func44, Try.ntmps44
  go_wp2_with fail
  refine HLk.out.mono ?_
  rintro e W1 ⟨rfl, hC1⟩
  have HC1 := hid hC1
  clear hC1 HLk
  go_wp2_with fail
  have c3 : ∀ y : Later W1.heap.size W1, y.w.cell? ⟨bc, 3, none⟩ = some (.int .i64 s1.h.bottom) := fun y => y.cell (heap_lt (Col.blk HC1.out)) (Col.blk HC1.out).cells.2.2.2.1
  have c5 : ∀ y : Later W1.heap.size W1, y.w.cell? ⟨bc, 5, none⟩ = some (.int .i64 s1.h.scan) := fun y => y.cell (heap_lt (Col.blk HC1.out)) (Col.blk HC1.out).cells.2.2.2.2.2.1
  have HRr1 := hid (HRr.out.of_block ((Col.frame HC1.out).block g HRr.out.lt hq1 hq2))
  have HRf1 := hid (HRf.out.of_block ((Col.frame HC1.out).block gf HRf.out.lt hg1 hg2))
  generalize s1.h.bottom = bt at *
  generalize s1.h.scan = sc at *
  refine till_begin (c := 20) (S := fun w' => ∃ x : Later W1.heap.size W1, w' = x.w) (by kernel_rfl) ?_
  refine till_walk (by kernel_rfl) 20 0 _ _ (by kernel_rfl) (by kernel_rfl) ⟨⟨W1.drew, (Below.refl _ _).drew⟩, rfl⟩ ?_
  simp only [List.drop_zero, List.take_succ_cons, List.take_zero]
  repeat (go_big_quiet_step (first | (rename_i y; go_at_call 70; refine (HRm.out _ _ (Col.keep HC1.out y.h)).mono ?_; rintro e w5 ⟨rfl, hb5⟩; exact ⟨rfl, ⟨w5, y.h.trans (hb5.mono y.h.size)⟩, rfl⟩)))
  refine wpQuiet_nil ?_
  rintro w5 ⟨x1, rfl⟩
  refine till_enter (c := 20) (f := 48) (args := #[.pointer (some ⟨bc, 0, none⟩), .slice (some ⟨g, 0, none⟩) n gc]) rfl (by kernel_rfl) rfl (by simp [go_sem]) ?_
  refine (HCh.out _ _ (Col.keep HC1.out x1.h) (HRr1.out.of_block (x1.h.block g HRr1.out.lt))).mono ?_
  intro e W2 hP
  have HX1 := hid (Col.frame (Col.keep HC1.out x1.h))
  have HRfx := hid (HRf1.out.of_block (x1.h.block gf HRf1.out.lt))
  clear c3 c5 HC1 HCh HRr1 HRf1
  obtain ⟨rfl, hC2, hr2, hf⟩ := hP
  have HC2 := hid hC2
  have HRr2 := hid hr2
  have HF2 := hid ((HX1.out.four g gf).trans (hf.four gf))
  have hblk := hf.2.2.2.2 gf HRfx.out.lt hg1 hg2 hgg
  have HRf2 := hid (HRfx.out.of_block hblk)
  refine ⟨_, rfl, ?_⟩
  clear hf hC2 hr2 HX1 HRfx hblk
  refine any_frame (by simp [go_sem]; exact rfl) ?_
  refine any_till (fun w' => ∃ x : Later W2.heap.size W2, w' = x.w) 24 ?_
  refine till_walk (by kernel_rfl) 3 21 _ _ (by kernel_rfl) (by kernel_rfl) ⟨⟨W2, Below.refl _ _⟩, rfl⟩ ?_
  simp only [List.drop_zero, List.drop_succ_cons, List.take_succ_cons, List.take_zero]
  repeat (go_big_quiet_step (fail))
  refine wpQuiet_nil ?_
  rintro w6 ⟨x2, rfl⟩
  have HRr3 := hid (HRr2.out.of_block (x2.h.block g HRr2.out.lt))
  have HF3 := hid (HF2.out.trans ((Frm.of_below x2.h).four _ _))
  refine till_enter (c := 24) (f := 71) (args := #[.pointer (some ⟨bc, 0, none⟩), .slice (some ⟨gf, 0, none⟩) nf fc]) rfl (by kernel_rfl) rfl (by simp [go_sem]) ?_
  refine (HMa.out _ _ (Col.keep HC2.out x2.h) (HRf2.out.of_block (x2.h.block gf HRf2.out.lt))).mono ?_
  intro e W4 hP
  clear HC2 HMa HRr2 HRf2 HF2
  obtain ⟨rfl, hC4, hr4, hf⟩ := hP
  have HF4 := hid (HF3.out.trans (hf.four' g))
  have HRr4 := hid (HRr3.out.of_block (hf.2.2.2.2 g HRr3.out.lt hq1 hq2 (Ne.symm hgg)))
  have HRf4 := hid hr4
  have HC4 := hid hC4
  refine ⟨_, rfl, ?_⟩
  clear hf hC4 hr4 HRr3 HF3
  refine any_frame (by simp [go_sem]; exact rfl) ?_
  refine any_stage (fun w' => ∃ x : Later W4.heap.size W4, w' = x.w) ?_
  refine stage_walk (by kernel_rfl) 3 25 _ _ (by kernel_rfl) ⟨⟨W4, Below.refl _ _⟩, rfl⟩ ?_
  simp only [List.drop_zero, List.drop_succ_cons, List.take_succ_cons, List.take_zero]
  repeat (go_big_quiet_step (fail))
  refine wpQuiet_nil ?_
  rintro w6 ⟨y, rfl⟩
  refine stage_end (by kernel_rfl) ?_
  have HC2 := hid (Col.keep HC4.out y.h)
  generalize y.w = W2 at *
  clear HC4
  go_wp2_with fail
  refine (HRm2.out _ _ HC2.out).mono ?_
  rintro e T3 ⟨rfl, hb3⟩
  have HC3 := hid (Col.keep HC2.out hb3)
  have c4 := (Col.blk HC3.out).cells.2.2.2.2.1
  have f4 := frozen_of_heap (Col.blk HC3.out) 4
  obtain ⟨an, han⟩ : ∃ an : Nat, s3.h.top = (an : Int) + (1 + nf : Nat) := ⟨(s3.h.top - (1 + nf : Nat)).toNat, by have := PK.out.room; have := PK.out.b0; omega⟩
  have Han := hid han
  obtain ⟨ai, hai⟩ : ∃ ai : Int, ai = (an : Int) := ⟨_, rfl⟩
  have Hai := hid hai
  have hat : wrap64 (s3.h.top - n1) = ai := by have := PK.out.top; have := PK.out.N1; have := hn1; have := HNf.out; unfold wrap64 at *; omega
  have HC4 := hid (Col.topAt HC3.out ai)
  have HL := hid hl
  have Hn1 := hid hn1
  obtain ⟨tp, htp⟩ : ∃ tp, s3.h.top = tp := ⟨_, rfl⟩
  have Htp := hid htp
  rw [htp] at c4 hat
  clear hb3 HC2 han hl hn1 htp hai
  go_wp2_with fail
  have hnn : n1 = ((1 + nf : Nat) : Int) := by have := Hn1.out; have := HNf.out; unfold wrap64 at *; omega
  obtain ⟨hv, hhv⟩ : ∃ hv : Int, ((1 + nf : Nat) : Int) * 16 + kind = hv := ⟨_, rfl⟩
  have HHd : Hid (∀ w, Calls Try.prog 73 #[.int .i64 kind, .int .i64 n1] w fun e w' => e = .returned (.int .i64 hv) ∧ w = w') := fun w => by rw [hnn, ← hhv]; exact head_any (1 + nf) (by have := HNf.out; omega) kind HK.out.1 HK.out.2 w
  have HS4 : Hid (headZ kind (1 + nf) an s3 = ⟨s3.ws.set an hv, { s3.h with top := ai }, s3.r, s3.t + 1⟩) := by show _ = _; rw [← hhv, Hai.out]; rfl
  have hanN : an < N := by have := PK.out.top; have := Han.out; omega
  have HWr := hid (fun (X : World) (hX : ColAt W4 bc bw N cap { s3 with h := { s3.h with top := ai } } X) => show Calls Try.prog 72 #[.pointer (some ⟨bc, 0, none⟩), .int .i64 ai, .int .i64 hv] X (fun e w' => e = .returned (.tuple #[]) ∧ ColAt W4 bc bw N cap ⟨s3.ws.set an hv, { s3.h with top := ai }, s3.r, s3.t + 1⟩ w') from by
    have e := write_calls hX hanN hv PK.out.t0 (by have := PK.out.t1; dsimp only; omega)
    rw [← Hai.out] at e
    exact e)
  generalize T3.setCell ⟨bc, 4, none⟩ (.int .i64 ai) = T4 at *
  have c4' : ∀ y : Later T4.heap.size T4, y.w.cell? ⟨bc, 4, none⟩ = some (.int .i64 ai) := fun y => y.cell (heap_lt (Col.blk HC4.out)) (Col.blk HC4.out).cells.2.2.2.2.1
  clear c4 f4 HC3 hat hhv hnn
  refine till_begin (c := 9) (S := fun w' => ∃ x : Later T4.heap.size T4, w' = x.w) (by kernel_rfl) ?_
  refine till_walk (by kernel_rfl) 9 0 _ _ (by kernel_rfl) (by kernel_rfl) ⟨⟨T4.drew, (Below.refl _ _).drew⟩, rfl⟩ ?_
  simp only [List.drop_zero, List.take_succ_cons, List.take_zero]
  repeat (go_big_quiet_step (first | (rename_i y; go_at_call 73; refine (HHd.out _).mono ?_; rintro e w5 ⟨rfl, rfl⟩; exact ⟨rfl, y, rfl⟩)))
  refine wpQuiet_nil ?_
  rintro w5 ⟨x1, rfl⟩
  refine till_enter (c := 9) (f := 72) (args := #[.pointer (some ⟨bc, 0, none⟩), .int .i64 ai, .int .i64 hv]) rfl (by kernel_rfl) rfl (by simp [go_sem]) ?_
  refine (HWr.out _ (Col.keep HC4.out x1.h)).mono ?_
  rintro e T5 ⟨rfl, hC5⟩
  refine ⟨_, rfl, ?_⟩
  have HC5 : Hid (ColAt W4 bc bw N cap (headZ kind (1 + nf) an s3) T5) := by rw [HS4.out]; exact hC5
  clear hC5 HC4 c4' HWr HHd HS4 x1
  refine any_frame (by simp [go_sem]; exact rfl) ?_
  refine any_stage (fun _ => True) ?_
  refine stage_end (by kernel_rfl) ?_
  obtain ⟨s5, hs5⟩ : ∃ s5, headZ kind (1 + nf) an s3 = s5 := ⟨_, rfl⟩
  rw [hs5] at HC5
  have Hs5 := hid hs5
  have HT5 : Hid (s5.h.top = ai ∧ 0 ≤ s5.t ∧ s5.t ≤ 70001 ∧ an + 1 + nf ≤ N ∧ N ≤ 8000) := by
    have := PK.out.t0
    have := PK.out.t1
    have := PK.out.top
    have := PK.out.N1
    have := Han.out
    show _ ∧ _
    have := Hai.out
    have := Htp.out
    rw [← hs5]
    unfold headZ
    dsimp only
    omega
  clear hs5
  go_wp2_with fail
  go_loopw [76] (fun i wr => ∃ (ii : Int) (k : Nat), i = .int .i64 ii ∧ Hid (ii = (k : Int) ∧ k ≤ nf) ∧ Hid (ColAt W4 bc bw N cap (writesRun fs' an k s5) wr)) (fun i _ => nf - (intOf i).toNat)
  case atStart => exact ⟨0, 0, rfl, ⟨rfl, by omega⟩, HC5.out⟩
  case round =>
    obtain ⟨ii, k, rfl, HQ, HI⟩ := hrel
    have hi0 : 0 ≤ ii := by have := HQ.out; omega
    obtain ⟨k1, k2, k3, k4⟩ := writesRun_keeps fs' an s5 k
    have c4 := (Col.blk HI.out).cells.2.2.2.2.1
    rw [k2, HT5.out.1] at c4
    by_cases hlt : ii < (nf : Int)
    · have hkn : k < nf := by have := HQ.out; omega
      have hik : ii.toNat = k := by have := HQ.out; omega
      have q0 := (HRf4.out.of_block ((Col.frame HI.out).block gf HRf4.out.lt hg1 hg2)).cell (i := k) hkn
      unfold intCells at q0
      obtain ⟨z1, hw1⟩ : ∃ z1, wrap64 (ai + 1) = z1 := ⟨_, rfl⟩
      obtain ⟨z2, hw2⟩ : ∃ z2, wrap64 (z1 + ii) = z2 := ⟨_, rfl⟩
      have hz2 : z2 = ((an + 1 + k : Nat) : Int) := by have := HT5.out; have := HQ.out; have := Hai.out; rw [← hw2, ← hw1]; unfold wrap64; omega
      have HWk := hid (write_calls HI.out (i := an + 1 + k) (by have := HT5.out; omega) (fs'.getD k 0) (by rw [k4]; have := HT5.out; omega) (by rw [k4]; have := HT5.out; have := HNf.out; omega))
      rw [← hz2] at HWk
      have hsd : Hid (nf - (intOf (.int .i64 (ii + 1))).toNat < nf - (intOf (.int .i64 ii)).toNat) := by show _ < _; simp only [intOf]; have := HQ.out; omega
      obtain ⟨fk, hfk⟩ : ∃ fk, fs'.getD k 0 = fk := ⟨_, rfl⟩
      rw [hfk] at q0 HWk
      have Hfk := hid hfk
      clear hfk
      clear k1 k2 k3 k4 hz2
      go_wp2_with fail
      refine HWk.out.mono ?_
      rintro e T6 ⟨rfl, hC6⟩
      have HC6 := hid hC6
      clear hC6 HWk q0 c4 HI
      go_wp2_with fail
      have hw : wrap64 (ii + 1) = ii + 1 := by have := HQ.out; have := HNf.out; unfold wrap64; omega
      rw [hw]
      exact ⟨⟨ii + 1, k + 1, rfl, ⟨by have := HQ.out; push_cast; omega, by omega⟩, by have e := HC6.out; rw [← Hfk.out] at e; exact e⟩, hsd.out⟩
    · have hkn : k = nf := by have := HQ.out; omega
      have HIf := HI
      have HPt : Hid (writesRun fs' an k s5 = putZ kind fs' s3) := by
        show _ = _
        unfold putZ
        rw [hkn, ← Hs5.out, HL.out, Htp.out, show (tp - ((1 + nf : Nat) : Int)).toNat = an by have := Han.out; have := Htp.out; omega]
      have HTp : Hid ((putZ kind fs' s3).h.top = ai) := by show _ = _; rw [← HPt.out, k2]; exact HT5.out.1
      have HMk := hid (fun w => implMake_calls 0 ai w)
      go_wp2_with fail
      refine (HMk.out _).mono ?_
      rintro e T7 ⟨rfl, rfl⟩
      go_wp2_with fail
      go_ret2
      refine ⟨by rw [HTp.out]; rfl, ?_, HRr4.out.of_block ((Col.frame HIf.out).block g HRr4.out.lt hq1 hq2), HF4.out.trans ((Col.frame HIf.out).four _ _)⟩
      rw [← HPt.out]
      exact Col.rebase HIf.out _ (Frm.refl _ _ _)
end Go.Proofs.Ytebpgglegnljgaa

namespace Go.Proofs.Ytebpgglegnljgaa
open Go.RowKit

theorem heap_alloc2 (w : World) (o o' : Obj) : ((w.alloc o).alloc o').heap[w.heap.size]? = some o ∧ ((w.alloc o).alloc o').heap[w.heap.size + 1]? = some o' ∧ ((w.alloc o).alloc o').heap.size = w.heap.size + 2 := by
  have h := two_kept (w := w) (o := o) (o' := o') (Below.refl _ _)
  exact ⟨h.1, h.2.1, by simp⟩

theorem row_of_owns {w : World} {B g N cap : Nat} {ws : List Int} (hl : ws.length = N) (h : w.ownsRow B 3 1 (.slice (some ⟨g, 0, none⟩) N cap) N (ws.map (fun x => Value.int .i64 x))) : CellRow 3 w g N (intCells ws) ∧ B ≤ g := by
  obtain ⟨-, hh | ⟨g', cp, cur, e, hg, hcur, hcp, -, hcs, htk⟩⟩ := h
  · exact absurd hh.1 (by simp)
  · cases e
    refine ⟨⟨cap, fun i => (cur[i]?).getD undef, ⟨cur, (0, 0), hcur, by omega, fun i hi => ?_, Or.inl rfl⟩, hcp, fun i hi => ?_⟩, hg⟩
    · have e := Array.getElem?_eq_getElem (xs := cur) (i := i) (by omega)
      dsimp only
      rw [e]
      rfl
    · have e : (cur.toList.take (N * 1))[i]? = (ws.map (fun x => Value.int .i64 x))[i]? := by rw [htk]
      rw [Nat.mul_one, List.getElem?_take_of_lt hi, List.getElem?_map, Array.getElem?_toList, List.getElem?_eq_getElem (by omega)] at e
      dsimp only
      rw [e]
      simp [intCells, List.getD, hl, hi]

set_option maxHeartbeats 1000000 in
set_option maxRecDepth 100000 in
theorem open_calls (b off cap N : Nat) (ws : List Int) (h : HpN) (w : World) (hN0 : 0 < N) (hl : ws.length = N) (hN : N ≤ 8000) (hb : b < w.heap.size)
    (hw : ∀ k, k < N → w.cell? ⟨b, off + k, none⟩ = some (.int .i64 (ws.getD k 0))) (ht0 : 0 ≤ h.touched) (ht1 : h.touched < 9223372036854775808) :
    Calls Try.prog 46 #[heapV (.slice (some ⟨b, off, none⟩) N cap) h] w fun e w' => ∃ bm bw cap' : Nat, e = .returned (.pointer (some ⟨bm, 0, none⟩)) ∧ Wk w bm bw N cap' ⟨ws, h, 0, 0⟩ false w' ∧ w.heap.size ≤ bm ∧ w.heap.size ≤ bw := by
  obtain ⟨g1, g2, g3, g4, g5, g6, g7, g8, g9⟩ := h
  unfold heapV
  dsimp only at *
  have HW := hid hw
  have HT : Hid (touchZ ⟨ws, ⟨g1, g2, g3, g4, g5, g6, g7, g8, g9⟩, 0, 0⟩ = g9) := by
    show _ = _
    unfold touchZ wrap64
    dsimp only
    omega
  clear hw ht0 ht1
  obtain ⟨i0, hi, hz0, hz1, hz2⟩ := info_parts info_int
  obtain ⟨eA, eB, eS⟩ := heap_alloc2 w (.cells #[.slice (some ⟨b, off, none⟩) N cap, .int .i64 g1, .int .i64 g2, .int .i64 g3, .int .i64 g4, .int .i64 g5, .int .i64 g6, .int .i64 g7, .int .i64 g8, .int .i64 g9] 25) (.cells #[] 3)
  have k2 := ((Below.refl w.heap.size w).alloc (Nat.le_refl _) (.cells #[.slice (some ⟨b, off, none⟩) N cap, .int .i64 g1, .int .i64 g2, .int .i64 g3, .int .i64 g4, .int .i64 g5, .int .i64 g6, .int .i64 g7, .int .i64 g8, .int .i64 g9] 25)).alloc (by simp) (.cells #[] 3)
  have HEA := hid eA
  have HEB := hid eB
  have HES := hid eS
  have HK2 := hid k2
  clear eA eB eS k2
  go_enter Try.func46, Try.ntmps46
  go_wp2_with (first
    | (at_builtin; refine wpList_append_own _ rfl _ _ 23 rfl w.heap.size 3 i0 (.int .i64 0) 1 8 Try.underlying23 hi hz0 hz1 hz2 rfl (by decide) (.slice (some ⟨w.heap.size + 1, 0, none⟩) 0 0) 0 [] rfl ⟨rfl, Or.inr ⟨w.heap.size + 1, 0, #[], rfl, by omega, HEB.out, by omega, by decide, rfl, rfl⟩⟩ ⟨b, off, none⟩ N cap (ws.map (fun x => Value.int .i64 x)) rfl (by simp [hl]) (fun j u hu => ?_) (fun u hu => ?_) (by unfold maxLen; omega) (by omega) (by rw [HES.out]; omega) ?_))
  · rw [List.getElem?_map] at hu
    obtain ⟨x, hx, rfl⟩ := Option.map_eq_some_iff.1 hu
    have hj : j < N := by have := (List.getElem?_eq_some_iff.1 hx).1; omega
    have e := (HK2.out.cell (p := ⟨b, off + j, none⟩) hb).trans (HW.out j hj)
    rw [show ws.getD j 0 = x by simp [List.getD, hx]] at e
    have ea : (⟨b, off, none⟩ : Addr).add j = ⟨b, off + j, none⟩ := by
      unfold Addr.add
      split
      · simp_all
      · rfl
    rw [ea]
    exact e
  · simp only [List.mem_map] at hu
    obtain ⟨x, _, rfl⟩ := hu
    rfl
  · intro v' w3 hown hgrow hnil
    obtain ⟨-, hh | ⟨g, cp, cur, rfl, hg, hcur, hcp, hcm, hcs, htk⟩⟩ := id hown
    · exact absurd hh.1 hnil
    obtain ⟨hrow, hlow⟩ := row_of_owns hl hown
    have hH : HeapBlk w3 w.heap.size (.slice (some ⟨b, off, none⟩) N cap) ⟨g1, g2, g3, g4, g5, g6, g7, g8, g9⟩ := (hgrow.block w.heap.size (by rw [HES.out]; omega) (by simp [Value.ownBlock])).trans HEA.out
    have hbw : Below w.heap.size w w3 := Below.grown HK2.out hgrow (by rw [HES.out]; omega) (fun j hj => by simp [Value.ownBlock] at hj; omega)
    have hne : g ≠ w.heap.size := by
      rintro rfl
      have e := hH
      unfold HeapBlk at e
      rw [hcur] at e
      simp at e
    obtain ⟨c0, c1, c2, c3, c4, c5, c6, c7, c8, c9⟩ := hH.cells
    dsimp only at c0 c1 c2 c3 c4 c5 c6 c7 c8 c9
    have f0 := frozen_of_heap hH 0
    have HB := hid hbw
    have HR := hid hrow
    have HH := hid hH
    have hsz := hbw.size
    clear hown hgrow hnil hcur hcp hcm hcs htk hbw hrow hH HK2 HEA HEB HES HW
    go_wp2_with fail
    go_ret
    have hs : (w3.setCell ⟨w.heap.size, 0, none⟩ (.slice (some ⟨g, 0, none⟩) N cp)).heap.size = w3.heap.size := by simp [World.setCell]
    have hgl := HR.out.lt
    refine ⟨w3.heap.size, g, cp, rfl, ⟨?_, ?_, hl, by omega, Frm.of_below ((HB.out.setCell (Nat.le_refl _) _).alloc (by rw [hs]; exact hsz) _)⟩, hsz, hlow⟩
    · have e := (MapKept.heap_alloc (w3.setCell ⟨w.heap.size, 0, none⟩ (.slice (some ⟨g, 0, none⟩) N cp)) (.cells #[.slice (some ⟨g, 0, none⟩) N cp, .int .i64 g1, .int .i64 g2, .int .i64 g3, .int .i64 g4, .int .i64 g5, .int .i64 g6, .int .i64 g7, .int .i64 g8, .int .i64 g9, .bool false] 82)).1
      rw [hs] at e
      unfold WkBlk
      rw [HT.out]
      exact e
    · refine HR.out.of_block ?_
      have e1 := ((Below.refl (w3.setCell ⟨w.heap.size, 0, none⟩ (.slice (some ⟨g, 0, none⟩) N cp)).heap.size _).alloc (Nat.le_refl _) (.cells #[.slice (some ⟨g, 0, none⟩) N cp, .int .i64 g1, .int .i64 g2, .int .i64 g3, .int .i64 g4, .int .i64 g5, .int .i64 g6, .int .i64 g7, .int .i64 g8, .int .i64 g9, .bool false] 82)).block g (by rw [hs]; exact hgl)
      exact e1.trans (Below.heap_setCell _ _ _ _ hne)
end Go.Proofs.Ytebpgglegnljgaa

namespace Go.Proofs.Ytebpgglegnljgaa
open Go.RowKit

theorem here_not {h : HpN} {x : Int} (hg : hereZ h x = !lateZ h x) {b : Bool} (hl : lateZ h x = b) : hereZ h x = !b := by rw [hg, hl]

set_option maxRecDepth 100000 in
theorem smove_stays {w0 W : World} {bm bw N cap : Nat} {s : CN} (c : Wk w0 bm bw N cap s false W) (x : Int) (h0 : 0 ≤ s.h.to) (h1 : s.h.to ≤ s.h.size) (h3 : s.h.size ≤ 4000) (hh : hereZ s.h x = true) :
    Calls Try.prog 75 #[.pointer (some ⟨bm, 0, none⟩), .int .i64 x] W fun e w' => e = .returned (.int .i64 x) ∧ Wk w0 bm bw N cap s false w' := by
  have HIo := hid (here_calls c x h0 (by omega) (by omega) h3)
  rw [hh] at HIo
  have HC := hid c
  clear c
  go_enter Try.func75, Try.ntmps75
  go_wp2_with fail
  refine HIo.out.mono ?_
  rintro e W1 ⟨rfl, hb1⟩
  have HC1 := hid (HC.out.keep hb1)
  clear hb1 HIo
  go_wp2_with fail
  go_ret
  exact ⟨rfl, HC1.out⟩

set_option maxRecDepth 100000 in
theorem smove_moved {w0 W : World} {bm bw N cap : Nat} {s : CN} (c : Wk w0 bm bw N cap s false W) (x : Int) (a : Nat) (h0 : 0 ≤ s.h.to) (h1 : s.h.to ≤ s.h.size) (h3 : s.h.size ≤ 4000) (hh : hereZ s.h x = false)
    (ha : x / 8 = a) (hk : s.ws.getD a 0 % 16 = 15) (han : a + 1 < N) (hN : N ≤ 8000) :
    Calls Try.prog 75 #[.pointer (some ⟨bm, 0, none⟩), .int .i64 x] W fun e w' => e = .returned (.int .i64 (s.ws.getD (a + 1) 0)) ∧ Wk w0 bm bw N cap ⟨s.ws, s.h, s.r + 1 + 1, s.t⟩ false w' := by
  have HIo := hid (here_calls c x h0 (by omega) (by omega) h3)
  rw [hh] at HIo
  have HNum := hid (fun w => specNum_calls x w)
  unfold numZ at HNum
  rw [ha] at HNum
  have hk1 : (bits .and .i64 (s.ws.getD a 0) 15 == 15) = true := by rw [and15]; simpa using hk
  have hk2 : bits .and .i64 (s.ws.getD a 0) 15 = 15 := by rw [and15]; exact hk
  have HC := hid c
  clear c ha hk hh
  go_enter Try.func75, Try.ntmps75
  go_wp2_with fail
  refine HIo.out.mono ?_
  rintro e W1 ⟨rfl, hb1⟩
  have HC1 := hid (HC.out.keep hb1)
  have HRd := hid (sread_calls HC1.out (i := a) (by omega))
  clear hb1 HIo HC
  go_wp2_with fail
  refine (HNum.out _).mono ?_
  rintro e W2 ⟨rfl, rfl⟩
  go_wp2_with fail
  refine HRd.out.mono ?_
  rintro e W3 ⟨rfl, hC3⟩
  have HRe := hid (sread_calls hC3 (i := a + 1) han)
  dsimp only at HRe
  rw [show ((a + 1 : Nat) : Int) = (a : Int) + 1 from rfl] at HRe
  clear hC3 HRd HC1 HNum
  generalize s.ws.getD a 0 = F at *
  go_wp2_with fail
  refine HRe.out.mono ?_
  rintro e W4 ⟨rfl, hC4⟩
  have HC4 := hid hC4
  clear hC4 HRe
  go_wp2_with fail
  go_ret
  exact ⟨rfl, HC4.out⟩

set_option maxRecDepth 100000 in
theorem smove_full {w0 W : World} {bm bw N cap : Nat} {s : CN} (c : Wk w0 bm bw N cap s false W) (x : Int) (a n : Nat) (h0 : 0 ≤ s.h.to) (h1 : s.h.to ≤ s.h.size) (h3 : s.h.size ≤ 4000) (hh : hereZ s.h x = false)
    (ha : x / 8 = a) (hf : s.ws.getD a 0 / 16 = n) (hn : n ≤ 6) (hk : s.ws.getD a 0 % 16 ≠ 15) (hroom : ¬ (n : Int) ≤ s.h.top - s.h.bottom) (han : a < N) (hb0 : 0 ≤ s.h.bottom) (hb1 : s.h.bottom ≤ 8000) :
    Calls Try.prog 75 #[.pointer (some ⟨bm, 0, none⟩), .int .i64 x] W fun e w' => e = .returned (.int .i64 x) ∧ Wk w0 bm bw N cap ⟨s.ws, s.h, s.r + 1, s.t⟩ true w' := by
  have HIo := hid (here_calls c x h0 (by omega) (by omega) h3)
  rw [hh] at HIo
  have HNum := hid (fun w => specNum_calls x w)
  unfold numZ at HNum
  rw [ha] at HNum
  have hk1 : (bits .and .i64 (s.ws.getD a 0) 15 == 15) = false := by rw [and15]; simpa using hk
  have HC := hid c
  clear c ha hk hh
  go_enter Try.func75, Try.ntmps75
  go_wp2_with fail
  refine HIo.out.mono ?_
  rintro e W1 ⟨rfl, hb1⟩
  have HC1 := hid (HC.out.keep hb1)
  have HRd := hid (sread_calls HC1.out (i := a) han)
  clear hb1 HIo HC
  go_wp2_with fail
  refine (HNum.out _).mono ?_
  rintro e W2 ⟨rfl, rfl⟩
  go_wp2_with fail
  refine HRd.out.mono ?_
  rintro e W3 ⟨rfl, hC3⟩
  have HC3 := hid hC3
  obtain ⟨-, -, -, c3, c4, -, -, -, -, -, -⟩ := hC3.blk.cells
  dsimp only at c3 c4
  clear hC3 HRd HC1 HNum
  generalize s.ws.getD a 0 = F at *
  have hroom' : s.h.top < s.h.bottom + (n : Int) := by omega
  clear hroom
  generalize s.h.top = tp at *
  generalize s.h.bottom = bt at *
  go_wp2_with fail
  go_quiet (fail)
  have hC4 := HC3.out.keep (below_drewN (Below.refl _ _) nq)
  have c10 := hC4.blk.cells.2.2.2.2.2.2.2.2.2.2
  have f10 := frozen_of_heap hC4.blk 10
  have HC4 := hid (hC4.filled true)
  clear hC4 HC3 c3 c4
  generalize W3.drewN nq = W4 at *
  go_wp2_with fail
  go_ret
  exact ⟨rfl, HC4.out⟩

set_option maxHeartbeats 1000000 in
set_option maxRecDepth 100000 in
theorem smove_copies {w0 W : World} {bm bw N cap : Nat} {s : CN} (c : Wk w0 bm bw N cap s false W) (x : Int) (a to n : Nat) (h0 : 0 ≤ s.h.to) (h1 : s.h.to ≤ s.h.size) (h3 : s.h.size ≤ 4000) (hh : hereZ s.h x = false)
    (ha : x / 8 = a) (hto : s.h.bottom = to) (hN : N ≤ 8000) (hn : n = 3 ∨ n = 6) (hf : s.ws.getD a 0 / 16 = n) (hk : s.ws.getD a 0 % 16 ≠ 15) (hroom : (n : Int) ≤ s.h.top - to) (htop : s.h.top ≤ N) (han : a + n ≤ N) :
    Calls Try.prog 75 #[.pointer (some ⟨bm, 0, none⟩), .int .i64 x] W fun e w' => e = .returned (.int .i64 (8 * (to : Int))) ∧ Wk w0 bm bw N cap ⟨((copyW s.ws a to n).set a ((n : Int) * 16 + 15)).set (a + 1) (8 * (to : Int)), { s.h with bottom := (to : Int) + n }, s.r + n, s.t + n + 2⟩ false w' := by
  have HIo := hid (here_calls c x h0 (by omega) (by omega) h3)
  rw [hh] at HIo
  have HNum := hid (fun w => specNum_calls x w)
  unfold numZ at HNum
  rw [ha] at HNum
  have hk1 : (bits .and .i64 (s.ws.getD a 0) 15 == 15) = false := by rw [and15]; simpa using hk
  have HC := hid c
  clear c ha hk hh
  have hto1 : to + n ≤ N := by omega
  have HTo := hid hto
  have HRoom := hid hroom
  go_enter Try.func75, Try.ntmps75
  go_wp2_with fail
  refine HIo.out.mono ?_
  rintro e W1 ⟨rfl, hb1⟩
  have HC1 := hid (HC.out.keep hb1)
  have HRd := hid (sread_calls HC1.out (i := a) (by omega))
  clear hb1 HIo HC
  go_wp2_with fail
  refine (HNum.out _).mono ?_
  rintro e W2 ⟨rfl, rfl⟩
  go_wp2_with fail
  refine HRd.out.mono ?_
  rintro e W3 ⟨rfl, hC3⟩
  have HC3 := hid hC3
  have HF0 : Hid (copyW s.ws a to 1 = s.ws.set to (s.ws.getD a 0)) := rfl
  obtain ⟨-, -, -, c3, c4, -, -, -, -, -, -⟩ := hC3.blk.cells
  dsimp only at c3 c4
  rw [HTo.out] at c3
  have HWr := hid (fun nq => swrite_calls (HC3.out.keep (below_drewN (Below.refl _ _) nq)) (i := to) (by omega) (s.ws.getD a 0))
  dsimp only at HWr
  rw [← HF0.out] at HWr
  clear hC3 HRd HC1 HNum HF0
  generalize s.ws.getD a 0 = F at *
  have hroom' : (to : Int) + (n : Int) ≤ s.h.top := by omega
  clear hroom hto htop
  generalize hTp : s.h.top = tp at *
  go_wp2_with fail
  go_quiet (fail)
  have HW9 := hid (HWr.out nq)
  have c3' : (W3.drewN nq).cell? ⟨bm, 3, none⟩ = some (.int .i64 (to : Int)) := c3
  clear c3 c4 HWr HC3
  generalize W3.drewN nq = W4 at *
  go_wp2_with fail
  refine HW9.out.mono ?_
  rintro e W5 ⟨rfl, hC5⟩
  have HC5 := hid hC5
  clear hC5 HW9 c3'
  go_wp2_with fail
  go_loopw [9] (fun i wr => ∃ p : Nat, i = .int .i64 p ∧ p ≤ n ∧ Hid (1 ≤ p) ∧ Hid (Wk w0 bm bw N cap ⟨copyW s.ws a to p, s.h, s.r + p, s.t + p⟩ false wr)) (fun i _ => n - (intOf i).toNat)
  case atStart => exact ⟨1, rfl, by omega, Nat.le_refl _, HC5.out⟩
  case round =>
    obtain ⟨p, rfl, hpn, HP, HI⟩ := hrel
    clear HC5
    by_cases hlt : (p : Int) < (n : Int)
    · have HRd := hid (sread_calls HI.out (i := a + p) (by omega))
      rw [Int.natCast_add] at HRd
      dsimp only at HRd
      go_wp2_with fail
      refine HRd.out.mono ?_
      rintro e W6 ⟨rfl, hC6⟩
      have HWr := hid (swrite_calls hC6 (i := to + p) (by omega) ((copyW s.ws a to p).getD (a + p) 0))
      rw [Int.natCast_add] at HWr
      dsimp only at HWr
      have HS : Hid (copyW s.ws a to (p + 1) = (copyW s.ws a to p).set (to + p) ((copyW s.ws a to p).getD (a + p) 0)) := rfl
      rw [← HS.out] at HWr
      clear hC6 HRd HS HI
      generalize (copyW s.ws a to p).getD (a + p) 0 = y at *
      go_wp2_with fail
      refine HWr.out.mono ?_
      rintro e W7 ⟨rfl, hC7⟩
      have HC7 := hid hC7
      clear hC7 HWr
      go_wp2_with fail
      have hs : n - (intOf (.int .i64 ((p : Int) + 1))).toNat < n - (intOf (.int .i64 (p : Int))).toNat := by simp only [intOf, Int.toNat_natCast]; omega
      refine ⟨⟨p + 1, ?_, by omega, Nat.le_add_left _ _, ?_⟩, hs⟩
      · push_cast
        rfl
      · push_cast
        rw [← Int.add_assoc, ← Int.add_assoc]
        exact HC7.out
    · obtain rfl : p = n := by omega
      have f3 := frozen_of_heap HI.out.blk 3
      have c3 := HI.out.blk.cells.2.2.2.1
      have HMk := hid (fun w => specMake_calls 0 (to : Int) w)
      have HMz : Hid (makeZ 0 (to : Int) = 8 * (to : Int)) := by
        show _ = _
        unfold makeZ wrap64
        rw [if_neg (by omega)]
        omega
      rw [HMz.out] at HMk
      have HW1 := hid (swrite_calls (HI.out.bottom ((to : Int) + p)) (i := a) (by omega) ((p : Int) * 16 + 15))
      dsimp only at HW1 c3
      clear HMz HI
      go_wp2_with fail
      rw [Int.mul_comm 16 (p : Int)]
      refine HW1.out.mono ?_
      rintro e W7 ⟨rfl, hC7⟩
      have HW2 := hid (swrite_calls hC7 (i := a + 1) (by omega) (8 * (to : Int)))
      dsimp only at HW2
      rw [show ((a + 1 : Nat) : Int) = (a : Int) + 1 from rfl] at HW2
      clear hC7 HW1 c3 f3
      go_wp2_with fail
      refine (HMk.out _).mono ?_
      rintro e W8 ⟨rfl, rfl⟩
      go_wp2_with fail
      refine HW2.out.mono ?_
      rintro e W9 ⟨rfl, hC9⟩
      have HC9 := hid hC9
      clear hC9 HW2
      go_wp2_with fail
      refine (HMk.out _).mono ?_
      rintro e W8 ⟨rfl, rfl⟩
      go_wp2_with fail
      go_ret
      refine ⟨rfl, ?_⟩
      have E : s.t + (p : Int) + 1 + 1 = s.t + p + 2 := by omega
      rw [← E]
      exact HC9.out

def smoveV (x : Int) : Option Int → Int
  | some y => y
  | none => x

theorem smove_calls {w0 W : World} {bm bw N cap : Nat} {s : CN} (c : Wk w0 bm bw N cap s false W) (x : Int) (h0 : 0 ≤ s.h.to) (h1 : s.h.to ≤ s.h.size) (h3 : s.h.size ≤ 4000) (hb0 : 0 ≤ s.h.bottom) (hbt : s.h.bottom ≤ s.h.top) (htN : s.h.top ≤ N) (hN : N ≤ 8000)
    (hm : MoveOk s.ws s.h N x) (hg : hereZ s.h x = !lateZ s.h x) :
    Calls Try.prog 75 #[.pointer (some ⟨bm, 0, none⟩), .int .i64 x] W fun e w' => e = .returned (.int .i64 (smoveV x (moveZ s x).1)) ∧ Wk w0 bm bw N cap (moveZ s x).2 (moveZ s x).1.isNone w' := by
  unfold moveZ
  cases ho : lateZ s.h x with
  | false =>
    rw [if_pos rfl]
    exact smove_stays c x h0 h1 h3 (here_not hg ho)
  | true =>
    rw [if_neg (by decide)]
    obtain ⟨ha1, ha2⟩ := hm ho
    have hh := here_not hg ho
    have hx0 : 0 ≤ x / 8 := by
      unfold lateZ at ho
      rw [Bool.and_eq_true, decide_eq_true_eq, decide_eq_true_eq] at ho
      omega
    obtain ⟨a, ha⟩ := Int.eq_ofNat_of_zero_le hx0
    rw [ha, Int.toNat_natCast] at ha1 ha2 ⊢
    by_cases hk : s.ws.getD a 0 % 16 = 15
    · rw [if_pos hk]
      exact smove_moved c x a h0 h1 h3 hh ha hk ha1 hN
    · rw [if_neg hk]
      obtain ⟨hs, han⟩ := ha2 hk
      obtain ⟨n, hn⟩ := Int.eq_ofNat_of_zero_le (show 0 ≤ s.ws.getD a 0 / 16 by omega)
      obtain ⟨to, hto⟩ := Int.eq_ofNat_of_zero_le hb0
      rw [hn, Int.toNat_natCast] at han
      by_cases hroom : s.ws.getD a 0 / 16 ≤ s.h.top - s.h.bottom
      · rw [if_pos hroom]
        have := smove_copies c x a to n h0 h1 h3 hh ha hto hN (by omega) hn hk (by omega) htN han
        dsimp only
        rw [hn, hto, Int.toNat_natCast, Int.toNat_natCast]
        exact this
      · rw [if_neg hroom]
        exact smove_full c x a n h0 h1 h3 hh ha hn (by omega) hk (by omega) (by omega) hb0 (by omega)
end Go.Proofs.Ytebpgglegnljgaa

namespace Go.Proofs.Ytebpgglegnljgaa
open Go.RowKit

set_option maxRecDepth 100000 in
theorem sfield_calls {w0 W : World} {bm bw N cap : Nat} {s : CN} (c : Wk w0 bm bw N cap s false W) (y i : Int) (q : Nat) (hq : q < N) (hqy : y / 8 + 1 + i = q) (hy0 : 0 ≤ y / 8) (hy1 : y / 8 ≤ 8000) (hi0 : 0 ≤ i) (hi1 : i ≤ 8000) (h0 : 0 ≤ s.h.to) (h1 : s.h.to ≤ s.h.size) (h3 : s.h.size ≤ 4000) (hb0 : 0 ≤ s.h.bottom) (hbt : s.h.bottom ≤ s.h.top) (htN : s.h.top ≤ N) (hN : N ≤ 8000)
    (hm : MoveOk s.ws s.h N (s.ws.getD q 0)) (hg : hereZ s.h (s.ws.getD q 0) = !lateZ s.h (s.ws.getD q 0)) :
    Calls Try.prog 55 #[.pointer (some ⟨bm, 0, none⟩), .int .i64 y, .int .i64 i] W fun e w' => (∃ z : Int, e = .returned (.int .i64 z) ∧ ∀ u, (fieldZ s q).1 = some u → z = u) ∧ Wk w0 bm bw N cap (fieldZ s q).2 (fieldZ s q).1.isNone w' := by
  have HNum := hid (fun w => specNum_calls y w)
  unfold numZ at HNum
  have HRd := hid (sread_calls c (i := q) hq)
  have HQ := hid hqy
  generalize y / 8 = k at *
  have HMv := hid (fun (X : World) (hX : Wk w0 bm bw N cap ⟨s.ws, s.h, s.r + 1, s.t⟩ false X) => smove_calls hX (s.ws.getD q 0) h0 h1 h3 hb0 hbt htN hN hm hg)
  have HHe := hid (fun (X : World) (hX : Wk w0 bm bw N cap ⟨s.ws, s.h, s.r + 1, s.t⟩ false X) => here_calls hX (s.ws.getD q 0) h0 (show s.h.to ≤ 4000 by omega) (show 0 ≤ s.h.size by omega) h3)
  rw [← hqy] at HRd
  clear hm c hqy
  unfold fieldZ
  dsimp only at HHe
  cases ho : lateZ s.h (s.ws.getD q 0) with
  | false =>
    rw [here_not hg ho] at HHe
    rw [if_pos rfl]
    clear hg ho HMv
    go_enter Try.func55, Try.ntmps55
    go_wp2_with fail
    refine (HNum.out _).mono ?_
    rintro e W1 ⟨rfl, rfl⟩
    go_wp2_with fail
    refine HRd.out.mono ?_
    rintro e W2 ⟨rfl, hC2⟩
    have HC2 := hid hC2
    clear hC2
    go_wp2_with fail
    refine (HHe.out _ HC2.out).mono ?_
    rintro e W3 ⟨rfl, hb3⟩
    have HC3 := hid (HC2.out.keep hb3)
    clear hb3 HHe HRd
    go_wp2_with fail
    go_ret
    exact ⟨⟨_, rfl, fun u hu => Option.some.inj hu⟩, HC3.out⟩
  | true =>
    rw [here_not hg ho] at HHe
    rw [if_neg (by decide)]
    clear hg ho
    generalize moveZ ⟨s.ws, s.h, s.r + 1, s.t⟩ (s.ws.getD q 0) = m at *
    obtain ⟨o, s2⟩ := m
    go_enter Try.func55, Try.ntmps55
    go_wp2_with fail
    refine (HNum.out _).mono ?_
    rintro e W1 ⟨rfl, rfl⟩
    go_wp2_with fail
    refine HRd.out.mono ?_
    rintro e W2 ⟨rfl, hC2⟩
    have HC2 := hid hC2
    clear hC2
    go_wp2_with fail
    refine (HHe.out _ HC2.out).mono ?_
    rintro e W3 ⟨rfl, hb3⟩
    have HC3 := hid (HC2.out.keep hb3)
    clear hb3 HHe HRd HC2
    go_wp2_with fail
    refine (HMv.out _ HC3.out).mono ?_
    rintro e W4 ⟨rfl, hC4⟩
    clear HMv HC3
    cases o with
    | some z =>
      have HWr := hid (swrite_calls (W := W4) hC4 (i := q) hq z)
      rw [← HQ.out] at HWr
      dsimp only [smoveV]
      clear hC4
      go_wp2_with fail
      refine HWr.out.mono ?_
      rintro e W5 ⟨rfl, hC5⟩
      have HC5 := hid hC5
      clear hC5 HWr
      go_wp2_with fail
      go_ret
      exact ⟨rfl, HC5.out⟩
    | none =>
      have HC4 : Hid (Wk w0 bm bw N cap s2 true W4) := hC4
      have HWr := hid (fun i x => swrite_full HC4.out i x)
      dsimp only [smoveV]
      clear hC4
      generalize s.ws.getD q 0 = z at *
      go_wp2_with fail
      refine (HWr.out _ _).mono ?_
      rintro e W5 ⟨rfl, rfl⟩
      clear HWr
      go_wp2_with fail
      go_ret
      exact ⟨⟨_, rfl⟩, HC4.out⟩
end Go.Proofs.Ytebpgglegnljgaa
