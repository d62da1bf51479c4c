/- The draw of a heap that is to be looked through. -/
import Derived.Test.YtebpgglegnljgaaGrpMQ2
import Derived.Test.YtebpgglegnljgaaSpecWkBD
import Derived.Test.YtebpgglegnljgaaGrpMQ1
import Derived.Test.YtebpgglegnljgaaStages
import Derived.Test.YtebpgglegnljgaaImplFlip
import Derived.Deep.Cut
import Derived.Test.YtebpgglegnljgaaGrpMQ0
import Derived.Test.YtebpgglegnljgaaImplHeapUW
namespace Go.Proofs.Ytebpgglegnljgaa
open Go.RowKit Go.Deep

/-- A drawn heap, in a row of its own. -/
structure HpR (W0 : World) (bw cp : Nat) (ws : List Int) (h : HpN) (W : World) : Prop where
  row : SliceR 3 1 W0.heap.size W (.slice (some ⟨bw, 0, none⟩) ws.length cp) ws.length (intCells ws)
  cw : ws.length ≤ cp
  l8 : ws.length ≤ 8000
  l0 : 0 < ws.length
  fl : h.flips ≤ 100
  tc : h.touched ≤ 100000000
  below : Below W0.heap.size W0 W

theorem HpR.keep {W0 : World} {bw cp : Nat} {ws : List Int} {h : HpN} {W W' : World} (s : HpR W0 bw cp ws h W) (hb : Below W.heap.size W W') : HpR W0 bw cp ws h W' :=
  ⟨s.row.below hb, s.cw, s.l8, s.l0, s.fl, s.tc, s.below.trans (hb.mono s.below.size)⟩

theorem HpR.turned {W0 : World} {bw cp : Nat} {ws : List Int} {h : HpN} {W W' : World} (s : HpR W0 bw cp ws h W) {b : Nat} (h1 : b ≠ bw) (e : ∀ j, j ≠ b → W'.heap[j]? = W.heap[j]?) (hb : Below W0.heap.size W W') : HpR W0 bw cp ws h W' := by
  refine ⟨?_, s.cw, s.l8, s.l0, s.fl, s.tc, s.below.trans hb⟩
  obtain ⟨ad, c, e1, h0 | ⟨g, e2, hg, hr⟩⟩ := s.row
  · exact ⟨ad, c, e1, Or.inl h0⟩
  · cases e1
    cases e2
    exact ⟨_, _, rfl, Or.inr ⟨_, rfl, hg, hr.of_block (e _ (Ne.symm h1))⟩⟩

theorem HpR.only {W0 : World} {bw cp B : Nat} {ws : List Int} {h : HpN} {W W' : World} (s : HpR W0 bw cp ws h W) (o : Only B W W') (h1 : B ≠ bw) (h2 : W0.heap.size ≤ B) : HpR W0 bw cp ws h W' := s.turned h1 o.block (o.below h2)

theorem HpD.row_of {B : Nat} {a0 : Option Addr} {n cap q : Nat} {w0 W0 : World} {bw cp g : Nat} {ws : List Int} {h : HpN} {rs : List Int} {W : World} (s : HpD B a0 n cap q w0 bw cp g ws h rs W) (h1 : W0.heap.size ≤ B) (h2 : Below W0.heap.size W0 w0) : HpR W0 bw cp ws h W := by
  have := s.low
  have := s.o2
  refine ⟨⟨_, _, rfl, Or.inr ⟨bw, rfl, by omega, by rw [Nat.mul_one]; exact s.row⟩⟩, s.cw, s.l8, s.l0, s.fl, s.tc, h2.trans (s.below.below h1 h2.size)⟩

/-- The reader, newly opened. -/
theorem rd_new (W : World) (a0 : Option Addr) (len cap m : Nat) (hm : m ≤ len) (hB : BytesAt W a0 len) : Rd W.heap.size a0 m cap 0 (W.alloc (.cells #[.slice a0 m cap, .int .i64 0] 88)) := by
  refine ⟨(MapKept.heap_alloc W _).1, fun h0 => ?_⟩
  obtain ⟨b, off, ea, hb, hz⟩ := hB (by omega)
  refine ⟨b, off, ea, hb, fun i hi => ?_⟩
  obtain ⟨z, hz, h1⟩ := hz i (by omega)
  exact ⟨z, (((Below.refl W.heap.size W).alloc (Nat.le_refl _) _).cell (p := ⟨b, off + i, none⟩) hb).trans hz, h1⟩

theorem BytesAt.later {W W' : World} {a0 : Option Addr} {len : Nat} (h : BytesAt W a0 len) (hb : Below W.heap.size W W') : BytesAt W' a0 len := fun h0 => by
  obtain ⟨b, off, ea, h1, hz⟩ := h h0
  refine ⟨b, off, ea, Nat.lt_of_lt_of_le h1 hb.size, fun i hi => ?_⟩
  obtain ⟨z, hz, h2⟩ := hz i hi
  exact ⟨z, (hb.cell (p := ⟨b, off + i, none⟩) h1).trans hz, h2⟩

/-- A store that is ready. -/
def PickSk (P : Program) (l0 : List Oper) (Q : Exit → Act → World → Prop) (S : World → Prop) (n : Nat) (ls : Array Bool) (a : Act) (w : World) (i : Nat) : Prop :=
  ∃ o w1, o.dst = none ∧ l0[i]? = some o ∧ Region.wanted o (yielded l0.toArray a.tmps) = true ∧ (execOp a.eval o).run P w = .ok .skip w1 ∧ S w1 ∧ wpAnyH P .any l0.toArray (NoPanic Q) S n (ls.setIfInBounds i true) a w1

theorem PickSk.op {P : Program} {l0 : List Oper} {Q : Exit → Act → World → Prop} {S : World → Prop} {n i : Nat} {ls : Array Bool} {a : Act} {w : World} (h : PickSk P l0 Q S n ls a w i) : wpOp P l0.toArray (NoPanic Q) i (fun a' w' => S w' ∧ wpAnyH P .any l0.toArray (NoPanic Q) S n (ls.setIfInBounds i true) a' w') a w := by
  obtain ⟨o, w1, hd, ho, hw, hrun, hS, h⟩ := h
  have ho' : l0.toArray[i]? = some o := by simpa using ho
  unfold wpOp
  rw [ho']
  dsimp only
  rw [if_pos hw]
  refine Or.inl ?_
  have hp : a.put o.dst undef = a := by rw [hd]; rfl
  unfold Oper.wp
  rw [hrun]
  refine ⟨hS, ?_⟩
  rw [hp]
  exact h

theorem pick_mkSk {P : Program} {l0 : List Oper} {Q : Exit → Act → World → Prop} {S : World → Prop} {i j n : Nat} {ls : Array Bool} {a : Act} {w : World} (hr : (Region.ready .any l0.toArray ls == [i, j]) = true) (h1 : PickMk P l0 Q S n ls a w i) (h2 : PickSk P l0 Q S n ls a w j) : wpAnyH P .any l0.toArray (NoPanic Q) S (n + 1) ls a w := by
  refine wpAnyH_all (rs := [i, j]) (by simpa using hr) (by simp) (fun k hk => ?_)
  simp only [List.mem_cons, List.not_mem_nil, or_false] at hk
  rcases hk with rfl | rfl
  · exact h1.op
  · exact h2.op

theorem seven_cell (W : World) {k : Nat} (hk : k < 7) : (W.alloc (.cells #[.int .i64 0, .int .i64 1, .int .i64 2, .int .i64 5, .int .i64 4000, .int .i64 4001, .int .i64 (-1)] 3)).cell? ⟨W.heap.size, k, none⟩ = some (.int .i64 ([0, 1, 2, 5, 4000, 4001, -1].getD k 0)) := by
  have h : k = 0 ∨ k = 1 ∨ k = 2 ∨ k = 3 ∨ k = 4 ∨ k = 5 ∨ k = 6 := by omega
  rcases h with rfl | rfl | rfl | rfl | rfl | rfl | rfl <;> simp [go_sem]

def DrawScanP (W : World) (e : Ending) (W' : World) : Prop :=
  ∃ (bw cp : Nat) (ws : List Int) (h : HpN) (x : Int), e = .returned (.tuple #[heapV (.slice (some ⟨bw, 0, none⟩) ws.length cp) h, .int .i64 x]) ∧ HpR W bw cp ws h W'

set_option maxHeartbeats 8000000 in
set_option maxRecDepth 100000 in
theorem drawScan_calls (a0 : Option Addr) (len cap : Nat) (W : World) (hl : len ≤ 1048576) (hc : len ≤ cap) (hB : BytesAt W a0 len) : Calls Try.prog 24 #[.slice a0 len cap] W (DrawScanP W) := by
  have HO : Hid (∀ X, Below W.heap.size W X → Calls Try.prog 26 #[.slice a0 len cap] X fun e X' => e = .returned (.pointer (some ⟨X.heap.size, 0, none⟩)) ∧ ∃ m, Rd X.heap.size a0 m cap 0 X' ∧ Below X.heap.size X X') := fun X hX => (ropen_calls a0 len cap X (by omega) hc).mono (by
    rintro e X' ⟨rfl, m, hm, rfl⟩
    exact ⟨rfl, m, rd_new X a0 len cap m hm (hB.later hX), (Below.refl _ _).alloc (Nat.le_refl _) _⟩)
  clear hl hc hB
  go_enter Try.func24, Try.ntmps24
  go_wp2_with fail
  have hX := (Below.refl W.heap.size W).alloc (Nat.le_refl _) (.cells #[.slice none 0 0, .int .i64 0, .int .i64 0, .int .i64 0, .int .i64 0, .int .i64 0, .int .i64 0, .int .i64 0, .int .i64 0, .int .i64 0] 25)
  have hXs : (W.alloc (.cells #[.slice none 0 0, .int .i64 0, .int .i64 0, .int .i64 0, .int .i64 0, .int .i64 0, .int .i64 0, .int .i64 0, .int .i64 0, .int .i64 0] 25)).heap.size = W.heap.size + 1 := by simp
  have hrv : HeapBlk _ W.heap.size (.slice none 0 0) ⟨0, 0, 0, 0, 0, 0, 0, 0, 0⟩ := HeapBlk.new W (.slice none 0 0) ⟨0, 0, 0, 0, 0, 0, 0, 0, 0⟩
  refine (HO.out _ hX).mono ?_
  rintro e W1 ⟨rfl, m, hrd, hb1⟩
  rw [hXs] at hrd ⊢
  have hr1 := hrv.below hb1
  have hbW := hX.trans (hb1.mono hX.size)
  have HH := hid (heap_calls (W.heap.size + 1) a0 m cap W1 hrd)
  have HR1 := hid hr1
  have HB1 := hid hbW
  have HBl := hid (heap_lt hrd.blk)
  clear hrd hb1 hX hXs hrv hr1 hbW HO
  go_wp2_with fail
  refine HH.out.mono ?_
  rintro e W2 ⟨q, bw, cp, g, gc, ws, h, rs, rfl, hd, hgc⟩
  obtain ⟨rv, hrve⟩ : ∃ rv, W.heap.size = rv := ⟨_, rfl⟩
  have hR2 : HeapBlk W2 W.heap.size (.slice none 0 0) ⟨0, 0, 0, 0, 0, 0, 0, 0, 0⟩ := (hd.below.block W.heap.size (by have := HBl.out; omega) (by omega)).trans HR1.out
  have HR2 := hid hR2
  have HD := hid hd
  clear hR2 hd hgc HH HR1
  unfold heapV
  obtain ⟨L, hL⟩ : ∃ L, ws.length = L := ⟨_, rfl⟩
  have HLL := hid hL
  rw [hL]
  clear hL
  go_wp2_with fail
  have hbA := (Below.refl W2.heap.size W2).alloc (Nat.le_refl _) (.cells #[.slice (some ⟨bw, 0, none⟩) L cp, .int .i64 h.size, .int .i64 h.to, .int .i64 h.bottom, .int .i64 h.top, .int .i64 h.scan, .int .i64 h.fb, .int .i64 h.ft, .int .i64 h.flips, .int .i64 h.touched] 25)
  have HS2 := hid (HD.out.keep hbA)
  have HH2 : Hid (HeapBlk _ W2.heap.size (.slice (some ⟨bw, 0, none⟩) L cp) h) := HeapBlk.new W2 (.slice (some ⟨bw, 0, none⟩) L cp) h
  have HRv2 := hid (HR2.out.below hbA)
  have hN : Hid (W.heap.size < W1.heap.size ∧ W.heap.size + 1 < W1.heap.size ∧ W1.heap.size ≤ bw ∧ W1.heap.size ≤ W2.heap.size ∧ bw < W2.heap.size) := ⟨by have := HBl.out; omega, HBl.out, HD.out.o2, HD.out.below.size, HD.out.row.lt⟩
  clear hbA HD HR2
  obtain ⟨hv, hhv⟩ : ∃ hv, W2.heap.size = hv := ⟨_, rfl⟩
  rw [hhv] at HH2 hN ⊢
  have hD : Below (W2.alloc (.cells #[.slice (some ⟨bw, 0, none⟩) L cp, .int .i64 h.size, .int .i64 h.to, .int .i64 h.bottom, .int .i64 h.top, .int .i64 h.scan, .int .i64 h.fb, .int .i64 h.ft, .int .i64 h.flips, .int .i64 h.touched] 25)).heap.size (W2.alloc (.cells #[.slice (some ⟨bw, 0, none⟩) L cp, .int .i64 h.size, .int .i64 h.to, .int .i64 h.bottom, .int .i64 h.top, .int .i64 h.scan, .int .i64 h.fb, .int .i64 h.ft, .int .i64 h.flips, .int .i64 h.touched] 25)) (W2.alloc (.cells #[.slice (some ⟨bw, 0, none⟩) L cp, .int .i64 h.size, .int .i64 h.to, .int .i64 h.bottom, .int .i64 h.top, .int .i64 h.scan, .int .i64 h.fb, .int .i64 h.ft, .int .i64 h.flips, .int .i64 h.touched] 25)).drew := (Below.refl _ _).drew
  obtain ⟨D, hDe⟩ : ∃ D, (W2.alloc (.cells #[.slice (some ⟨bw, 0, none⟩) L cp, .int .i64 h.size, .int .i64 h.to, .int .i64 h.bottom, .int .i64 h.top, .int .i64 h.scan, .int .i64 h.fb, .int .i64 h.ft, .int .i64 h.flips, .int .i64 h.touched] 25)).drew = D := ⟨_, rfl⟩
  rw [hDe] at hD
  have SD := hid (HS2.out.keep hD)
  have HvD := hid (HH2.out.below hD)
  have RvD := hid (HRv2.out.below hD)
  have hvs : Hid (hv < D.heap.size) := heap_lt HvD.out
  rw [hrve] at RvD hN
  have HWz := hid hrve
  refine pick_begin (S := fun w => HeapBlk w hv (.slice (some ⟨bw, 0, none⟩) L cp) h) (by kernel_rfl) rfl rfl ?_
  rw [hDe]
  clear hDe hD HS2 HH2 HRv2 hhv hrve
  have cS := HvD.out
  refine pick_op (i := 0) (v := .agg #[.slice (some ⟨bw, 0, none⟩) L cp, .int .i64 h.size, .int .i64 h.to, .int .i64 h.bottom, .int .i64 h.top, .int .i64 h.scan, .int .i64 h.fb, .int .i64 h.ft, .int .i64 h.flips, .int .i64 h.touched]) (by kernel_rfl) rfl (by kernel_rfl) (by kernel_rfl) rfl rfl (fun w' hw' => by obtain ⟨c0, c1, c2, c3, c4, c5, c6, c7, c8, c9⟩ := hw'.cells; simp [go_sem, c0, c1, c2, c3, c4, c5, c6, c7, c8, c9]) cS (by simp [go_sem]; exact rfl) ?_
  refine pick_op (i := 2) (v := .pointer (some ⟨rv + 1, 0, none⟩)) (by kernel_rfl) rfl (by kernel_rfl) (by kernel_rfl) rfl rfl (fun w' _ => by simp [go_sem]) cS (by simp [go_sem]; exact rfl) ?_
  have HQ : Hid (q ≤ 1010) := SD.out.q0
  have HrD := hid (SD.out.row_of (W0 := W) (by omega) HB1.out)
  have RdD : Hid (Rd (rv + 1) a0 m cap q D) := by have := SD.out.rd; rw [HWz.out] at this; exact this
  clear SD cS
  refine pick_either (i := 1) (j := 3) (by kernel_rfl) ?_ ?_
  · have hb1 := (Below.refl D.heap.size D).alloc (Nat.le_refl _) (.cells #[.int .i64 0, .int .i64 1, .int .i64 2, .int .i64 5, .int .i64 4000, .int .i64 4001, .int .i64 (-1)] 3)
    have HrX1 := hid (HrD.out.keep hb1)
    have RdX1 := hid (RdD.out.same (fun k hk => hb1.block k (by have := heap_lt RdD.out.blk; omega)))
    have HvX1 := hid (HvD.out.below hb1)
    have RvX1 := hid (RvD.out.below hb1)
    have cN : Hid (∀ k, k < 7 → (D.alloc (.cells #[.int .i64 0, .int .i64 1, .int .i64 2, .int .i64 5, .int .i64 4000, .int .i64 4001, .int .i64 (-1)] 3)).cell? ⟨D.heap.size, k, none⟩ = some (.int .i64 ([0, 1, 2, 5, 4000, 4001, -1].getD k 0))) := fun k hk => seven_cell D hk
    have hnb : Hid (rv + 1 < D.heap.size ∧ hv < D.heap.size) := ⟨heap_lt RdD.out.blk, heap_lt HvD.out⟩
    refine ⟨_, .slice (some ⟨D.heap.size, 0, none⟩) 7 7, D.alloc (.cells #[.int .i64 0, .int .i64 1, .int .i64 2, .int .i64 5, .int .i64 4000, .int .i64 4001, .int .i64 (-1)] 3), rfl, rfl, by simp [go_sem], HvX1.out, ?_⟩
    clear hb1
    generalize D.alloc (.cells #[.int .i64 0, .int .i64 1, .int .i64 2, .int .i64 5, .int .i64 4000, .int .i64 4001, .int .i64 (-1)] 3) = X1 at *
    generalize D.heap.size = nb at *
    refine pick_frame (by simp [go_sem]; exact rfl) ?_
    refine pick_enter (i := 3) (f := 28) (args := #[.pointer (some ⟨rv + 1, 0, none⟩), .int .i64 7]) rfl (by kernel_rfl) rfl rfl (by simp [go_sem]) ?_
    refine (rd_picks RdX1.out (by have := HQ.out; omega) 7 (by omega)).mono ?_
    rintro e X2 ⟨m7, rfl, h70, h71, hr7, ho7⟩
    obtain ⟨mk, rfl⟩ := Int.eq_ofNat_of_zero_le h70
    have hmk : mk < 7 := by omega
    have HrX2 := hid (HrX1.out.only ho7 (by have := hN.out; omega) (by have := HWz.out; omega))
    have RdX2 := hid hr7
    have HvX2 : Hid (HeapBlk X2 hv (.slice (some ⟨bw, 0, none⟩) L cp) h) := (ho7.block hv (by have := hN.out; omega)).trans HvX1.out
    have RvX2 : Hid (HeapBlk X2 rv (.slice none 0 0) ⟨0, 0, 0, 0, 0, 0, 0, 0, 0⟩) := (ho7.block rv (by omega)).trans RvX1.out
    have cM : X2.cell? ⟨nb, mk, none⟩ = some (.int .i64 ([0, 1, 2, 5, 4000, 4001, -1].getD mk 0)) := (World.cell?_of_block (a := ⟨nb, mk, none⟩) (ho7.block nb (by have := hnb.out; omega))).trans (cN.out mk hmk)
    clear hr7 ho7
    refine ⟨_, rfl, HvX2.out, ?_⟩
    refine pick_frame (by simp [go_sem]; exact rfl) ?_
    obtain ⟨x, hx⟩ : ∃ x, [0, 1, 2, 5, 4000, 4001, (-1 : Int)].getD mk 0 = x := ⟨_, rfl⟩
    rw [hx] at cM
    clear hx
    refine pick_op (i := 4) (v := .pointer (some ⟨nb, mk, none⟩)) (by kernel_rfl) rfl (by kernel_rfl) (by kernel_rfl) rfl rfl (fun w' _ => by simp [go_sem, h70, h71]) HvX2.out (by simp [go_sem]; exact rfl) ?_
    refine pick_more (fun w => HeapBlk w hv (.slice (some ⟨bw, 0, none⟩) L cp) h ∧ w.cell? ⟨nb, mk, none⟩ = some (.int .i64 x)) (fun w hw => hw.1) ?_
    refine pick_op (i := 5) (v := .int .i64 x) (by kernel_rfl) rfl (by kernel_rfl) (by kernel_rfl) rfl rfl (fun w' hw' => by simp [go_sem, hw'.2]) ⟨HvX2.out, cM⟩ (by simp [go_sem]; exact rfl) ?_
    obtain ⟨d0, d1, d2, d3, d4, d5, d6, d7, d8, d9⟩ := RvX2.out.cells
    have z0 := frozen_of_heap RvX2.out 0
    have z1 := frozen_of_heap RvX2.out 1
    have z2 := frozen_of_heap RvX2.out 2
    have z3 := frozen_of_heap RvX2.out 3
    have z4 := frozen_of_heap RvX2.out 4
    have z5 := frozen_of_heap RvX2.out 5
    have z6 := frozen_of_heap RvX2.out 6
    have z7 := frozen_of_heap RvX2.out 7
    have z8 := frozen_of_heap RvX2.out 8
    have z9 := frozen_of_heap RvX2.out 9
    dsimp only at d0 d1 d2 d3 d4 d5 d6 d7 d8 d9
    have hT := heap_useT RvX2.out (.slice (some ⟨bw, 0, none⟩) L cp) h (fun Z => HeapBlk Z rv (.slice (some ⟨bw, 0, none⟩) L cp) h ∧ (∀ B, B ≤ rv → Below B X2 Z) ∧ ∀ g, g ≠ rv → Z.heap[g]? = X2.heap[g]?) (fun Z a b c => ⟨a, b, c⟩)
    have HrvZ := hid hT.1
    have HrZ := hid (HrX2.out.turned (b := rv) (by have := hN.out; omega) hT.2.2 (hT.2.1 W.heap.size (by have := HWz.out; omega)))
    have HvZ : Hid (HeapBlk _ hv (.slice (some ⟨bw, 0, none⟩) L cp) h) := (hT.2.2 hv (by have := hN.out; omega)).trans HvX2.out
    have cZ : (((((((((((X2).setCell ⟨rv, 0, none⟩ (.slice (some ⟨bw, 0, none⟩) L cp)).setCell ⟨rv, 1, none⟩ (.int .i64 h.size)).setCell ⟨rv, 2, none⟩ (.int .i64 h.to)).setCell ⟨rv, 3, none⟩ (.int .i64 h.bottom)).setCell ⟨rv, 4, none⟩ (.int .i64 h.top)).setCell ⟨rv, 5, none⟩ (.int .i64 h.scan)).setCell ⟨rv, 6, none⟩ (.int .i64 h.fb)).setCell ⟨rv, 7, none⟩ (.int .i64 h.ft)).setCell ⟨rv, 8, none⟩ (.int .i64 h.flips)).setCell ⟨rv, 9, none⟩ (.int .i64 h.touched)).cell? ⟨nb, mk, none⟩ = some (.int .i64 x) := (World.cell?_of_block (a := ⟨nb, mk, none⟩) (hT.2.2 nb (by have := hnb.out; omega))).trans cM
    refine pick_skip (i := 6) rfl (w1 := (((((((((((X2).setCell ⟨rv, 0, none⟩ (.slice (some ⟨bw, 0, none⟩) L cp)).setCell ⟨rv, 1, none⟩ (.int .i64 h.size)).setCell ⟨rv, 2, none⟩ (.int .i64 h.to)).setCell ⟨rv, 3, none⟩ (.int .i64 h.bottom)).setCell ⟨rv, 4, none⟩ (.int .i64 h.top)).setCell ⟨rv, 5, none⟩ (.int .i64 h.scan)).setCell ⟨rv, 6, none⟩ (.int .i64 h.fb)).setCell ⟨rv, 7, none⟩ (.int .i64 h.ft)).setCell ⟨rv, 8, none⟩ (.int .i64 h.flips)).setCell ⟨rv, 9, none⟩ (.int .i64 h.touched))) rfl (by kernel_rfl) rfl rfl (by simp [go_sem, d0, d1, d2, d3, d4, d5, d6, d7, d8, d9, z0, z1, z2, z3, z4, z5, z6, z7, z8, z9]) ⟨HvZ.out, cZ⟩ ?_
    clear d0 d1 d2 d3 d4 d5 d6 d7 d8 d9 z0 z1 z2 z3 z4 z5 z6 z7 z8 z9 hT
    generalize (((((((((((X2).setCell ⟨rv, 0, none⟩ (.slice (some ⟨bw, 0, none⟩) L cp)).setCell ⟨rv, 1, none⟩ (.int .i64 h.size)).setCell ⟨rv, 2, none⟩ (.int .i64 h.to)).setCell ⟨rv, 3, none⟩ (.int .i64 h.bottom)).setCell ⟨rv, 4, none⟩ (.int .i64 h.top)).setCell ⟨rv, 5, none⟩ (.int .i64 h.scan)).setCell ⟨rv, 6, none⟩ (.int .i64 h.fb)).setCell ⟨rv, 7, none⟩ (.int .i64 h.ft)).setCell ⟨rv, 8, none⟩ (.int .i64 h.flips)).setCell ⟨rv, 9, none⟩ (.int .i64 h.touched)) = Z at *
    refine pick_op (i := 7) (v := .int .i64 x) (by kernel_rfl) rfl (by kernel_rfl) (by kernel_rfl) rfl rfl (fun w' _ => by simp [go_sem]) ⟨HvZ.out, cZ⟩ (by simp [go_sem]; exact rfl) ?_
    refine pick_end (by kernel_rfl) ?_
    clear cZ cM
    obtain ⟨y0, y1, y2, y3, y4, y5, y6, y7, y8, y9⟩ := HrvZ.out.cells
    go_wp2_with fail
    exact bodyPost_ret (v := .tuple #[heapV (.slice (some ⟨bw, 0, none⟩) L cp) h, .int .i64 x]) (by simp [results, Try.results24, go_sem, y0, y1, y2, y3, y4, y5, y6, y7, y8, y9, heapV]) rfl ⟨bw, cp, ws, h, x, by rw [HLL.out], HrZ.out⟩
  · refine ⟨_, 28, #[.pointer (some ⟨rv + 1, 0, none⟩), .int .i64 7], rfl, rfl, by simp [go_sem], ?_⟩
    refine (rd_picks RdD.out (by have := HQ.out; omega) 7 (by omega)).mono ?_
    rintro e X1 ⟨m7, rfl, h70, h71, hr7, ho7⟩
    obtain ⟨mk, rfl⟩ := Int.eq_ofNat_of_zero_le h70
    have hmk : mk < 7 := by omega
    have HrX1 := hid (HrD.out.only ho7 (by have := hN.out; omega) (by have := HWz.out; omega))
    have RdX1 := hid hr7
    have HvX1 : Hid (HeapBlk X1 hv (.slice (some ⟨bw, 0, none⟩) L cp) h) := (ho7.block hv (by have := hN.out; omega)).trans HvD.out
    have RvX1 : Hid (HeapBlk X1 rv (.slice none 0 0) ⟨0, 0, 0, 0, 0, 0, 0, 0, 0⟩) := (ho7.block rv (by omega)).trans RvD.out
    clear hr7 ho7
    refine ⟨_, rfl, HvX1.out, ?_⟩
    refine pick_frame (by simp [go_sem]; exact rfl) ?_
    refine pick_mkSk (i := 1) (j := 6) (by kernel_rfl) ?_ ?_
    · have hb1 := (Below.refl X1.heap.size X1).alloc (Nat.le_refl _) (.cells #[.int .i64 0, .int .i64 1, .int .i64 2, .int .i64 5, .int .i64 4000, .int .i64 4001, .int .i64 (-1)] 3)
      have HrX2 := hid (HrX1.out.keep hb1)
      have RdX2 := hid (RdX1.out.same (fun k hk => hb1.block k (by have := heap_lt RdX1.out.blk; omega)))
      have HvX2 := hid (HvX1.out.below hb1)
      have RvX2 := hid (RvX1.out.below hb1)
      have cN : Hid (∀ k, k < 7 → (X1.alloc (.cells #[.int .i64 0, .int .i64 1, .int .i64 2, .int .i64 5, .int .i64 4000, .int .i64 4001, .int .i64 (-1)] 3)).cell? ⟨X1.heap.size, k, none⟩ = some (.int .i64 ([0, 1, 2, 5, 4000, 4001, -1].getD k 0))) := fun k hk => seven_cell X1 hk
      have hnb : Hid (rv + 1 < X1.heap.size ∧ hv < X1.heap.size) := ⟨heap_lt RdX1.out.blk, heap_lt HvX1.out⟩
      refine ⟨_, .slice (some ⟨X1.heap.size, 0, none⟩) 7 7, X1.alloc (.cells #[.int .i64 0, .int .i64 1, .int .i64 2, .int .i64 5, .int .i64 4000, .int .i64 4001, .int .i64 (-1)] 3), rfl, rfl, by simp [go_sem], HvX2.out, ?_⟩
      clear hb1
      generalize X1.alloc (.cells #[.int .i64 0, .int .i64 1, .int .i64 2, .int .i64 5, .int .i64 4000, .int .i64 4001, .int .i64 (-1)] 3) = X2 at *
      generalize X1.heap.size = nb at *
      have cM := cN.out mk hmk
      refine pick_frame (by simp [go_sem]; exact rfl) ?_
      obtain ⟨x, hx⟩ : ∃ x, [0, 1, 2, 5, 4000, 4001, (-1 : Int)].getD mk 0 = x := ⟨_, rfl⟩
      rw [hx] at cM
      clear hx
      refine pick_op (i := 4) (v := .pointer (some ⟨nb, mk, none⟩)) (by kernel_rfl) rfl (by kernel_rfl) (by kernel_rfl) rfl rfl (fun w' _ => by simp [go_sem, h70, h71]) HvX2.out (by simp [go_sem]; exact rfl) ?_
      refine pick_more (fun w => HeapBlk w hv (.slice (some ⟨bw, 0, none⟩) L cp) h ∧ w.cell? ⟨nb, mk, none⟩ = some (.int .i64 x)) (fun w hw => hw.1) ?_
      refine pick_op (i := 5) (v := .int .i64 x) (by kernel_rfl) rfl (by kernel_rfl) (by kernel_rfl) rfl rfl (fun w' hw' => by simp [go_sem, hw'.2]) ⟨HvX2.out, cM⟩ (by simp [go_sem]; exact rfl) ?_
      obtain ⟨d0, d1, d2, d3, d4, d5, d6, d7, d8, d9⟩ := RvX2.out.cells
      have z0 := frozen_of_heap RvX2.out 0
      have z1 := frozen_of_heap RvX2.out 1
      have z2 := frozen_of_heap RvX2.out 2
      have z3 := frozen_of_heap RvX2.out 3
      have z4 := frozen_of_heap RvX2.out 4
      have z5 := frozen_of_heap RvX2.out 5
      have z6 := frozen_of_heap RvX2.out 6
      have z7 := frozen_of_heap RvX2.out 7
      have z8 := frozen_of_heap RvX2.out 8
      have z9 := frozen_of_heap RvX2.out 9
      dsimp only at d0 d1 d2 d3 d4 d5 d6 d7 d8 d9
      have hT := heap_useT RvX2.out (.slice (some ⟨bw, 0, none⟩) L cp) h (fun Z => HeapBlk Z rv (.slice (some ⟨bw, 0, none⟩) L cp) h ∧ (∀ B, B ≤ rv → Below B X2 Z) ∧ ∀ g, g ≠ rv → Z.heap[g]? = X2.heap[g]?) (fun Z a b c => ⟨a, b, c⟩)
      have HrvZ := hid hT.1
      have HrZ := hid (HrX2.out.turned (b := rv) (by have := hN.out; omega) hT.2.2 (hT.2.1 W.heap.size (by have := HWz.out; omega)))
      have HvZ : Hid (HeapBlk _ hv (.slice (some ⟨bw, 0, none⟩) L cp) h) := (hT.2.2 hv (by have := hN.out; omega)).trans HvX2.out
      have cZ : (((((((((((X2).setCell ⟨rv, 0, none⟩ (.slice (some ⟨bw, 0, none⟩) L cp)).setCell ⟨rv, 1, none⟩ (.int .i64 h.size)).setCell ⟨rv, 2, none⟩ (.int .i64 h.to)).setCell ⟨rv, 3, none⟩ (.int .i64 h.bottom)).setCell ⟨rv, 4, none⟩ (.int .i64 h.top)).setCell ⟨rv, 5, none⟩ (.int .i64 h.scan)).setCell ⟨rv, 6, none⟩ (.int .i64 h.fb)).setCell ⟨rv, 7, none⟩ (.int .i64 h.ft)).setCell ⟨rv, 8, none⟩ (.int .i64 h.flips)).setCell ⟨rv, 9, none⟩ (.int .i64 h.touched)).cell? ⟨nb, mk, none⟩ = some (.int .i64 x) := (World.cell?_of_block (a := ⟨nb, mk, none⟩) (hT.2.2 nb (by have := hnb.out; omega))).trans cM
      refine pick_skip (i := 6) rfl (w1 := (((((((((((X2).setCell ⟨rv, 0, none⟩ (.slice (some ⟨bw, 0, none⟩) L cp)).setCell ⟨rv, 1, none⟩ (.int .i64 h.size)).setCell ⟨rv, 2, none⟩ (.int .i64 h.to)).setCell ⟨rv, 3, none⟩ (.int .i64 h.bottom)).setCell ⟨rv, 4, none⟩ (.int .i64 h.top)).setCell ⟨rv, 5, none⟩ (.int .i64 h.scan)).setCell ⟨rv, 6, none⟩ (.int .i64 h.fb)).setCell ⟨rv, 7, none⟩ (.int .i64 h.ft)).setCell ⟨rv, 8, none⟩ (.int .i64 h.flips)).setCell ⟨rv, 9, none⟩ (.int .i64 h.touched))) rfl (by kernel_rfl) rfl rfl (by simp [go_sem, d0, d1, d2, d3, d4, d5, d6, d7, d8, d9, z0, z1, z2, z3, z4, z5, z6, z7, z8, z9]) ⟨HvZ.out, cZ⟩ ?_
      clear d0 d1 d2 d3 d4 d5 d6 d7 d8 d9 z0 z1 z2 z3 z4 z5 z6 z7 z8 z9 hT
      generalize (((((((((((X2).setCell ⟨rv, 0, none⟩ (.slice (some ⟨bw, 0, none⟩) L cp)).setCell ⟨rv, 1, none⟩ (.int .i64 h.size)).setCell ⟨rv, 2, none⟩ (.int .i64 h.to)).setCell ⟨rv, 3, none⟩ (.int .i64 h.bottom)).setCell ⟨rv, 4, none⟩ (.int .i64 h.top)).setCell ⟨rv, 5, none⟩ (.int .i64 h.scan)).setCell ⟨rv, 6, none⟩ (.int .i64 h.fb)).setCell ⟨rv, 7, none⟩ (.int .i64 h.ft)).setCell ⟨rv, 8, none⟩ (.int .i64 h.flips)).setCell ⟨rv, 9, none⟩ (.int .i64 h.touched)) = Z at *
      refine pick_op (i := 7) (v := .int .i64 x) (by kernel_rfl) rfl (by kernel_rfl) (by kernel_rfl) rfl rfl (fun w' _ => by simp [go_sem]) ⟨HvZ.out, cZ⟩ (by simp [go_sem]; exact rfl) ?_
      refine pick_end (by kernel_rfl) ?_
      clear cZ cM
      obtain ⟨y0, y1, y2, y3, y4, y5, y6, y7, y8, y9⟩ := HrvZ.out.cells
      go_wp2_with fail
      exact bodyPost_ret (v := .tuple #[heapV (.slice (some ⟨bw, 0, none⟩) L cp) h, .int .i64 x]) (by simp [results, Try.results24, go_sem, y0, y1, y2, y3, y4, y5, y6, y7, y8, y9, heapV]) rfl ⟨bw, cp, ws, h, x, by rw [HLL.out], HrZ.out⟩
    · obtain ⟨d0, d1, d2, d3, d4, d5, d6, d7, d8, d9⟩ := RvX1.out.cells
      have z0 := frozen_of_heap RvX1.out 0
      have z1 := frozen_of_heap RvX1.out 1
      have z2 := frozen_of_heap RvX1.out 2
      have z3 := frozen_of_heap RvX1.out 3
      have z4 := frozen_of_heap RvX1.out 4
      have z5 := frozen_of_heap RvX1.out 5
      have z6 := frozen_of_heap RvX1.out 6
      have z7 := frozen_of_heap RvX1.out 7
      have z8 := frozen_of_heap RvX1.out 8
      have z9 := frozen_of_heap RvX1.out 9
      dsimp only at d0 d1 d2 d3 d4 d5 d6 d7 d8 d9
      have hT := heap_useT RvX1.out (.slice (some ⟨bw, 0, none⟩) L cp) h (fun Z => HeapBlk Z rv (.slice (some ⟨bw, 0, none⟩) L cp) h ∧ (∀ B, B ≤ rv → Below B X1 Z) ∧ ∀ g, g ≠ rv → Z.heap[g]? = X1.heap[g]?) (fun Z a b c => ⟨a, b, c⟩)
      have HrvZ := hid hT.1
      have HrZ := hid (HrX1.out.turned (b := rv) (by have := hN.out; omega) hT.2.2 (hT.2.1 W.heap.size (by have := HWz.out; omega)))
      have HvZ : Hid (HeapBlk _ hv (.slice (some ⟨bw, 0, none⟩) L cp) h) := (hT.2.2 hv (by have := hN.out; omega)).trans HvX1.out
      refine ⟨_, (((((((((((X1).setCell ⟨rv, 0, none⟩ (.slice (some ⟨bw, 0, none⟩) L cp)).setCell ⟨rv, 1, none⟩ (.int .i64 h.size)).setCell ⟨rv, 2, none⟩ (.int .i64 h.to)).setCell ⟨rv, 3, none⟩ (.int .i64 h.bottom)).setCell ⟨rv, 4, none⟩ (.int .i64 h.top)).setCell ⟨rv, 5, none⟩ (.int .i64 h.scan)).setCell ⟨rv, 6, none⟩ (.int .i64 h.fb)).setCell ⟨rv, 7, none⟩ (.int .i64 h.ft)).setCell ⟨rv, 8, none⟩ (.int .i64 h.flips)).setCell ⟨rv, 9, none⟩ (.int .i64 h.touched)), rfl, rfl, rfl, by simp [go_sem, d0, d1, d2, d3, d4, d5, d6, d7, d8, d9, z0, z1, z2, z3, z4, z5, z6, z7, z8, z9], HvZ.out, ?_⟩
      have hZs : ((((((((((((X1).setCell ⟨rv, 0, none⟩ (.slice (some ⟨bw, 0, none⟩) L cp)).setCell ⟨rv, 1, none⟩ (.int .i64 h.size)).setCell ⟨rv, 2, none⟩ (.int .i64 h.to)).setCell ⟨rv, 3, none⟩ (.int .i64 h.bottom)).setCell ⟨rv, 4, none⟩ (.int .i64 h.top)).setCell ⟨rv, 5, none⟩ (.int .i64 h.scan)).setCell ⟨rv, 6, none⟩ (.int .i64 h.fb)).setCell ⟨rv, 7, none⟩ (.int .i64 h.ft)).setCell ⟨rv, 8, none⟩ (.int .i64 h.flips)).setCell ⟨rv, 9, none⟩ (.int .i64 h.touched))).heap.size = X1.heap.size := by simp [World.setCell]
      have hnb : Hid (rv + 1 < X1.heap.size ∧ hv < X1.heap.size) := ⟨heap_lt RdX1.out.blk, heap_lt HvX1.out⟩
      clear d0 d1 d2 d3 d4 d5 d6 d7 d8 d9 z0 z1 z2 z3 z4 z5 z6 z7 z8 z9 hT
      generalize (((((((((((X1).setCell ⟨rv, 0, none⟩ (.slice (some ⟨bw, 0, none⟩) L cp)).setCell ⟨rv, 1, none⟩ (.int .i64 h.size)).setCell ⟨rv, 2, none⟩ (.int .i64 h.to)).setCell ⟨rv, 3, none⟩ (.int .i64 h.bottom)).setCell ⟨rv, 4, none⟩ (.int .i64 h.top)).setCell ⟨rv, 5, none⟩ (.int .i64 h.scan)).setCell ⟨rv, 6, none⟩ (.int .i64 h.fb)).setCell ⟨rv, 7, none⟩ (.int .i64 h.ft)).setCell ⟨rv, 8, none⟩ (.int .i64 h.flips)).setCell ⟨rv, 9, none⟩ (.int .i64 h.touched)) = Z at *
      have hb1 := (Below.refl Z.heap.size Z).alloc (Nat.le_refl _) (.cells #[.int .i64 0, .int .i64 1, .int .i64 2, .int .i64 5, .int .i64 4000, .int .i64 4001, .int .i64 (-1)] 3)
      have HrvY := hid (HrvZ.out.below hb1)
      have HrY := hid (HrZ.out.keep hb1)
      have HvY := hid (HvZ.out.below hb1)
      have cM := seven_cell Z hmk
      refine pick_make (i := 1) (v := .slice (some ⟨Z.heap.size, 0, none⟩) 7 7) (w1 := Z.alloc (.cells #[.int .i64 0, .int .i64 1, .int .i64 2, .int .i64 5, .int .i64 4000, .int .i64 4001, .int .i64 (-1)] 3)) rfl (by kernel_rfl) rfl rfl (by simp [go_sem]) HvY.out (by simp [go_sem]; exact rfl) ?_
      clear hb1 hZs HrvZ HrZ HvZ
      generalize Z.alloc (.cells #[.int .i64 0, .int .i64 1, .int .i64 2, .int .i64 5, .int .i64 4000, .int .i64 4001, .int .i64 (-1)] 3) = Y at *
      generalize Z.heap.size = nb at *
      obtain ⟨x, hx⟩ : ∃ x, [0, 1, 2, 5, 4000, 4001, (-1 : Int)].getD mk 0 = x := ⟨_, rfl⟩
      rw [hx] at cM
      clear hx
      refine pick_op (i := 4) (v := .pointer (some ⟨nb, mk, none⟩)) (by kernel_rfl) rfl (by kernel_rfl) (by kernel_rfl) rfl rfl (fun w' _ => by simp [go_sem, h70, h71]) HvY.out (by simp [go_sem]; exact rfl) ?_
      refine pick_make (i := 5) (v := .int .i64 x) (w1 := Y) rfl (by kernel_rfl) rfl rfl (by simp [go_sem, cM]) HvY.out (by simp [go_sem]; exact rfl) ?_
      refine pick_op (i := 7) (v := .int .i64 x) (by kernel_rfl) rfl (by kernel_rfl) (by kernel_rfl) rfl rfl (fun w' _ => by simp [go_sem]) HvY.out (by simp [go_sem]; exact rfl) ?_
      refine pick_end (by kernel_rfl) ?_
      clear cM
      have HrvZ := HrvY
      have HrZ := HrY
      obtain ⟨y0, y1, y2, y3, y4, y5, y6, y7, y8, y9⟩ := HrvZ.out.cells
      go_wp2_with fail
      exact bodyPost_ret (v := .tuple #[heapV (.slice (some ⟨bw, 0, none⟩) L cp) h, .int .i64 x]) (by simp [results, Try.results24, go_sem, y0, y1, y2, y3, y4, y5, y6, y7, y8, y9, heapV]) rfl ⟨bw, cp, ws, h, x, by rw [HLL.out], HrZ.out⟩
end Go.Proofs.Ytebpgglegnljgaa

/- Behind a change of spaces: there is room, and what lies there is reached. -/
namespace Go.Proofs.Ytebpgglegnljgaa
open Go.RowKit

/-- The words of old objects that were not moved yet. -/
def leftZ (T ws : List Int) : Nat → Int
  | 0 => 0
  | k + 1 => leftZ T ws k + (if T.getD k 0 ≠ 0 ∧ ws.getD k 0 % 16 ≠ 15 then T.getD k 0 else 0)

theorem left_pos {T ws : List Int} (hT : ∀ a : Nat, 0 ≤ T.getD a 0) : ∀ k, 0 ≤ leftZ T ws k
  | 0 => Int.le_refl _
  | k + 1 => by
    have h1 := left_pos (ws := ws) hT k
    have h2 := hT k
    unfold leftZ
    split <;> omega

theorem left_same {T ws ws' : List Int} : ∀ k, (∀ a : Nat, a < k → T.getD a 0 ≠ 0 → ws'.getD a 0 = ws.getD a 0) → leftZ T ws' k = leftZ T ws k
  | 0, _ => rfl
  | k + 1, h => by
    unfold leftZ
    rw [left_same k (fun a ha => h a (by omega))]
    by_cases hk : T.getD k 0 = 0
    · rw [if_neg (fun j => j.1 hk), if_neg (fun j => j.1 hk)]
    · rw [h k (by omega) hk]

theorem left_cut {T ws ws' : List Int} {a : Nat} (ha : T.getD a 0 ≠ 0) (h1 : ws.getD a 0 % 16 ≠ 15) (h2 : ws'.getD a 0 % 16 = 15) (h : ∀ c : Nat, c ≠ a → T.getD c 0 ≠ 0 → ws'.getD c 0 = ws.getD c 0) : ∀ k, a < k → leftZ T ws' k = leftZ T ws k - T.getD a 0
  | 0, hk => by omega
  | k + 1, hk => by
    unfold leftZ
    by_cases e : a = k
    · subst e
      rw [left_same a (fun c hc => h c (by omega)), if_neg (fun j => j.2 h2), if_pos ⟨ha, h1⟩]
      omega
    · rw [left_cut ha h1 h2 h k (by omega)]
      by_cases hk0 : T.getD k 0 = 0
      · rw [if_neg (fun j => j.1 hk0), if_neg (fun j => j.1 hk0)]
        omega
      · rw [h k (by omega) hk0]
        omega

theorem left_has {T ws : List Int} (hT : ∀ a : Nat, 0 ≤ T.getD a 0) {a : Nat} (ha : T.getD a 0 ≠ 0) (h1 : ws.getD a 0 % 16 ≠ 15) (hl : a < ws.length) : T.getD a 0 ≤ leftZ T ws ws.length := by
  have e := left_cut (ws' := ws.set a 15) ha h1 (by rw [getD_set, if_pos ⟨rfl, hl⟩]; decide) (fun c hc _ => by rw [getD_set, if_neg (fun j => hc j.1)]) ws.length hl
  have p := left_pos (ws := ws.set a 15) hT ws.length
  omega

/-- Objects that lie apart between two places have no more words than there are. -/
theorem left_fits {T ws : List Int} (ap : Apart T) (hT : ∀ a : Nat, 0 ≤ T.getD a 0) {lo : Int} : ∀ k, ∀ e : Int, lo ≤ e → (∀ a : Nat, a < k → T.getD a 0 ≠ 0 → lo ≤ (a : Int) ∧ (a : Int) + T.getD a 0 ≤ e) → leftZ T ws k ≤ e - lo
  | 0, e, he, _ => by unfold leftZ; omega
  | k + 1, e, he, h => by
    unfold leftZ
    by_cases hk : T.getD k 0 = 0
    · rw [if_neg (fun j => j.1 hk)]
      have := left_fits (ws := ws) ap hT k e he (fun a ha => h a (by omega))
      omega
    · obtain ⟨k1, k2⟩ := h k (by omega) hk
      have i := left_fits (ws := ws) ap hT k (k : Int) k1 (fun a ha h0 => ⟨(h a (by omega) h0).1, ap a k ha h0 hk⟩)
      have := hT k
      split <;> omega

/-- A heap behind a change of spaces; T: the old objects. -/
structure Fr (T S : List Int) (s : CN) : Prop where
  d : Dyn True S s.ws s.h
  top : s.h.top = s.h.to + s.h.size
  old : ∀ a : Nat, T.getD a 0 ≠ 0 → S.getD a 0 = T.getD a 0 ∧ ¬ InS s.h a
  all : ∀ a : Nat, S.getD a 0 ≠ 0 → ¬ InS s.h a → T.getD a 0 = S.getD a 0
  room : s.h.bottom - s.h.to + leftZ T s.ws s.ws.length ≤ s.h.size

theorem Fr.pos {T S : List Int} {s : CN} (c : Fr T S s) (a : Nat) : 0 ≤ T.getD a 0 := by
  by_cases h : T.getD a 0 = 0
  · omega
  · have e := (c.old a h).1
    have := c.d.three (a := a) (by rw [e]; exact h)
    omega

theorem Fr.side {T S : List Int} {s : CN} (c : Fr T S s) {p : Nat} (hp : S.getD p 0 ≠ 0) (hi : InS s.h p) : s.h.to ≤ (p : Int) ∧ (p : Int) + S.getD p 0 ≤ s.h.bottom := by
  have h1 := obj_side c.d hp hi
  have h2 := c.top
  have h3 := c.d.three hp
  omega

theorem Fr.next {T S S' : List Int} {s s' : CN} {f : Nat → Nat} (c : Fr T S s) (st : Step S s.ws s.h S' s'.ws s'.h f)
    (new : (s'.h.bottom = s.h.bottom ∧ S' = S) ∨ ∃ n : Nat, (n = 3 ∨ n = 6) ∧ S' = S.set s.h.bottom.toNat n ∧ s'.h.bottom = s.h.bottom + n)
    (hl : leftZ T s'.ws s.ws.length + (s'.h.bottom - s.h.bottom) = leftZ T s.ws s.ws.length) : Fr T S' s' := by
  have hto : s'.h.to = s.h.to := by rw [st.num]
  have hsz : s'.h.size = s.h.size := by rw [st.num]
  have htp : s'.h.top = s.h.top := by rw [st.num]
  refine ⟨st.dyn, by rw [hto, hsz, htp]; exact c.top, fun a ha => ?_, fun a ha hn => ?_, ?_⟩
  · obtain ⟨h1, h2⟩ := c.old a ha
    exact ⟨(st.ext a (by rw [h1]; exact ha)).trans h1, fun k => h2 ((st.ins a).1 k)⟩
  · have hn' : ¬ InS s.h a := fun k => hn ((st.ins a).2 k)
    rcases new with ⟨-, rfl⟩ | ⟨n, h3, rfl, hb⟩
    · exact c.all a ha hn'
    · rw [getD_set] at ha ⊢
      have ne : ¬ (a = s.h.bottom.toNat ∧ s.h.bottom.toNat < S.length) := by
        rintro ⟨rfl, -⟩
        obtain ⟨o1, o2, o3, o4, o5, o6, o7, o8, o9, o10, -⟩ := st.dyn.ord
        obtain ⟨p1, p2, p3, p4, p5, p6, p7, p8, p9, p10, -⟩ := c.d.ord
        refine hn' ?_
        unfold InS
        omega
      rw [if_neg ne] at ha ⊢
      exact c.all a ha hn'
  · have := c.room
    rw [st.len, hto, hsz]
    omega

set_option maxHeartbeats 1000000 in
/-- A move is never without room, and what it takes is no longer left. -/
theorem move_left {T S : List Int} {s : CN} {x : Int} (c : Fr T S s) (l : Pts S s.ws.length x) : ∃ y s', moveZ s x = (some y, s') ∧ leftZ T s'.ws s.ws.length + (s'.h.bottom - s.h.bottom) = leftZ T s.ws s.ws.length := by
  have d := c.d
  have hpos := c.pos
  obtain ⟨o1, o2, o3, o4, o5, o6, o7, o8, o9, o10, o11, o12, o13⟩ := id d.ord
  unfold moveZ
  cases hl : lateZ s.h x with
  | false =>
    rw [if_pos rfl]
    exact ⟨_, _, rfl, by omega⟩
  | true =>
    rw [if_neg (by decide)]
    obtain ⟨hx, hx0, hold⟩ := late_old hl (by omega)
    obtain ⟨l1, l2, hS⟩ := l.2 hx
    generalize (x / 8).toNat = a at *
    have e3 := d.head hS
    have h3 := d.three hS
    by_cases hk : s.ws.getD a 0 % 16 = 15
    · rw [if_pos hk]
      exact ⟨_, _, rfl, by dsimp only; omega⟩
    · rw [if_neg hk]
      unfold Old at hold
      have hni : ¬ InS s.h a := by unfold InS; omega
      have hTa := c.all a hS hni
      have hbl := d.below hS
      have hTa0 : T.getD a 0 ≠ 0 := by rw [hTa]; exact hS
      have hhas := left_has hpos hTa0 hk (by omega)
      have hroom : s.ws.getD a 0 / 16 ≤ s.h.top - s.h.bottom := by
        have := c.room
        have := c.top
        omega
      rw [if_pos hroom]
      refine ⟨_, _, rfl, ?_⟩
      dsimp only
      rw [e3] at hroom ⊢
      obtain ⟨b, hb⟩ := Int.eq_ofNat_of_zero_le (show 0 ≤ s.h.bottom by omega)
      obtain ⟨n, hnn⟩ := Int.eq_ofNat_of_zero_le (show 0 ≤ S.getD a 0 by omega)
      have hbn : s.h.bottom.toNat = b := by omega
      have hwi := d.ends a hS
      unfold Within at hwi
      rw [hnn] at hwi
      rw [hnn, hbn, Int.toNat_natCast]
      rw [hnn] at hroom h3
      have hcw := copyW_at s.ws a b n (by omega) (by omega)
      have hat : ∀ j, (((copyW s.ws a b n).set a ((n : Int) * 16 + 15)).set (a + 1) (8 * s.h.bottom)).getD j 0 = if j = a + 1 then 8 * s.h.bottom else if j = a then (n : Int) * 16 + 15 else if b ≤ j ∧ j < b + n then s.ws.getD (a + (j - b)) 0 else s.ws.getD j 0 := fun j => by
        rw [getD_set, getD_set, hcw, List.length_set, copyW_length]
        by_cases h1 : j = a + 1
        · rw [if_pos ⟨h1, by omega⟩, if_pos h1]
        · rw [if_neg (by omega), if_neg h1]
          by_cases h2 : j = a
          · rw [if_pos ⟨h2, by omega⟩, if_pos h2]
          · rw [if_neg (by omega), if_neg h2]
      generalize ((copyW s.ws a b n).set a ((n : Int) * 16 + 15)).set (a + 1) (8 * s.h.bottom) = W' at hat ⊢
      have cut := left_cut (ws' := W') hTa0 hk (by rw [hat, if_neg (by omega), if_pos rfl]; omega) (fun e he hT => by
        obtain ⟨t1, t2⟩ := c.old e hT
        have hSe : S.getD e 0 ≠ 0 := by rw [t1]; exact hT
        have k := d.ends e hSe
        unfold Within at k
        unfold InS at t2
        have ap : (a : Int) + n ≤ (e : Int) ∨ (e : Int) + S.getD e 0 ≤ (a : Int) := by
          by_cases h : a < e
          · have := d.apart a e h hS hSe
            omega
          · exact Or.inr (d.apart e a (by omega) hSe hS)
        have h3e := d.three hSe
        rw [hat, if_neg (by omega), if_neg (by omega), if_neg (by omega)]) s.ws.length (by omega)
      omega

theorem fr_move {T S : List Int} {s : CN} {x : Int} (c : Fr T S s) (l : Pts S s.ws.length x) : ∃ y s' S' f, moveZ s x = (some y, s') ∧ MoveTold S s x y S' s' f ∧ Fr T S' s' := by
  obtain ⟨y, s', he, hl⟩ := move_left c l
  obtain ⟨S', f, t⟩ := dyn_move c.d l he
  exact ⟨y, s', S', f, he, t, c.next t.step (t.new.imp id (fun k => k.2)) hl⟩

theorem fr_field {T S : List Int} {s : CN} {p i : Nat} (c : Fr T S s) (hp : S.getD p 0 ≠ 0) (hi : InS s.h p) (h1 : 1 ≤ i) (h2 : (i : Int) < S.getD p 0) :
    ∃ y s' S' f, fieldZ s (p + i) = (some y, s') ∧ FieldT S s (p + i) y S' s' f ∧ Fr T S' s' ∧ (lateZ s.h (s.ws.getD (p + i) 0) = false → y = s.ws.getD (p + i) 0) := by
  have d := c.d
  have pq := (d.flds p hp (d.unm p hp hi) i h1 h2).pts
  have hsd := c.side hp hi
  obtain ⟨o1, o2, o3, o4, o5, o6, o7, o8, o9, o10, o11, o12, o13⟩ := id d.ord
  have hqi : InS s.h (p + i) := by unfold InS; push_cast; omega
  cases hl : lateZ s.h (s.ws.getD (p + i) 0) with
  | false =>
    have he : fieldZ s (p + i) = (some (s.ws.getD (p + i) 0), { s with r := s.r + 1 }) := by
      unfold fieldZ
      rw [if_pos hl]
    obtain ⟨S', f, t⟩ := dyn_field d hp hi h1 h2 he
    exact ⟨_, _, S', f, he, t, c.next t.step (t.new.imp id (fun k => k.2)) (by dsimp only; omega), fun _ => rfl⟩
  | true =>
    obtain ⟨y, s2, hm, hle⟩ := move_left (s := { s with r := s.r + 1 }) ⟨c.d, c.top, c.old, c.all, c.room⟩ pq
    have he : fieldZ s (p + i) = (some y, ⟨s2.ws.set (p + i) y, s2.h, s2.r, s2.t + 1⟩) := by
      unfold fieldZ
      rw [if_neg (by rw [hl]; decide), hm]
    obtain ⟨S', f, t⟩ := dyn_field d hp hi h1 h2 he
    refine ⟨_, _, S', f, he, t, c.next t.step (t.new.imp id (fun k => k.2)) ?_, fun k => by cases k⟩
    dsimp only at hle ⊢
    rw [left_same (ws := s2.ws) s.ws.length (fun a _ ha => by
      rw [getD_set, if_neg]
      rintro ⟨rfl, -⟩
      exact (c.old _ ha).2 hqi)]
    exact hle

/-- Every object in use is met by a root, or stands in a field of one ahead of it. -/
def Why (R : Nat → Prop) (S ws : List Int) (h : HpN) : Prop :=
  ∀ b : Nat, S.getD b 0 ≠ 0 → InS h b → R b ∨ ∃ p i : Nat, p < b ∧ S.getD p 0 ≠ 0 ∧ InS h p ∧ 1 ≤ i ∧ (i : Int) < S.getD p 0 ∧ ws.getD (p + i) 0 = 8 * (b : Int)

theorem Why.next {R R' : Nat → Prop} {S ws : List Int} {h : HpN} {S' ws' : List Int} {h' : HpN} {f : Nat → Nat} (w : Why R S ws h) (_h0 : 0 ≤ h.bottom) (st : Step S ws h S' ws' h' f) (hR : ∀ b, R b → R' b)
    (new : S' = S ∨ ∃ n : Int, S' = S.set h.bottom.toNat n ∧ (R' h.bottom.toNat ∨ ∃ p i : Nat, p < h.bottom.toNat ∧ S'.getD p 0 ≠ 0 ∧ InS h' p ∧ 1 ≤ i ∧ (i : Int) < S'.getD p 0 ∧ ws'.getD (p + i) 0 = 8 * (h.bottom.toNat : Int)))
    (kept : ∀ p i b : Nat, S.getD p 0 ≠ 0 → InS h p → 1 ≤ i → (i : Int) < S.getD p 0 → InS h b → ws.getD (p + i) 0 = 8 * (b : Int) → ws'.getD (p + i) 0 = 8 * (b : Int)) : Why R' S' ws' h' := by
  intro b hb hi
  have go : S.getD b 0 ≠ 0 → R' b ∨ ∃ p i : Nat, p < b ∧ S'.getD p 0 ≠ 0 ∧ InS h' p ∧ 1 ≤ i ∧ (i : Int) < S'.getD p 0 ∧ ws'.getD (p + i) 0 = 8 * (b : Int) := fun h1 => by
    have hib := (st.ins b).1 hi
    refine (w b h1 hib).imp (hR b) ?_
    rintro ⟨p, i, p1, p2, p3, p4, p5, p6⟩
    have e := st.ext p p2
    exact ⟨p, i, p1, by rw [e]; exact p2, (st.ins p).2 p3, p4, by rw [e]; exact p5, kept p i b p2 p3 p4 p5 hib p6⟩
  rcases new with rfl | ⟨n, hS', hw⟩
  · exact go hb
  · by_cases e : b = h.bottom.toNat
    · subst e
      exact hw
    · refine go ?_
      rw [hS', getD_set, if_neg (fun k => e k.1)] at hb
      exact hb

end Go.Proofs.Ytebpgglegnljgaa

/- Behind a change of spaces: the runs. -/
namespace Go.Proofs.Ytebpgglegnljgaa
open Go.RowKit

theorem late_in {h : HpN} {N : Nat} (o : Ordered h N) {x : Int} {b : Nat} (hi : InS h b) (hx : x = 8 * (b : Int)) : lateZ h x = false := by
  obtain ⟨o1, o2, o3, o4, -⟩ := o
  unfold InS at hi
  unfold lateZ
  rw [show (decide (h.size - h.to ≤ x / 8 ∧ x / 8 < h.size - h.to + h.size)) = false from decide_eq_false (by omega), Bool.and_false]

/-- Roots are moved. -/
structure MovesF (T S : List Int) (s : CN) (xs : List Int) (k : Nat) (ys : List Int) (S' : List Int) (s' : CN) (f : Nat → Nat) : Prop where
  told : MovesT S s xs k ys S' s' f
  fr : Fr T S' s'
  why : Why (fun b => ∃ j, j < k ∧ ys.getD j 0 = 8 * (b : Int)) S' s'.ws s'.h

theorem fr_moves {T S : List Int} {s : CN} {xs : List Int} (c : Fr T S s) (w : Why (fun _ => False) S s.ws s.h) (hx : ∀ i, i < xs.length → Pts S s.ws.length (xs.getD i 0)) : ∀ k, k ≤ xs.length → ∃ ys s' S' f, movesRun xs k s = some (ys, s') ∧ MovesF T S s xs k ys S' s' f
  | 0, _ => ⟨xs, s, S, id, rfl, ⟨Step.refl c.d, rfl, fun i h => by omega, fun _ _ => rfl, rfl⟩, c, fun b hb hi => (w b hb hi).imp (fun k => k.elim) id⟩
  | k + 1, hk => by
    obtain ⟨zs, s1, S1, f1, h1, m⟩ := fr_moves c w hx k (by omega)
    have t1 := m.told
    have ez := t1.rest k (Nat.le_refl _)
    have px := hx k (by omega)
    have px1 : Pts S1 s1.ws.length (zs.getD k 0) := by rw [ez, t1.step.len]; exact t1.step.pts px
    obtain ⟨y, s2, S2, f2, h2, t2, fr2⟩ := fr_move m.fr px1
    have hl := t1.len
    have g : ∀ j, (zs.set k y).getD j 0 = if j = k then y else zs.getD j 0 := fun j => by
      rw [getD_set]
      by_cases e : j = k
      · rw [if_pos ⟨e, by omega⟩, if_pos e]
      · rw [if_neg (by omega), if_neg e]
    have he : movesRun xs (k + 1) s = some (zs.set k y, s2) := by
      unfold movesRun
      rw [h1]
      dsimp only
      rw [h2]
    obtain ⟨o1, o2, o3, o4, o5, o6, o7, o8, o9, o10, o11, o12, o13⟩ := id m.fr.d.ord
    refine ⟨zs.set k y, s2, S2, fun a => f2 (f1 a), he, ⟨t1.step.comp t2.step, by rw [List.length_set]; exact hl, fun i hi => ?_, fun i hi => by rw [g, if_neg (by omega)]; exact t1.rest i (by omega), t2.scan.trans t1.scan⟩, fr2, ?_⟩
    · rw [g]
      by_cases e : i = k
      · rw [if_pos e, e]
        refine ⟨by rw [← t1.step.len]; exact t2.led, ?_⟩
        have w := t2.word
        rw [ez] at w
        exact (t1.step.word _ px).comp w
      · rw [if_neg e]
        obtain ⟨l1, w1⟩ := t1.done i (by omega)
        exact ⟨t2.step.led l1, w1.comp (t2.step.word _ (by rw [t1.step.len]; exact l1.pts))⟩
    · refine m.why.next (by omega) t2.step ?_ ?_ ?_
      · rintro b ⟨j, j1, j2⟩
        exact ⟨j, by omega, by rw [g, if_neg (by omega)]; exact j2⟩
      · rcases t2.new with ⟨-, e⟩ | ⟨e1, n, -, e2, -⟩
        · exact Or.inl e
        · exact Or.inr ⟨n, e2, Or.inl ⟨k, by omega, by rw [g, if_pos rfl, e1]; omega⟩⟩
      · intro p i b hp hi k1 k2 _ e
        have hsd := m.fr.side hp hi
        rw [t2.kept (p + i) (by unfold InS; push_cast; omega) (Or.inl (by push_cast; omega))]
        exact e

theorem fr_fields {T S : List Int} {s : CN} {p : Nat} {R : Nat → Prop} (c : Fr T S s) (w : Why R S s.ws s.h) (hp : S.getD p 0 ≠ 0) (hi : InS s.h p) : ∀ k : Nat, (k : Int) < S.getD p 0 → ∃ s' S' f, fieldsRun p k s = some s' ∧ FieldsT S s p k S' s' f ∧ Fr T S' s' ∧ Why R S' s'.ws s'.h
  | 0, _ => ⟨s, S, id, rfl, ⟨Step.refl c.d, fun i h1 h2 => by omega, rfl⟩, c, w⟩
  | k + 1, hk => by
    obtain ⟨s1, S1, f1, h1, t1, c1, w1⟩ := fr_fields c w hp hi k (by push_cast at hk; omega)
    have e1 := t1.step.ext p hp
    have hi1 := (t1.step.ins p).2 hi
    have hp1 : S1.getD p 0 ≠ 0 := by rw [e1]; exact hp
    obtain ⟨y, s2, S2, f2, h2, t2, c2, hy⟩ := fr_field (i := k + 1) c1 hp1 hi1 (by omega) (by rw [e1]; exact hk)
    have hsd := c1.side hp1 hi1
    rw [e1] at hsd
    obtain ⟨o1, o2, o3, o4, o5, o6, o7, o8, o9, o10, o11, o12, o13⟩ := id c1.d.ord
    have he : fieldsRun p (k + 1) s = some s2 := by
      unfold fieldsRun
      rw [h1]
      dsimp only
      rw [h2]
    refine ⟨s2, S2, fun a => f2 (f1 a), he, ⟨t1.step.comp t2.step, fun i k1 k2 => ?_, t2.scan.trans t1.scan⟩, c2, ?_⟩
    · have hle := t1.step.len
      by_cases e : i = k + 1
      · rw [e, t2.at_, ← hle]
        exact t2.led
      · have hin : InS s1.h (p + i) := by unfold InS; push_cast at hk ⊢; omega
        rw [t2.kept (p + i) hin (by omega) (by push_cast at hk ⊢; omega)]
        exact t2.step.led (t1.led i k1 (by omega))
    · refine w1.next (by omega) t2.step (fun _ k => k) ?_ ?_
      · rcases t2.new with ⟨-, e⟩ | ⟨e2, n, -, e3, -⟩
        · exact Or.inl e
        · have hx := t2.step.ext p hp1
          refine Or.inr ⟨n, e3, Or.inr ⟨p, k + 1, by omega, by rw [hx]; exact hp1, (t2.step.ins p).2 hi1, by omega, by rw [hx, e1]; exact hk, ?_⟩⟩
          rw [t2.at_, e2]
          omega
      · intro q i b hq hqi k1 k2 hb e
        have hsq := c1.side hq hqi
        by_cases eq : q + i = p + (k + 1)
        · rw [eq] at e ⊢
          rw [t2.at_, hy (late_in c1.d.ord hb e)]
          exact e
        · rw [t2.kept (q + i) (by unfold InS; push_cast; omega) eq (Or.inl (by push_cast; omega))]
          exact e

/-- An object is looked through. -/
theorem fr_scan {T S : List Int} {s : CN} {R : Nat → Prop} (c : Fr T S s) (w : Why R S s.ws s.h) : ∃ s' S' f, scanOne s = some s' ∧ Step S s.ws s.h S' s'.ws s'.h f ∧ Fr T S' s' ∧ Why R S' s'.ws s'.h ∧ (s.h.scan = s.h.bottom → s' = s) ∧ (s.h.scan ≠ s.h.bottom → s.h.scan + 3 ≤ s'.h.scan) := by
  have d := c.d
  by_cases hb : s.h.scan = s.h.bottom
  · exact ⟨s, S, id, by unfold scanOne; rw [if_pos hb], Step.refl d, c, w, fun _ => rfl, fun k => absurd hb k⟩
  · obtain ⟨o1, o2, o3, o4, o5, o6, o7, o8, o9, o10, o11, o12, o13⟩ := id d.ord
    obtain ⟨p, hp, hS, hi, hd⟩ := d.begin (by omega)
    have h3 := d.three hS
    obtain ⟨n, hn⟩ := Int.eq_ofNat_of_zero_le (show 0 ≤ S.getD p 0 by omega)
    obtain ⟨s1, S1, f, h1, t, c1, w1⟩ := fr_fields (s := { s with r := s.r + 1 }) ⟨c.d, c.top, c.old, c.all, c.room⟩ w hS hi (n - 1) (by omega)
    have t1 := t.step
    have t2 := t.led
    have t3 := t.scan
    dsimp only at t1 t2 t3
    have e1 := t1.ext p hS
    have hg := t1.grow
    have dd := dyn_past (p := p) t1.dyn (by omega) e1 hS ((t1.ins p).2 hi) (by omega) (fun i k1 k2 => by rw [t1.len]; exact t2 i k1 (by omega))
    have hnum := t1.num
    have he : scanOne s = some { s1 with h := { s1.h with scan := (p : Int) + (n : Int) } } := by
      unfold scanOne
      rw [if_neg hb, hp, Int.toNat_natCast, hd, hn, Int.toNat_natCast, h1]
    have dd' : Dyn True S1 s1.ws { s1.h with scan := (p : Int) + (n : Int) } := by
      rw [show (p : Int) + (n : Int) = s1.h.scan + S.getD p 0 by omega]
      exact dd
    refine ⟨_, S1, f, he, ⟨dd', t1.len, t1.iso, t1.node, t1.word, ?_, hg, t1.inn, t1.ext⟩, ⟨dd', c1.top, c1.old, c1.all, c1.room⟩, w1, fun k => absurd k hb, fun _ => by dsimp only; omega⟩
    dsimp only
    rw [hnum]

theorem fr_scans {T S : List Int} {s : CN} {R : Nat → Prop} (c : Fr T S s) (w : Why R S s.ws s.h) : ∀ k : Nat, ∃ s' S' f, scanRun k s = some s' ∧ Step S s.ws s.h S' s'.ws s'.h f ∧ Fr T S' s' ∧ Why R S' s'.ws s'.h ∧ (s'.h.scan = s'.h.bottom ∨ s.h.scan + 3 * (k : Int) ≤ s'.h.scan)
  | 0 => ⟨s, S, id, rfl, Step.refl c.d, c, w, Or.inr (by omega)⟩
  | k + 1 => by
    obtain ⟨s1, S1, f1, h1, t1, c1, w1, k1⟩ := fr_scans c w k
    obtain ⟨s2, S2, f2, h2, t2, c2, w2, a, b⟩ := fr_scan c1 w1
    refine ⟨s2, S2, fun x => f2 (f1 x), by unfold scanRun; rw [h1]; exact h2, t1.comp t2, c2, w2, ?_⟩
    by_cases e : s1.h.scan = s1.h.bottom
    · rw [a e]
      exact Or.inl e
    · have := b e
      rcases k1 with k1 | k1
      · exact absurd k1 e
      · exact Or.inr (by push_cast; omega)

/-- Looking through four thousand objects is to look through all. -/
theorem fr_all {T S : List Int} {s : CN} {R : Nat → Prop} (c : Fr T S s) (w : Why R S s.ws s.h) : ∃ s' S' f, scanRun 4000 s = some s' ∧ Step S s.ws s.h S' s'.ws s'.h f ∧ Fr T S' s' ∧ Why R S' s'.ws s'.h ∧ s'.h.scan = s'.h.bottom := by
  obtain ⟨s', S', f, h1, t, c', w', k⟩ := fr_scans c w 4000
  refine ⟨s', S', f, h1, t, c', w', k.resolve_right (fun k => ?_)⟩
  obtain ⟨o1, o2, o3, o4, o5, o6, o7, o8, o9, o10, o11, o12, o13⟩ := id c.d.ord
  obtain ⟨p1, p2, p3, p4, p5, p6, p7, p8, p9, p10, p11, p12, p13⟩ := id c'.d.ord
  have e1 : s'.h.to = s.h.to := by rw [t.num]
  have e2 : s'.h.size = s.h.size := by rw [t.num]
  omega

/-- A heap whose spaces were just changed. -/
theorem fr_start {c : Prop} {S ws : List Int} {h : HpN} (d : Dyn c S ws h) (hb : ¬ h.scan < h.bottom) (hf : h.flips < 4000000000) (r t : Int) : Fr (dropS S h) (dropS S h) ⟨ws, flipH h, r, t⟩ ∧ Why (fun _ => False) (dropS S h) ws (flipH h) := by
  have dd := dyn_flip d hb hf
  obtain ⟨o1, o2, o3, o4, o5, o6, o7, o8, o9, o10, o11, o12, o13⟩ := id d.ord
  have no : ∀ a, InS h a → ¬ InS (flipH h) a := fun a hi k => by
    unfold InS flipH at k
    unfold InS at hi
    dsimp only at k
    omega
  have nn : ∀ a : Nat, (dropS S h).getD a 0 ≠ 0 → ¬ InS (flipH h) a := fun a ha => no a (dropS_of ha).1
  refine ⟨⟨dd, rfl, fun a ha => ⟨rfl, nn a ha⟩, fun a ha _ => rfl, ?_⟩, fun b hb' hi => absurd hi (nn b hb')⟩
  have hT : ∀ a : Nat, 0 ≤ (dropS S h).getD a 0 := fun a => by
    by_cases e : (dropS S h).getD a 0 = 0
    · omega
    · have := dd.three e
      omega
  have := left_fits (ws := ws) (lo := h.to) dd.apart hT ws.length (h.to + h.size) (by omega) (fun a _ ha => by
    obtain ⟨hi, hS⟩ := dropS_of ha
    have hsd := obj_side d hS hi
    rw [dropS_in hi]
    omega)
  show (flipH h).bottom - (flipH h).to + leftZ (dropS S h) ws ws.length ≤ (flipH h).size
  unfold flipH
  dsimp only
  omega

end Go.Proofs.Ytebpgglegnljgaa

/- Sums, and that all that lies there is met. -/
namespace Go.Proofs.Ytebpgglegnljgaa
open Go.RowKit

def sumS (g : Nat → Int) : Nat → Int
  | 0 => 0
  | k + 1 => sumS g k + g k

theorem sum_congr {g g' : Nat → Int} : ∀ k, (∀ i, i < k → g i = g' i) → sumS g k = sumS g' k
  | 0, _ => rfl
  | k + 1, h => by
    unfold sumS
    rw [sum_congr k (fun i hi => h i (by omega)), h k (by omega)]

theorem sum_shift (g : Nat → Int) : ∀ k, sumS g (k + 1) = g 0 + sumS (fun i => g (i + 1)) k
  | 0 => by
    unfold sumS sumS
    omega
  | k + 1 => by
    rw [show sumS g (k + 1 + 1) = sumS g (k + 1) + g (k + 1) from rfl, sum_shift g k]
    rw [show sumS (fun i => g (i + 1)) (k + 1) = sumS (fun i => g (i + 1)) k + g (k + 1) from rfl]
    omega

theorem sum_zero {g : Nat → Int} : ∀ k, (∀ i, i < k → g i = 0) → sumS g k = 0
  | 0, _ => rfl
  | k + 1, h => by
    unfold sumS
    rw [sum_zero k (fun i hi => h i (by omega)), h k (by omega)]
    rfl

theorem sum_put {g g' : Nat → Int} {a : Nat} {v : Int} (ha : g' a = g a + v) (h : ∀ i, i ≠ a → g' i = g i) : ∀ k, a < k → sumS g' k = sumS g k + v
  | 0, hk => by omega
  | k + 1, hk => by
    unfold sumS
    by_cases e : a = k
    · subst e
      rw [sum_congr a (fun i hi => h i (by omega)), ha]
      omega
    · rw [sum_put ha h k (by omega), h k (by omega)]
      omega

theorem sum_list {f : Nat → Int} {N : Nat} : ∀ M : List Nat, M.Nodup → (∀ a ∈ M, a < N) → sumS (fun i => f (M.getD i 0)) M.length = sumS (fun a => if a ∈ M then f a else 0) N
  | [], _, _ => by
    rw [sum_zero N (fun i _ => by simp)]
    rfl
  | a :: M, hn, h => by
    rw [List.nodup_cons] at hn
    rw [List.length_cons, sum_shift]
    have e := sum_list (f := f) M hn.2 (fun b hb => h b (List.mem_cons_of_mem _ hb))
    have p := sum_put (g := fun b => if b ∈ M then f b else 0) (g' := fun b => if b ∈ a :: M then f b else 0) (a := a) (v := f a) (by
      rw [if_pos List.mem_cons_self, if_neg hn.1]
      omega) (fun i hi => by
      by_cases hm : i ∈ M
      · rw [if_pos hm, if_pos (List.mem_cons_of_mem _ hm)]
      · rw [if_neg hm, if_neg (fun k => (List.mem_cons.1 k).elim hi hm)]) N (h a List.mem_cons_self)
    rw [p, ← e]
    simp only [List.getD_cons_zero, List.getD_cons_succ]
    omega

theorem sum_gap {g : Nat → Int} {p : Nat} (n : Nat) : ∀ m, 1 ≤ m → m ≤ n → (∀ j, p < j → j < p + n → g j = 0) → sumS g (p + m) = sumS g p + g p
  | 0, h, _, _ => by omega
  | m + 1, _, h2, h => by
    rw [← Nat.add_assoc, show sumS g (p + m + 1) = sumS g (p + m) + g (p + m) from rfl]
    by_cases e : m = 0
    · subst e
      rfl
    · rw [sum_gap n m (by omega) (by omega) h, h (p + m) (by omega) (by omega)]
      omega

theorem sum_row {S : List Int} (ap : Apart S) {p q : Nat} (r : LayRow S p q) : sumS (fun a => S.getD a 0) q = sumS (fun a => S.getD a 0) p + ((q : Int) - p) := by
  induction r with
  | nil p => omega
  | cons n hn hd _ ih =>
    rename_i p q _
    rw [ih, sum_gap (g := fun a => S.getD a 0) n n (by omega) (Nat.le_refl _) (fun j h1 h2 => by
      by_cases e : S.getD j 0 = 0
      · exact e
      · have := ap p j h1 (by rw [hd]; omega) e
        omega)]
    rw [hd]
    push_cast
    omega

theorem tell_pre (ws : List Int) (met : List Nat) (x : Int) : ∃ r, (tellZ ws met x).1 = met ++ r := by
  unfold tellZ
  split
  · split
    · exact ⟨[], by simp⟩
    · exact ⟨_, rfl⟩
  · exact ⟨[], by simp⟩

theorem tell_mem {ws : List Int} {met : List Nat} {x : Int} (hx : x % 8 = 0) : nowZ ws (x / 8).toNat ∈ (tellZ ws met x).1 := by
  unfold tellZ
  rw [if_pos hx]
  split
  · assumption
  · exact List.mem_append.2 (Or.inr (List.mem_singleton.2 rfl))

theorem tells_pre (ws xs : List Int) (met : List Nat) : ∀ k, ∃ r, (tellsRun ws xs k met).1 = met ++ r
  | 0 => ⟨[], by simp [tellsRun]⟩
  | k + 1 => by
    obtain ⟨r, h⟩ := tells_pre ws xs met k
    obtain ⟨r', h'⟩ := tell_pre ws (tellsRun ws xs k met).1 (xs.getD k 0)
    exact ⟨r ++ r', by unfold tellsRun; dsimp only; rw [h', h, List.append_assoc]⟩

theorem tells_mem {ws xs : List Int} {met : List Nat} {j : Nat} (hx : xs.getD j 0 % 8 = 0) : ∀ k, j < k → nowZ ws (xs.getD j 0 / 8).toNat ∈ (tellsRun ws xs k met).1
  | 0, h => by omega
  | k + 1, h => by
    unfold tellsRun
    dsimp only
    by_cases e : j = k
    · subst e
      exact tell_mem hx
    · obtain ⟨r', h'⟩ := tell_pre ws (tellsRun ws xs k met).1 (xs.getD k 0)
      rw [h']
      exact List.mem_append.2 (Or.inl (tells_mem hx k (by omega)))

theorem tells_told (ws xs : List Int) (met : List Nat) : ∀ k, (tellsRun ws xs k met).2.length = k
  | 0 => rfl
  | k + 1 => by
    unfold tellsRun
    dsimp only
    rw [List.length_append, tells_told ws xs met k]
    rfl

theorem graph_pre (ws : List Int) (met : List Nat) (k : Nat) : ∀ m, ∃ r, (graphRun ws (k + m) met).1 = (graphRun ws k met).1 ++ r
  | 0 => ⟨[], by simp⟩
  | m + 1 => by
    obtain ⟨r, h⟩ := graph_pre ws met k m
    obtain ⟨r', h'⟩ := tells_pre ws (fieldsAtZ ws ((graphRun ws (k + m) met).1.getD (k + m) 0)) (graphRun ws (k + m) met).1 (fieldsAtZ ws ((graphRun ws (k + m) met).1.getD (k + m) 0)).length
    refine ⟨r ++ r', ?_⟩
    rw [show (graphRun ws (k + (m + 1)) met).1 = (tellsRun ws (fieldsAtZ ws ((graphRun ws (k + m) met).1.getD (k + m) 0)) (fieldsAtZ ws ((graphRun ws (k + m) met).1.getD (k + m) 0)).length (graphRun ws (k + m) met).1).1 from rfl]
    rw [h', h, List.append_assoc]

theorem graph_get {ws : List Int} {met : List Nat} {j K : Nat} (h : j < K) (hj : j < (graphRun ws j met).1.length) : (graphRun ws K met).1.getD j 0 = (graphRun ws j met).1.getD j 0 := by
  obtain ⟨r, e⟩ := graph_pre ws met j (K - j)
  rw [show j + (K - j) = K by omega] at e
  rw [e]
  simp [List.getD, List.getElem?_append_left hj]

theorem graph_field {ws : List Int} {met : List Nat} {j K i : Nat} (h : j < K) (hi : i < (ws.getD ((graphRun ws j met).1.getD j 0) 0 / 16).toNat - 1) (hx : ws.getD ((graphRun ws j met).1.getD j 0 + 1 + i) 0 % 8 = 0) : nowZ ws (ws.getD ((graphRun ws j met).1.getD j 0 + 1 + i) 0 / 8).toNat ∈ (graphRun ws K met).1 := by
  obtain ⟨r, e⟩ := graph_pre ws met (j + 1) (K - (j + 1))
  rw [show j + 1 + (K - (j + 1)) = K by omega] at e
  rw [e]
  refine List.mem_append.2 (Or.inl ?_)
  rw [show (graphRun ws (j + 1) met).1 = (tellsRun ws (fieldsAtZ ws ((graphRun ws j met).1.getD j 0)) (fieldsAtZ ws ((graphRun ws j met).1.getD j 0)).length (graphRun ws j met).1).1 from rfl]
  have g := fieldsAtZ_get hi
  have := tells_mem (ws := ws) (xs := fieldsAtZ ws ((graphRun ws j met).1.getD j 0)) (met := (graphRun ws j met).1) (j := i) (by rw [g]; exact hx) (fieldsAtZ ws ((graphRun ws j met).1.getD j 0)).length (by rw [fieldsAtZ_len]; exact hi)
  rw [g] at this
  exact this

theorem fields_last {os : List (Int × List Int)} {o : Int × List Int} {k : Nat} (h : os.length = k) : fieldsOf (os ++ [o]) k = o.2 := by
  subst h
  unfold fieldsOf
  simp [List.getD]

/-- How many words the first of them have. -/
theorem graph_words {ws : List Int} {met : List Nat} : ∀ k, (graphRun ws k met).2.length = k ∧ sumS (fun i => 1 + ((fieldsOf (graphRun ws k met).2 i).length : Int)) k = sumS (fun i => 1 + (((ws.getD ((graphRun ws i met).1.getD i 0) 0 / 16).toNat - 1 : Nat) : Int)) k
  | 0 => ⟨rfl, rfl⟩
  | k + 1 => by
    obtain ⟨h1, h2⟩ := graph_words (ws := ws) (met := met) k
    have e : (graphRun ws (k + 1) met).2 = (graphRun ws k met).2 ++ [(ws.getD ((graphRun ws k met).1.getD k 0) 0 % 16, (tellsRun ws (fieldsAtZ ws ((graphRun ws k met).1.getD k 0)) (fieldsAtZ ws ((graphRun ws k met).1.getD k 0)).length (graphRun ws k met).1).2)] := rfl
    refine ⟨by rw [e, List.length_append, h1]; rfl, ?_⟩
    rw [e]
    show sumS _ k + _ = sumS _ k + _
    rw [← h2]
    congr 1
    · refine sum_congr k (fun i hi => ?_)
      unfold fieldsOf
      simp [List.getD, List.getElem?_append_left (show i < (graphRun ws k met).2.length by omega)]
    · dsimp only
      rw [fields_last h1]
      dsimp only
      rw [tells_told, fieldsAtZ_len]

end Go.Proofs.Ytebpgglegnljgaa

/- The specification's HeapField: what is refused. -/
namespace Go.Proofs.Ytebpgglegnljgaa
open Go.RowKit

/-- Both blocks of a function that has a heap and tells one. -/
theorem both_new (w : World) (v : Value) (h : HpN) : ∃ W0, (w.alloc (.cells #[v, .int .i64 h.size, .int .i64 h.to, .int .i64 h.bottom, .int .i64 h.top, .int .i64 h.scan, .int .i64 h.fb, .int .i64 h.ft, .int .i64 h.flips, .int .i64 h.touched] 25)).alloc (.cells #[.slice none 0 0, .int .i64 0, .int .i64 0, .int .i64 0, .int .i64 0, .int .i64 0, .int .i64 0, .int .i64 0, .int .i64 0, .int .i64 0] 25) = W0 ∧ HeapBlk W0 w.heap.size v h ∧ HeapBlk W0 (w.heap.size + 1) (.slice none 0 0) ⟨0, 0, 0, 0, 0, 0, 0, 0, 0⟩ ∧ Below w.heap.size w W0 := by
  have h2 := two_kept (w := w) (Below.refl ((w.alloc (.cells #[v, .int .i64 h.size, .int .i64 h.to, .int .i64 h.bottom, .int .i64 h.top, .int .i64 h.scan, .int .i64 h.fb, .int .i64 h.ft, .int .i64 h.flips, .int .i64 h.touched] 25)).alloc (.cells #[.slice none 0 0, .int .i64 0, .int .i64 0, .int .i64 0, .int .i64 0, .int .i64 0, .int .i64 0, .int .i64 0, .int .i64 0, .int .i64 0] 25)).heap.size _)
  exact ⟨_, rfl, h2.1, h2.2.1, h2.2.2⟩

set_option maxHeartbeats 4000000 in
set_option maxRecDepth 100000 in
theorem sField_notOk (b off cap N : Nat) (h : HpN) (x i : Int) (w : World)
    (HOk : Hid (∀ X, Below w.heap.size w X → Calls Try.prog 35 #[heapV (.slice (some ⟨b, off, none⟩) N cap) h] X fun e w' => e = .returned (.bool false) ∧ Below X.heap.size X w')) :
    Calls Try.prog 22 #[heapV (.slice (some ⟨b, off, none⟩) N cap) h, .int .i64 x, .int .i64 i] w fun e w' => e = .returned (.tuple #[noHeap, .int .i64 0, .bool false]) ∧ Below w.heap.size w w' := by
  obtain ⟨g1, g2, g3, g4, g5, g6, g7, g8, g9⟩ := h
  unfold heapV at *
  dsimp only at *
  obtain ⟨W0, hW0, hA, hR, k2⟩ := both_new w (.slice (some ⟨b, off, none⟩) N cap) ⟨g1, g2, g3, g4, g5, g6, g7, g8, g9⟩
  dsimp only at hW0
  have HW0 := hid hW0
  clear hW0
  go_enter Try.func22, Try.ntmps22
  go_wp2_with fail
  rw [HW0.out]
  have hlt := heap_lt hA
  obtain ⟨v0, v1, v2, v3, v4, v5, v6, v7, v8, v9⟩ := hA.later (B := W0.heap.size) hlt
  dsimp only at v0 v1 v2 v3 v4 v5 v6 v7 v8 v9
  have HA := hid hA
  have HR := hid hR
  have HK2 := hid k2
  clear hA hR k2 HW0
  have KB : Hid (∀ X : Later W0.heap.size W0, Below w.heap.size w X.w ∧ w.heap.size ≤ X.w.heap.size) := fun X => by
    have k := HK2.out.trans (X.h.mono HK2.out.size)
    exact ⟨k, k.size⟩
  refine wp_region_calm W0.heap.size (by kernel_rfl) (by kernel_rfl) ?_
  repeat (go_big_quiet_step (first | (rename_i x; go_at_call 35; refine (HOk.out _ (KB.out x).1).mono ?_; rintro e w5 ⟨rfl, hb5⟩; exact ⟨rfl, ⟨w5, x.h.trans (hb5.mono x.h.size)⟩, rfl⟩)))
  refine wpQuiet_nil ?_
  rintro w6 ⟨y, rfl⟩
  have HB6 := hid (KB.out y).1
  have HR6 := hid (HR.out.below y.h)
  clear v0 v1 v2 v3 v4 v5 v6 v7 v8 v9
  generalize y.w = W6 at *
  obtain ⟨c0, c1, c2, c3, c4, c5, c6, c7, c8, c9⟩ := HR6.out.cells
  dsimp only at c0 c1 c2 c3 c4 c5 c6 c7 c8 c9
  have z0 := frozen_of_heap HR6.out 0
  have z1 := frozen_of_heap HR6.out 1
  have z2 := frozen_of_heap HR6.out 2
  have z3 := frozen_of_heap HR6.out 3
  have z4 := frozen_of_heap HR6.out 4
  have z5 := frozen_of_heap HR6.out 5
  have z6 := frozen_of_heap HR6.out 6
  have z7 := frozen_of_heap HR6.out 7
  have z8 := frozen_of_heap HR6.out 8
  have z9 := frozen_of_heap HR6.out 9
  go_wp2_with fail
  refine heap_use HR6.out (.slice none 0 0) ⟨0, 0, 0, 0, 0, 0, 0, 0, 0⟩ _ ?_
  intro W7 hL hb7 _ _
  obtain ⟨y0, y1, y2, y3, y4, y5, y6, y7, y8, y9⟩ := hL.cells
  dsimp only at y0 y1 y2 y3 y4 y5 y6 y7 y8 y9
  exact bodyPost_ret (v := .tuple #[noHeap, .int .i64 0, .bool false]) (by simp [results, Try.results22, go_sem, y0, y1, y2, y3, y4, y5, y6, y7, y8, y9, noHeap, heapV]) rfl ⟨rfl, HB6.out.trans (hb7 _ (Nat.le_succ _))⟩

set_option maxHeartbeats 4000000 in
set_option maxRecDepth 100000 in
theorem sField_noPtr (b off cap N : Nat) (h : HpN) (x i : Int) (w : World)
    (t : Int) (ht2 : (t != 0) = true)
    (HOk : Hid (∀ X, Below w.heap.size w X → Calls Try.prog 35 #[heapV (.slice (some ⟨b, off, none⟩) N cap) h] X fun e w' => e = .returned (.bool true) ∧ Below X.heap.size X w'))
    (HT : Hid (∀ w, Calls Try.prog 37 #[.int .i64 x] w fun e w' => e = .returned (.int .i64 t) ∧ w = w')) :
    Calls Try.prog 22 #[heapV (.slice (some ⟨b, off, none⟩) N cap) h, .int .i64 x, .int .i64 i] w fun e w' => e = .returned (.tuple #[noHeap, .int .i64 0, .bool false]) ∧ Below w.heap.size w w' := by
  obtain ⟨g1, g2, g3, g4, g5, g6, g7, g8, g9⟩ := h
  unfold heapV at *
  dsimp only at *
  obtain ⟨W0, hW0, hA, hR, k2⟩ := both_new w (.slice (some ⟨b, off, none⟩) N cap) ⟨g1, g2, g3, g4, g5, g6, g7, g8, g9⟩
  dsimp only at hW0
  have HW0 := hid hW0
  clear hW0
  go_enter Try.func22, Try.ntmps22
  go_wp2_with fail
  rw [HW0.out]
  have hlt := heap_lt hA
  obtain ⟨v0, v1, v2, v3, v4, v5, v6, v7, v8, v9⟩ := hA.later (B := W0.heap.size) hlt
  dsimp only at v0 v1 v2 v3 v4 v5 v6 v7 v8 v9
  have HA := hid hA
  have HR := hid hR
  have HK2 := hid k2
  clear hA hR k2 HW0
  have KB : Hid (∀ X : Later W0.heap.size W0, Below w.heap.size w X.w ∧ w.heap.size ≤ X.w.heap.size) := fun X => by
    have k := HK2.out.trans (X.h.mono HK2.out.size)
    exact ⟨k, k.size⟩
  refine wp_region_calm W0.heap.size (by kernel_rfl) (by kernel_rfl) ?_
  repeat (go_big_quiet_step (first | (rename_i x; go_at_call 35; refine (HOk.out _ (KB.out x).1).mono ?_; rintro e w5 ⟨rfl, hb5⟩; exact ⟨rfl, ⟨w5, x.h.trans (hb5.mono x.h.size)⟩, rfl⟩) | (rename_i x; go_at_call 37; refine (HT.out _).mono ?_; rintro e w5 ⟨rfl, rfl⟩; exact ⟨rfl, x, rfl⟩)))
  refine wpQuiet_nil ?_
  rintro w6 ⟨y, rfl⟩
  have HB6 := hid (KB.out y).1
  have HR6 := hid (HR.out.below y.h)
  clear v0 v1 v2 v3 v4 v5 v6 v7 v8 v9
  generalize y.w = W6 at *
  obtain ⟨c0, c1, c2, c3, c4, c5, c6, c7, c8, c9⟩ := HR6.out.cells
  dsimp only at c0 c1 c2 c3 c4 c5 c6 c7 c8 c9
  have z0 := frozen_of_heap HR6.out 0
  have z1 := frozen_of_heap HR6.out 1
  have z2 := frozen_of_heap HR6.out 2
  have z3 := frozen_of_heap HR6.out 3
  have z4 := frozen_of_heap HR6.out 4
  have z5 := frozen_of_heap HR6.out 5
  have z6 := frozen_of_heap HR6.out 6
  have z7 := frozen_of_heap HR6.out 7
  have z8 := frozen_of_heap HR6.out 8
  have z9 := frozen_of_heap HR6.out 9
  go_wp2_with fail
  refine heap_use HR6.out (.slice none 0 0) ⟨0, 0, 0, 0, 0, 0, 0, 0, 0⟩ _ ?_
  intro W7 hL hb7 _ _
  obtain ⟨y0, y1, y2, y3, y4, y5, y6, y7, y8, y9⟩ := hL.cells
  dsimp only at y0 y1 y2 y3 y4 y5 y6 y7 y8 y9
  exact bodyPost_ret (v := .tuple #[noHeap, .int .i64 0, .bool false]) (by simp [results, Try.results22, go_sem, y0, y1, y2, y3, y4, y5, y6, y7, y8, y9, noHeap, heapV]) rfl ⟨rfl, HB6.out.trans (hb7 _ (Nat.le_succ _))⟩

set_option maxHeartbeats 4000000 in
set_option maxRecDepth 100000 in
theorem sField_noRoot (b off cap N : Nat) (h : HpN) (x i : Int) (w : World)
    (HOk : Hid (∀ X, Below w.heap.size w X → Calls Try.prog 35 #[heapV (.slice (some ⟨b, off, none⟩) N cap) h] X fun e w' => e = .returned (.bool true) ∧ Below X.heap.size X w'))
    (HT : Hid (∀ w, Calls Try.prog 37 #[.int .i64 x] w fun e w' => e = .returned (.int .i64 0) ∧ w = w'))
    (HRt : Hid (∀ X, Below w.heap.size w X → ∀ g, X.cell? ⟨g, 0, none⟩ = some (.int .i64 x) → Calls Try.prog 36 #[heapV (.slice (some ⟨b, off, none⟩) N cap) h, .slice (some ⟨g, 0, none⟩) 1 1] X fun e w' => e = .returned (.bool false) ∧ Below X.heap.size X w')) :
    Calls Try.prog 22 #[heapV (.slice (some ⟨b, off, none⟩) N cap) h, .int .i64 x, .int .i64 i] w fun e w' => e = .returned (.tuple #[noHeap, .int .i64 0, .bool false]) ∧ Below w.heap.size w w' := by
  obtain ⟨g1, g2, g3, g4, g5, g6, g7, g8, g9⟩ := h
  unfold heapV at *
  dsimp only at *
  obtain ⟨W0, hW0, hA, hR, k2⟩ := both_new w (.slice (some ⟨b, off, none⟩) N cap) ⟨g1, g2, g3, g4, g5, g6, g7, g8, g9⟩
  dsimp only at hW0
  have HW0 := hid hW0
  clear hW0
  go_enter Try.func22, Try.ntmps22
  go_wp2_with fail
  rw [HW0.out]
  have hlt := heap_lt hA
  obtain ⟨v0, v1, v2, v3, v4, v5, v6, v7, v8, v9⟩ := hA.later (B := W0.heap.size) hlt
  dsimp only at v0 v1 v2 v3 v4 v5 v6 v7 v8 v9
  have HA := hid hA
  have HR := hid hR
  have HK2 := hid k2
  clear hA hR k2 HW0
  have KB : Hid (∀ X : Later W0.heap.size W0, Below w.heap.size w X.w ∧ w.heap.size ≤ X.w.heap.size) := fun X => by
    have k := HK2.out.trans (X.h.mono HK2.out.size)
    exact ⟨k, k.size⟩
  refine stage_begin (S := fun w' => ∃ x : Later W0.heap.size W0, w' = x.w) (by kernel_rfl) ?_
  refine stage_walk (by kernel_rfl) 11 0 _ _ (by kernel_rfl) ⟨⟨W0.drew, (Below.refl _ _).drew⟩, rfl⟩ ?_
  simp only [List.drop_zero, List.take_succ_cons, List.take_zero]
  repeat (go_big_quiet_step (first | (rename_i x; go_at_call 35; refine (HOk.out _ (KB.out x).1).mono ?_; rintro e w5 ⟨rfl, hb5⟩; exact ⟨rfl, ⟨w5, x.h.trans (hb5.mono x.h.size)⟩, rfl⟩) | (rename_i x; go_at_call 37; refine (HT.out _).mono ?_; rintro e w5 ⟨rfl, rfl⟩; exact ⟨rfl, x, rfl⟩)))
  refine wpQuiet_nil ?_
  rintro w5 ⟨x1, rfl⟩
  refine stage_make (k := 11) (v := .slice (some ⟨x1.w.heap.size, 0, none⟩) 1 1) (w1 := x1.w.alloc (.cells #[.int .i64 x] 3)) rfl (by kernel_rfl) rfl (by simp [go_sem]) ⟨⟨_, x1.h.alloc x1.h.size _⟩, rfl⟩ (by simp [go_sem]; exact rfl) ?_
  have hN0 : (x1.w.alloc (.cells #[.int .i64 x] 3)).heap[x1.w.heap.size]? = some (.cells #[.int .i64 x] 3) := (MapKept.heap_alloc x1.w _).1
  have hL1 := x1.h.alloc x1.h.size (.cells #[.int .i64 x] 3)
  generalize x1.w.alloc (.cells #[.int .i64 x] 3) = W1 at *
  refine stage_class (S' := fun w' => ∃ y : Later W1.heap.size W1, w' = y.w) (fun w' ⟨y, hy⟩ => ⟨⟨w', hL1.trans ((hy ▸ y.h).mono hL1.size)⟩, rfl⟩) ?_
  have HC1 : Hid (∀ y : Later W1.heap.size W1, y.w.cell? ⟨x1.w.heap.size, 0, none⟩ = some (.int .i64 x)) := fun y => y.cell (heap_lt hN0) (by rw [cell_of_heap hN0]; rfl)
  have KB1 : Hid (∀ y : Later W1.heap.size W1, Below w.heap.size w y.w) := fun y => (KB.out ⟨W1, hL1⟩).1.trans (y.h.mono (KB.out ⟨W1, hL1⟩).2)
  have TL : Hid (∀ y : Later W1.heap.size W1, Below W0.heap.size W0 y.w) := fun y => hL1.trans (y.h.mono hL1.size)
  have u0 : ∀ y : Later W1.heap.size W1, y.w.cell? ⟨w.heap.size, 0, none⟩ = some (.slice (some ⟨b, off, none⟩) N cap) := fun y => v0 ⟨y.w, TL.out y⟩
  clear v0 v1 v2 v3 v4 v5 v6 v7 v8 v9 hN0
  refine stage_walk (by kernel_rfl) 19 12 _ _ (by kernel_rfl) ⟨⟨W1, Below.refl _ _⟩, rfl⟩ ?_
  simp only [List.drop_zero, List.drop_succ_cons, List.take_succ_cons, List.take_zero]
  repeat (go_big_quiet_step (first | (rename_i y; go_at_call 36; refine (HRt.out _ (KB1.out y) _ (HC1.out y)).mono ?_; rintro e w5 ⟨rfl, hb5⟩; exact ⟨rfl, ⟨w5, y.h.trans (hb5.mono y.h.size)⟩, rfl⟩)))
  refine wpQuiet_nil ?_
  rintro w6 ⟨y, rfl⟩
  refine stage_end (by kernel_rfl) ?_
  have HB6 := hid (KB1.out y)
  have HR6 := hid (HR.out.below (TL.out y))
  have HA6 := hid (HA.out.below (TL.out y))
  clear u0 HC1 KB1 TL hL1
  generalize y.w = W6 at *
  obtain ⟨c0, c1, c2, c3, c4, c5, c6, c7, c8, c9⟩ := HR6.out.cells
  dsimp only at c0 c1 c2 c3 c4 c5 c6 c7 c8 c9
  have z0 := frozen_of_heap HR6.out 0
  have z1 := frozen_of_heap HR6.out 1
  have z2 := frozen_of_heap HR6.out 2
  have z3 := frozen_of_heap HR6.out 3
  have z4 := frozen_of_heap HR6.out 4
  have z5 := frozen_of_heap HR6.out 5
  have z6 := frozen_of_heap HR6.out 6
  have z7 := frozen_of_heap HR6.out 7
  have z8 := frozen_of_heap HR6.out 8
  have z9 := frozen_of_heap HR6.out 9
  go_wp2_with fail
  refine heap_use HR6.out (.slice none 0 0) ⟨0, 0, 0, 0, 0, 0, 0, 0, 0⟩ _ ?_
  intro W7 hL hb7 _ _
  obtain ⟨y0, y1, y2, y3, y4, y5, y6, y7, y8, y9⟩ := hL.cells
  dsimp only at y0 y1 y2 y3 y4 y5 y6 y7 y8 y9
  exact bodyPost_ret (v := .tuple #[noHeap, .int .i64 0, .bool false]) (by simp [results, Try.results22, go_sem, y0, y1, y2, y3, y4, y5, y6, y7, y8, y9, noHeap, heapV]) rfl ⟨rfl, HB6.out.trans (hb7 _ (Nat.le_succ _))⟩

set_option maxHeartbeats 4000000 in
set_option maxRecDepth 100000 in
theorem sField_below (b off cap N : Nat) (h : HpN) (x i : Int) (w : World)
    (hi : i < 0)
    (HOk : Hid (∀ X, Below w.heap.size w X → Calls Try.prog 35 #[heapV (.slice (some ⟨b, off, none⟩) N cap) h] X fun e w' => e = .returned (.bool true) ∧ Below X.heap.size X w'))
    (HT : Hid (∀ w, Calls Try.prog 37 #[.int .i64 x] w fun e w' => e = .returned (.int .i64 0) ∧ w = w'))
    (HRt : Hid (∀ X, Below w.heap.size w X → ∀ g, X.cell? ⟨g, 0, none⟩ = some (.int .i64 x) → Calls Try.prog 36 #[heapV (.slice (some ⟨b, off, none⟩) N cap) h, .slice (some ⟨g, 0, none⟩) 1 1] X fun e w' => e = .returned (.bool true) ∧ Below X.heap.size X w')) :
    Calls Try.prog 22 #[heapV (.slice (some ⟨b, off, none⟩) N cap) h, .int .i64 x, .int .i64 i] w fun e w' => e = .returned (.tuple #[noHeap, .int .i64 0, .bool false]) ∧ Below w.heap.size w w' := by
  obtain ⟨g1, g2, g3, g4, g5, g6, g7, g8, g9⟩ := h
  unfold heapV at *
  dsimp only at *
  obtain ⟨W0, hW0, hA, hR, k2⟩ := both_new w (.slice (some ⟨b, off, none⟩) N cap) ⟨g1, g2, g3, g4, g5, g6, g7, g8, g9⟩
  dsimp only at hW0
  have HW0 := hid hW0
  clear hW0
  go_enter Try.func22, Try.ntmps22
  go_wp2_with fail
  rw [HW0.out]
  have hlt := heap_lt hA
  obtain ⟨v0, v1, v2, v3, v4, v5, v6, v7, v8, v9⟩ := hA.later (B := W0.heap.size) hlt
  dsimp only at v0 v1 v2 v3 v4 v5 v6 v7 v8 v9
  have HA := hid hA
  have HR := hid hR
  have HK2 := hid k2
  clear hA hR k2 HW0
  have KB : Hid (∀ X : Later W0.heap.size W0, Below w.heap.size w X.w ∧ w.heap.size ≤ X.w.heap.size) := fun X => by
    have k := HK2.out.trans (X.h.mono HK2.out.size)
    exact ⟨k, k.size⟩
  refine stage_begin (S := fun w' => ∃ x : Later W0.heap.size W0, w' = x.w) (by kernel_rfl) ?_
  refine stage_walk (by kernel_rfl) 11 0 _ _ (by kernel_rfl) ⟨⟨W0.drew, (Below.refl _ _).drew⟩, rfl⟩ ?_
  simp only [List.drop_zero, List.take_succ_cons, List.take_zero]
  repeat (go_big_quiet_step (first | (rename_i x; go_at_call 35; refine (HOk.out _ (KB.out x).1).mono ?_; rintro e w5 ⟨rfl, hb5⟩; exact ⟨rfl, ⟨w5, x.h.trans (hb5.mono x.h.size)⟩, rfl⟩) | (rename_i x; go_at_call 37; refine (HT.out _).mono ?_; rintro e w5 ⟨rfl, rfl⟩; exact ⟨rfl, x, rfl⟩)))
  refine wpQuiet_nil ?_
  rintro w5 ⟨x1, rfl⟩
  refine stage_make (k := 11) (v := .slice (some ⟨x1.w.heap.size, 0, none⟩) 1 1) (w1 := x1.w.alloc (.cells #[.int .i64 x] 3)) rfl (by kernel_rfl) rfl (by simp [go_sem]) ⟨⟨_, x1.h.alloc x1.h.size _⟩, rfl⟩ (by simp [go_sem]; exact rfl) ?_
  have hN0 : (x1.w.alloc (.cells #[.int .i64 x] 3)).heap[x1.w.heap.size]? = some (.cells #[.int .i64 x] 3) := (MapKept.heap_alloc x1.w _).1
  have hL1 := x1.h.alloc x1.h.size (.cells #[.int .i64 x] 3)
  generalize x1.w.alloc (.cells #[.int .i64 x] 3) = W1 at *
  refine stage_class (S' := fun w' => ∃ y : Later W1.heap.size W1, w' = y.w) (fun w' ⟨y, hy⟩ => ⟨⟨w', hL1.trans ((hy ▸ y.h).mono hL1.size)⟩, rfl⟩) ?_
  have HC1 : Hid (∀ y : Later W1.heap.size W1, y.w.cell? ⟨x1.w.heap.size, 0, none⟩ = some (.int .i64 x)) := fun y => y.cell (heap_lt hN0) (by rw [cell_of_heap hN0]; rfl)
  have KB1 : Hid (∀ y : Later W1.heap.size W1, Below w.heap.size w y.w) := fun y => (KB.out ⟨W1, hL1⟩).1.trans (y.h.mono (KB.out ⟨W1, hL1⟩).2)
  have TL : Hid (∀ y : Later W1.heap.size W1, Below W0.heap.size W0 y.w) := fun y => hL1.trans (y.h.mono hL1.size)
  have u0 : ∀ y : Later W1.heap.size W1, y.w.cell? ⟨w.heap.size, 0, none⟩ = some (.slice (some ⟨b, off, none⟩) N cap) := fun y => v0 ⟨y.w, TL.out y⟩
  clear v0 v1 v2 v3 v4 v5 v6 v7 v8 v9 hN0
  refine stage_walk (by kernel_rfl) 19 12 _ _ (by kernel_rfl) ⟨⟨W1, Below.refl _ _⟩, rfl⟩ ?_
  simp only [List.drop_zero, List.drop_succ_cons, List.take_succ_cons, List.take_zero]
  repeat (go_big_quiet_step (first | (rename_i y; go_at_call 36; refine (HRt.out _ (KB1.out y) _ (HC1.out y)).mono ?_; rintro e w5 ⟨rfl, hb5⟩; exact ⟨rfl, ⟨w5, y.h.trans (hb5.mono y.h.size)⟩, rfl⟩)))
  refine wpQuiet_nil ?_
  rintro w6 ⟨y, rfl⟩
  refine stage_end (by kernel_rfl) ?_
  have HB6 := hid (KB1.out y)
  have HR6 := hid (HR.out.below (TL.out y))
  have HA6 := hid (HA.out.below (TL.out y))
  clear u0 HC1 KB1 TL hL1
  generalize y.w = W6 at *
  obtain ⟨c0, c1, c2, c3, c4, c5, c6, c7, c8, c9⟩ := HR6.out.cells
  dsimp only at c0 c1 c2 c3 c4 c5 c6 c7 c8 c9
  have z0 := frozen_of_heap HR6.out 0
  have z1 := frozen_of_heap HR6.out 1
  have z2 := frozen_of_heap HR6.out 2
  have z3 := frozen_of_heap HR6.out 3
  have z4 := frozen_of_heap HR6.out 4
  have z5 := frozen_of_heap HR6.out 5
  have z6 := frozen_of_heap HR6.out 6
  have z7 := frozen_of_heap HR6.out 7
  have z8 := frozen_of_heap HR6.out 8
  have z9 := frozen_of_heap HR6.out 9
  go_wp2_with fail
  refine heap_use HR6.out (.slice none 0 0) ⟨0, 0, 0, 0, 0, 0, 0, 0, 0⟩ _ ?_
  intro W7 hL hb7 _ _
  obtain ⟨y0, y1, y2, y3, y4, y5, y6, y7, y8, y9⟩ := hL.cells
  dsimp only at y0 y1 y2 y3 y4 y5 y6 y7 y8 y9
  exact bodyPost_ret (v := .tuple #[noHeap, .int .i64 0, .bool false]) (by simp [results, Try.results22, go_sem, y0, y1, y2, y3, y4, y5, y6, y7, y8, y9, noHeap, heapV]) rfl ⟨rfl, HB6.out.trans (hb7 _ (Nat.le_succ _))⟩

set_option maxHeartbeats 4000000 in
set_option maxRecDepth 100000 in
theorem sField_past (b off cap N : Nat) (h : HpN) (x i : Int) (w : World)
    (k : Nat) (hk : k < N) (hb : b < w.heap.size) (f n : Int) (HF : Hid (w.cell? ⟨b, off + k, none⟩ = some (.int .i64 f))) (hf : f / 16 = n) (hn0 : 0 ≤ n) (hn1 : n ≤ 6) (hd : decide (i < 0) = false) (hi1 : n - 1 ≤ i)
    (HOk : Hid (∀ X, Below w.heap.size w X → Calls Try.prog 35 #[heapV (.slice (some ⟨b, off, none⟩) N cap) h] X fun e w' => e = .returned (.bool true) ∧ Below X.heap.size X w'))
    (HT : Hid (∀ w, Calls Try.prog 37 #[.int .i64 x] w fun e w' => e = .returned (.int .i64 0) ∧ w = w'))
    (HRt : Hid (∀ X, Below w.heap.size w X → ∀ g, X.cell? ⟨g, 0, none⟩ = some (.int .i64 x) → Calls Try.prog 36 #[heapV (.slice (some ⟨b, off, none⟩) N cap) h, .slice (some ⟨g, 0, none⟩) 1 1] X fun e w' => e = .returned (.bool true) ∧ Below X.heap.size X w'))
    (HNum : Hid (∀ w, Calls Try.prog 54 #[.int .i64 x] w fun e w' => e = .returned (.int .i64 (k : Int)) ∧ w = w')) :
    Calls Try.prog 22 #[heapV (.slice (some ⟨b, off, none⟩) N cap) h, .int .i64 x, .int .i64 i] w fun e w' => e = .returned (.tuple #[noHeap, .int .i64 0, .bool false]) ∧ Below w.heap.size w w' := by
  obtain ⟨g1, g2, g3, g4, g5, g6, g7, g8, g9⟩ := h
  unfold heapV at *
  dsimp only at *
  obtain ⟨W0, hW0, hA, hR, k2⟩ := both_new w (.slice (some ⟨b, off, none⟩) N cap) ⟨g1, g2, g3, g4, g5, g6, g7, g8, g9⟩
  dsimp only at hW0
  have HW0 := hid hW0
  clear hW0
  go_enter Try.func22, Try.ntmps22
  go_wp2_with fail
  rw [HW0.out]
  have hlt := heap_lt hA
  obtain ⟨v0, v1, v2, v3, v4, v5, v6, v7, v8, v9⟩ := hA.later (B := W0.heap.size) hlt
  dsimp only at v0 v1 v2 v3 v4 v5 v6 v7 v8 v9
  have HA := hid hA
  have HR := hid hR
  have HK2 := hid k2
  clear hA hR k2 HW0
  have KB : Hid (∀ X : Later W0.heap.size W0, Below w.heap.size w X.w ∧ w.heap.size ≤ X.w.heap.size) := fun X => by
    have k := HK2.out.trans (X.h.mono HK2.out.size)
    exact ⟨k, k.size⟩
  refine stage_begin (S := fun w' => ∃ x : Later W0.heap.size W0, w' = x.w) (by kernel_rfl) ?_
  refine stage_walk (by kernel_rfl) 11 0 _ _ (by kernel_rfl) ⟨⟨W0.drew, (Below.refl _ _).drew⟩, rfl⟩ ?_
  simp only [List.drop_zero, List.take_succ_cons, List.take_zero]
  repeat (go_big_quiet_step (first | (rename_i x; go_at_call 35; refine (HOk.out _ (KB.out x).1).mono ?_; rintro e w5 ⟨rfl, hb5⟩; exact ⟨rfl, ⟨w5, x.h.trans (hb5.mono x.h.size)⟩, rfl⟩) | (rename_i x; go_at_call 37; refine (HT.out _).mono ?_; rintro e w5 ⟨rfl, rfl⟩; exact ⟨rfl, x, rfl⟩)))
  refine wpQuiet_nil ?_
  rintro w5 ⟨x1, rfl⟩
  refine stage_make (k := 11) (v := .slice (some ⟨x1.w.heap.size, 0, none⟩) 1 1) (w1 := x1.w.alloc (.cells #[.int .i64 x] 3)) rfl (by kernel_rfl) rfl (by simp [go_sem]) ⟨⟨_, x1.h.alloc x1.h.size _⟩, rfl⟩ (by simp [go_sem]; exact rfl) ?_
  have hN0 : (x1.w.alloc (.cells #[.int .i64 x] 3)).heap[x1.w.heap.size]? = some (.cells #[.int .i64 x] 3) := (MapKept.heap_alloc x1.w _).1
  have hL1 := x1.h.alloc x1.h.size (.cells #[.int .i64 x] 3)
  generalize x1.w.alloc (.cells #[.int .i64 x] 3) = W1 at *
  refine stage_class (S' := fun w' => ∃ y : Later W1.heap.size W1, w' = y.w) (fun w' ⟨y, hy⟩ => ⟨⟨w', hL1.trans ((hy ▸ y.h).mono hL1.size)⟩, rfl⟩) ?_
  have HC1 : Hid (∀ y : Later W1.heap.size W1, y.w.cell? ⟨x1.w.heap.size, 0, none⟩ = some (.int .i64 x)) := fun y => y.cell (heap_lt hN0) (by rw [cell_of_heap hN0]; rfl)
  have KB1 : Hid (∀ y : Later W1.heap.size W1, Below w.heap.size w y.w) := fun y => (KB.out ⟨W1, hL1⟩).1.trans (y.h.mono (KB.out ⟨W1, hL1⟩).2)
  have TL : Hid (∀ y : Later W1.heap.size W1, Below W0.heap.size W0 y.w) := fun y => hL1.trans (y.h.mono hL1.size)
  have u0 : ∀ y : Later W1.heap.size W1, y.w.cell? ⟨w.heap.size, 0, none⟩ = some (.slice (some ⟨b, off, none⟩) N cap) := fun y => v0 ⟨y.w, TL.out y⟩
  have u1 : ∀ y : Later W1.heap.size W1, y.w.cell? ⟨b, off + k, none⟩ = some (.int .i64 f) := fun y => ((KB1.out y).cell (p := ⟨b, off + k, none⟩) hb).trans HF.out
  clear v0 v1 v2 v3 v4 v5 v6 v7 v8 v9 hN0
  refine stage_walk (by kernel_rfl) 19 12 _ _ (by kernel_rfl) ⟨⟨W1, Below.refl _ _⟩, rfl⟩ ?_
  simp only [List.drop_zero, List.drop_succ_cons, List.take_succ_cons, List.take_zero]
  repeat (go_big_quiet_step (first | (rename_i y; go_at_call 36; refine (HRt.out _ (KB1.out y) _ (HC1.out y)).mono ?_; rintro e w5 ⟨rfl, hb5⟩; exact ⟨rfl, ⟨w5, y.h.trans (hb5.mono y.h.size)⟩, rfl⟩) | (rename_i y; go_at_call 54; refine (HNum.out _).mono ?_; rintro e w5 ⟨rfl, rfl⟩; exact ⟨rfl, y, rfl⟩)))
  refine wpQuiet_nil ?_
  rintro w6 ⟨y, rfl⟩
  refine stage_end (by kernel_rfl) ?_
  have HB6 := hid (KB1.out y)
  have HR6 := hid (HR.out.below (TL.out y))
  have HA6 := hid (HA.out.below (TL.out y))
  clear u0 u1 HC1 KB1 TL hL1
  generalize y.w = W6 at *
  obtain ⟨c0, c1, c2, c3, c4, c5, c6, c7, c8, c9⟩ := HR6.out.cells
  dsimp only at c0 c1 c2 c3 c4 c5 c6 c7 c8 c9
  have z0 := frozen_of_heap HR6.out 0
  have z1 := frozen_of_heap HR6.out 1
  have z2 := frozen_of_heap HR6.out 2
  have z3 := frozen_of_heap HR6.out 3
  have z4 := frozen_of_heap HR6.out 4
  have z5 := frozen_of_heap HR6.out 5
  have z6 := frozen_of_heap HR6.out 6
  have z7 := frozen_of_heap HR6.out 7
  have z8 := frozen_of_heap HR6.out 8
  have z9 := frozen_of_heap HR6.out 9
  go_wp2_with fail
  refine heap_use HR6.out (.slice none 0 0) ⟨0, 0, 0, 0, 0, 0, 0, 0, 0⟩ _ ?_
  intro W7 hL hb7 _ _
  obtain ⟨y0, y1, y2, y3, y4, y5, y6, y7, y8, y9⟩ := hL.cells
  dsimp only at y0 y1 y2 y3 y4 y5 y6 y7 y8 y9
  exact bodyPost_ret (v := .tuple #[noHeap, .int .i64 0, .bool false]) (by simp [results, Try.results22, go_sem, y0, y1, y2, y3, y4, y5, y6, y7, y8, y9, noHeap, heapV]) rfl ⟨rfl, HB6.out.trans (hb7 _ (Nat.le_succ _))⟩

end Go.Proofs.Ytebpgglegnljgaa

/- The program's HeapFlip. -/
namespace Go.Proofs.Ytebpgglegnljgaa
open Go.RowKit

/-- What changing the spaces of a heap comes to. -/
def FlipTold (N n : Nat) (w : World) (o : Option (List Int × CN)) (e : Ending) (w' : World) : Prop :=
  match o with
  | some (ys, s) => ∃ bw cap' g c : Nat, e = .returned (.tuple #[heapV (.slice (some ⟨bw, 0, none⟩) N cap') { s.h with touched := touchZ s }, .slice (some ⟨g, 0, none⟩) n c, .bool true]) ∧ CellRow 3 w' bw N (intCells s.ws) ∧ CellRow 3 w' g n (intCells ys) ∧ g ≠ bw ∧ w.heap.size ≤ bw ∧ w.heap.size ≤ g ∧ Below w.heap.size w w'
  | none => e = .returned (.tuple #[noHeap, .slice none 0 0, .bool false]) ∧ Below w.heap.size w w'

set_option maxHeartbeats 2000000 in
set_option maxRecDepth 100000 in
theorem iFlip_notOk (b off cap N : Nat) (h : HpN) (rg n rc : Nat) (w : World)
    (HLy : Hid (∀ X, Below w.heap.size w X → Calls Try.prog 30 #[heapV (.slice (some ⟨b, off, none⟩) N cap) h] X fun e w' => e = .returned (.tuple #[noLay, .bool false]) ∧ Below X.heap.size X w')) :
    Calls Try.prog 17 #[heapV (.slice (some ⟨b, off, none⟩) N cap) h, .slice (some ⟨rg, 0, none⟩) n rc] w fun e w' => e = .returned (.tuple #[noHeap, .slice none 0 0, .bool false]) ∧ Below w.heap.size w w' := by
  obtain ⟨g1, g2, g3, g4, g5, g6, g7, g8, g9⟩ := h
  unfold heapV at *
  dsimp only at *
  obtain ⟨W0, hW0, hA, hR, k2⟩ := both_new w (.slice (some ⟨b, off, none⟩) N cap) ⟨g1, g2, g3, g4, g5, g6, g7, g8, g9⟩
  dsimp only at hW0
  have HW0 := hid hW0
  have HA := hid hA
  have HR := hid hR
  have HK2 := hid k2
  clear hW0 hA hR k2
  go_enter Try.func17, Try.ntmps17
  go_wp2_with fail
  rw [HW0.out]
  refine (HLy.out _ HK2.out).mono ?_
  rintro e W1 ⟨rfl, hb1⟩
  unfold noLay layV
  dsimp only
  have k1 := HK2.out.trans (hb1.mono HK2.out.size)
  have HB6 := hid (k1.alloc k1.size (.cells #[.slice none 0 0, .int .i64 0, .int .i64 0, .int .i64 0, .int .i64 0, .int .i64 0, .int .i64 0, .int .i64 0, .int .i64 0, .int .i64 0, .slice none 0 0] 58))
  have hR1 := HR.out.below hb1
  have HR6 := hid (hR1.below ((Below.refl _ W1).alloc (Nat.le_refl _) (.cells #[.slice none 0 0, .int .i64 0, .int .i64 0, .int .i64 0, .int .i64 0, .int .i64 0, .int .i64 0, .int .i64 0, .int .i64 0, .int .i64 0, .slice none 0 0] 58)))
  have hltR := heap_lt hR1
  clear k1 hb1 HW0 HA HR HK2 HLy
  clear hR1
  go_upto_if 29 with fail
  generalize W1.alloc (.cells #[.slice none 0 0, .int .i64 0, .int .i64 0, .int .i64 0, .int .i64 0, .int .i64 0, .int .i64 0, .int .i64 0, .int .i64 0, .int .i64 0, .slice none 0 0] 58) = W2 at *
  obtain ⟨c0, c1, c2, c3, c4, c5, c6, c7, c8, c9⟩ := HR6.out.cells
  dsimp only at c0 c1 c2 c3 c4 c5 c6 c7 c8 c9
  have z0 := frozen_of_heap HR6.out 0
  have z1 := frozen_of_heap HR6.out 1
  have z2 := frozen_of_heap HR6.out 2
  have z3 := frozen_of_heap HR6.out 3
  have z4 := frozen_of_heap HR6.out 4
  have z5 := frozen_of_heap HR6.out 5
  have z6 := frozen_of_heap HR6.out 6
  have z7 := frozen_of_heap HR6.out 7
  have z8 := frozen_of_heap HR6.out 8
  have z9 := frozen_of_heap HR6.out 9
  go_wp2_with fail
  refine heap_use HR6.out (.slice none 0 0) ⟨0, 0, 0, 0, 0, 0, 0, 0, 0⟩ _ ?_
  intro W7 hL hb7 _ _
  obtain ⟨y0, y1, y2, y3, y4, y5, y6, y7, y8, y9⟩ := hL.cells
  dsimp only at y0 y1 y2 y3 y4 y5 y6 y7 y8 y9
  exact bodyPost_ret (v := .tuple #[noHeap, .slice none 0 0, .bool false]) (by simp [results, Try.results17, go_sem, y0, y1, y2, y3, y4, y5, y6, y7, y8, y9, noHeap, heapV]) rfl ⟨rfl, HB6.out.trans (hb7 _ (Nat.le_succ _))⟩

set_option maxHeartbeats 2000000 in
set_option maxRecDepth 100000 in
theorem iFlip_scan (b off cap N : Nat) (h : HpN) (rg n rc : Nat) (w : World)
    (ws S : List Int) (hne : (h.scan != h.bottom) = true) (hne2 : ¬ h.scan = h.bottom)
    (HLy : Hid (∀ X, Below w.heap.size w X → Calls Try.prog 30 #[heapV (.slice (some ⟨b, off, none⟩) N cap) h] X fun e w' => ∃ gb, e = .returned (.tuple #[layV (.slice (some ⟨b, off, none⟩) N cap) h (.slice (some ⟨gb, 0, none⟩) N N), .bool true]) ∧ Hid (ISt b off gb N ws S w') ∧ Below X.heap.size X w')) :
    Calls Try.prog 17 #[heapV (.slice (some ⟨b, off, none⟩) N cap) h, .slice (some ⟨rg, 0, none⟩) n rc] w fun e w' => e = .returned (.tuple #[noHeap, .slice none 0 0, .bool false]) ∧ Below w.heap.size w w' := by
  obtain ⟨g1, g2, g3, g4, g5, g6, g7, g8, g9⟩ := h
  unfold heapV at *
  dsimp only at *
  obtain ⟨W0, hW0, hA, hR, k2⟩ := both_new w (.slice (some ⟨b, off, none⟩) N cap) ⟨g1, g2, g3, g4, g5, g6, g7, g8, g9⟩
  dsimp only at hW0
  have HW0 := hid hW0
  have HA := hid hA
  have HR := hid hR
  have HK2 := hid k2
  clear hW0 hA hR k2
  go_enter Try.func17, Try.ntmps17
  go_wp2_with fail
  rw [HW0.out]
  refine (HLy.out _ HK2.out).mono ?_
  rintro e W1 ⟨gb, rfl, HI, hb1⟩
  unfold layV at *
  dsimp only at *
  have k1 := HK2.out.trans (hb1.mono HK2.out.size)
  have HB2 := hid (k1.alloc k1.size (.cells #[.slice (some ⟨b, off, none⟩) N cap, .int .i64 g1, .int .i64 g2, .int .i64 g3, .int .i64 g4, .int .i64 g5, .int .i64 g6, .int .i64 g7, .int .i64 g8, .int .i64 g9, .slice (some ⟨gb, 0, none⟩) N N] 58))
  have HR2 := hid ((HR.out.below hb1).below ((Below.refl _ W1).alloc (Nat.le_refl _) (.cells #[.slice (some ⟨b, off, none⟩) N cap, .int .i64 g1, .int .i64 g2, .int .i64 g3, .int .i64 g4, .int .i64 g5, .int .i64 g6, .int .i64 g7, .int .i64 g8, .int .i64 g9, .slice (some ⟨gb, 0, none⟩) N N] 58)))
  have hA1 := HA.out.below hb1
  have HA2 := hid (hA1.below ((Below.refl _ W1).alloc (Nat.le_refl _) (.cells #[.slice (some ⟨b, off, none⟩) N cap, .int .i64 g1, .int .i64 g2, .int .i64 g3, .int .i64 g4, .int .i64 g5, .int .i64 g6, .int .i64 g7, .int .i64 g8, .int .i64 g9, .slice (some ⟨gb, 0, none⟩) N N] 58)))
  have HI2 := hid (HI.out.kept ((Below.refl _ W1).alloc (Nat.le_refl _) (.cells #[.slice (some ⟨b, off, none⟩) N cap, .int .i64 g1, .int .i64 g2, .int .i64 g3, .int .i64 g4, .int .i64 g5, .int .i64 g6, .int .i64 g7, .int .i64 g8, .int .i64 g9, .slice (some ⟨gb, 0, none⟩) N N] 58)))
  have a3 := hA1.cells.2.2.2.1
  have a5 := hA1.cells.2.2.2.2.2.1
  have hltA := heap_lt hA1
  dsimp only at a3 a5
  clear k1 hb1 HW0 HA HR HK2 HLy HI hA1
  have HR6 := HR2
  have HB6 := HB2
  clear HR2 HB2 HA2 HI2
  go_upto_if 29 with fail
  generalize W1.alloc (.cells #[.slice (some ⟨b, off, none⟩) N cap, .int .i64 g1, .int .i64 g2, .int .i64 g3, .int .i64 g4, .int .i64 g5, .int .i64 g6, .int .i64 g7, .int .i64 g8, .int .i64 g9, .slice (some ⟨gb, 0, none⟩) N N] 58) = W2 at *
  obtain ⟨c0, c1, c2, c3, c4, c5, c6, c7, c8, c9⟩ := HR6.out.cells
  dsimp only at c0 c1 c2 c3 c4 c5 c6 c7 c8 c9
  have z0 := frozen_of_heap HR6.out 0
  have z1 := frozen_of_heap HR6.out 1
  have z2 := frozen_of_heap HR6.out 2
  have z3 := frozen_of_heap HR6.out 3
  have z4 := frozen_of_heap HR6.out 4
  have z5 := frozen_of_heap HR6.out 5
  have z6 := frozen_of_heap HR6.out 6
  have z7 := frozen_of_heap HR6.out 7
  have z8 := frozen_of_heap HR6.out 8
  have z9 := frozen_of_heap HR6.out 9
  go_wp2_with fail
  refine heap_use HR6.out (.slice none 0 0) ⟨0, 0, 0, 0, 0, 0, 0, 0, 0⟩ _ ?_
  intro W7 hL hb7 _ _
  obtain ⟨y0, y1, y2, y3, y4, y5, y6, y7, y8, y9⟩ := hL.cells
  dsimp only at y0 y1 y2 y3 y4 y5 y6 y7 y8 y9
  exact bodyPost_ret (v := .tuple #[noHeap, .slice none 0 0, .bool false]) (by simp [results, Try.results17, go_sem, y0, y1, y2, y3, y4, y5, y6, y7, y8, y9, noHeap, heapV]) rfl ⟨rfl, HB6.out.trans (hb7 _ (Nat.le_succ _))⟩

set_option maxHeartbeats 2000000 in
set_option maxRecDepth 100000 in
theorem iFlip_noRoot (b off cap N : Nat) (h : HpN) (rg n rc : Nat) (w : World)
    (ws S : List Int) (heq : (h.scan != h.bottom) = false)
    (HLy : Hid (∀ X, Below w.heap.size w X → Calls Try.prog 30 #[heapV (.slice (some ⟨b, off, none⟩) N cap) h] X fun e w' => ∃ gb, e = .returned (.tuple #[layV (.slice (some ⟨b, off, none⟩) N cap) h (.slice (some ⟨gb, 0, none⟩) N N), .bool true]) ∧ Hid (ISt b off gb N ws S w') ∧ Below X.heap.size X w'))
    (HRt : Hid (∀ (X : World) (gb : Nat), Below w.heap.size w X → ISt b off gb N ws S X → Calls Try.prog 31 #[layV (.slice (some ⟨b, off, none⟩) N cap) h (.slice (some ⟨gb, 0, none⟩) N N), .slice (some ⟨rg, 0, none⟩) n rc] X fun e w' => e = .returned (.bool false) ∧ Below X.heap.size X w')) :
    Calls Try.prog 17 #[heapV (.slice (some ⟨b, off, none⟩) N cap) h, .slice (some ⟨rg, 0, none⟩) n rc] w fun e w' => e = .returned (.tuple #[noHeap, .slice none 0 0, .bool false]) ∧ Below w.heap.size w w' := by
  obtain ⟨g1, g2, g3, g4, g5, g6, g7, g8, g9⟩ := h
  unfold heapV at *
  dsimp only at *
  obtain ⟨W0, hW0, hA, hR, k2⟩ := both_new w (.slice (some ⟨b, off, none⟩) N cap) ⟨g1, g2, g3, g4, g5, g6, g7, g8, g9⟩
  dsimp only at hW0
  have HW0 := hid hW0
  have HA := hid hA
  have HR := hid hR
  have HK2 := hid k2
  clear hW0 hA hR k2
  go_enter Try.func17, Try.ntmps17
  go_wp2_with fail
  rw [HW0.out]
  refine (HLy.out _ HK2.out).mono ?_
  rintro e W1 ⟨gb, rfl, HI, hb1⟩
  unfold layV at *
  dsimp only at *
  have k1 := HK2.out.trans (hb1.mono HK2.out.size)
  have HB2 := hid (k1.alloc k1.size (.cells #[.slice (some ⟨b, off, none⟩) N cap, .int .i64 g1, .int .i64 g2, .int .i64 g3, .int .i64 g4, .int .i64 g5, .int .i64 g6, .int .i64 g7, .int .i64 g8, .int .i64 g9, .slice (some ⟨gb, 0, none⟩) N N] 58))
  have HR2 := hid ((HR.out.below hb1).below ((Below.refl _ W1).alloc (Nat.le_refl _) (.cells #[.slice (some ⟨b, off, none⟩) N cap, .int .i64 g1, .int .i64 g2, .int .i64 g3, .int .i64 g4, .int .i64 g5, .int .i64 g6, .int .i64 g7, .int .i64 g8, .int .i64 g9, .slice (some ⟨gb, 0, none⟩) N N] 58)))
  have hA1 := HA.out.below hb1
  have HA2 := hid (hA1.below ((Below.refl _ W1).alloc (Nat.le_refl _) (.cells #[.slice (some ⟨b, off, none⟩) N cap, .int .i64 g1, .int .i64 g2, .int .i64 g3, .int .i64 g4, .int .i64 g5, .int .i64 g6, .int .i64 g7, .int .i64 g8, .int .i64 g9, .slice (some ⟨gb, 0, none⟩) N N] 58)))
  have HI2 := hid (HI.out.kept ((Below.refl _ W1).alloc (Nat.le_refl _) (.cells #[.slice (some ⟨b, off, none⟩) N cap, .int .i64 g1, .int .i64 g2, .int .i64 g3, .int .i64 g4, .int .i64 g5, .int .i64 g6, .int .i64 g7, .int .i64 g8, .int .i64 g9, .slice (some ⟨gb, 0, none⟩) N N] 58)))
  have a3 := hA1.cells.2.2.2.1
  have a5 := hA1.cells.2.2.2.2.2.1
  have hltA := heap_lt hA1
  dsimp only at a3 a5
  clear k1 hb1 HW0 HA HR HK2 HLy HI hA1
  go_wp2_with fail
  generalize W1.alloc (.cells #[.slice (some ⟨b, off, none⟩) N cap, .int .i64 g1, .int .i64 g2, .int .i64 g3, .int .i64 g4, .int .i64 g5, .int .i64 g6, .int .i64 g7, .int .i64 g8, .int .i64 g9, .slice (some ⟨gb, 0, none⟩) N N] 58) = W2 at *
  refine (HRt.out _ _ HB2.out HI2.out).mono ?_
  rintro e W6 ⟨rfl, hb6⟩
  have HB6 := hid (HB2.out.trans (hb6.mono HB2.out.size))
  have HR6 := hid (HR2.out.below hb6)
  have HA6 := hid (HA2.out.below hb6)
  clear a3 a5 hltA hb6 HB2 HR2 HA2 HI2
  obtain ⟨c0, c1, c2, c3, c4, c5, c6, c7, c8, c9⟩ := HR6.out.cells
  dsimp only at c0 c1 c2 c3 c4 c5 c6 c7 c8 c9
  have z0 := frozen_of_heap HR6.out 0
  have z1 := frozen_of_heap HR6.out 1
  have z2 := frozen_of_heap HR6.out 2
  have z3 := frozen_of_heap HR6.out 3
  have z4 := frozen_of_heap HR6.out 4
  have z5 := frozen_of_heap HR6.out 5
  have z6 := frozen_of_heap HR6.out 6
  have z7 := frozen_of_heap HR6.out 7
  have z8 := frozen_of_heap HR6.out 8
  have z9 := frozen_of_heap HR6.out 9
  go_wp2_with fail
  refine heap_use HR6.out (.slice none 0 0) ⟨0, 0, 0, 0, 0, 0, 0, 0, 0⟩ _ ?_
  intro W7 hL hb7 _ _
  obtain ⟨y0, y1, y2, y3, y4, y5, y6, y7, y8, y9⟩ := hL.cells
  dsimp only at y0 y1 y2 y3 y4 y5 y6 y7 y8 y9
  exact bodyPost_ret (v := .tuple #[noHeap, .slice none 0 0, .bool false]) (by simp [results, Try.results17, go_sem, y0, y1, y2, y3, y4, y5, y6, y7, y8, y9, noHeap, heapV]) rfl ⟨rfl, HB6.out.trans (hb7 _ (Nat.le_succ _))⟩

set_option maxHeartbeats 2000000 in
set_option maxRecDepth 100000 in
theorem iFlip_good (b off cap N : Nat) (h : HpN) (rg n rc : Nat) (w : World)
    (ws S xs : List Int) (heq : (h.scan != h.bottom) = false) (s0 : CN) (o : Option (List Int × CN))
    (HLy : Hid (∀ X, Below w.heap.size w X → Calls Try.prog 30 #[heapV (.slice (some ⟨b, off, none⟩) N cap) h] X fun e w' => ∃ gb, e = .returned (.tuple #[layV (.slice (some ⟨b, off, none⟩) N cap) h (.slice (some ⟨gb, 0, none⟩) N N), .bool true]) ∧ Hid (ISt b off gb N ws S w') ∧ Below X.heap.size X w'))
    (HRt : Hid (∀ (X : World) (gb : Nat), Below w.heap.size w X → ISt b off gb N ws S X → Calls Try.prog 31 #[layV (.slice (some ⟨b, off, none⟩) N cap) h (.slice (some ⟨gb, 0, none⟩) N N), .slice (some ⟨rg, 0, none⟩) n rc] X fun e w' => e = .returned (.bool true) ∧ Below X.heap.size X w'))
    (HOp : Hid (∀ X, Below w.heap.size w X → Calls Try.prog 42 #[heapV (.slice (some ⟨b, off, none⟩) N cap) h] X fun e w' => ∃ bc bw cap' : Nat, e = .returned (.pointer (some ⟨bc, 0, none⟩)) ∧ ColAt X bc bw N cap' s0 w' ∧ X.heap.size ≤ bc ∧ X.heap.size ≤ bw))
    (HCl : Hid (∀ X, Below w.heap.size w X → Calls Try.prog 43 #[.slice (some ⟨rg, 0, none⟩) n rc] X fun e w' => ∃ g c, e = .returned (.slice (some ⟨g, 0, none⟩) n c) ∧ Hid (CellRow 3 w' g n (intCells xs)) ∧ X.heap.size ≤ g ∧ Below X.heap.size X w'))
    (HCh : Hid (∀ (X w0 : World) (bc bw cap' g c : Nat), ColAt w0 bc bw N cap' s0 X → g ≠ bc → g ≠ bw → CellRow 3 X g n (intCells xs) → Calls Try.prog 48 #[.pointer (some ⟨bc, 0, none⟩), .slice (some ⟨g, 0, none⟩) n c] X (MovesPost X bc bw N cap' g n o)))
    (HTd : Hid (∀ (ys : List Int) (s1 : CN) (X w0 : World) (bc bw cap' : Nat), o = some (ys, s1) → ColAt w0 bc bw N cap' s1 X → Calls Try.prog 45 #[.pointer (some ⟨bc, 0, none⟩)] X fun e w' => e = .returned (heapV (.slice (some ⟨bw, 0, none⟩) N cap') { s1.h with touched := touchZ s1 }) ∧ Below X.heap.size X w')) :
    Calls Try.prog 17 #[heapV (.slice (some ⟨b, off, none⟩) N cap) h, .slice (some ⟨rg, 0, none⟩) n rc] w (FlipTold N n w o) := by
  obtain ⟨g1, g2, g3, g4, g5, g6, g7, g8, g9⟩ := h
  unfold heapV at *
  dsimp only at *
  obtain ⟨W0, hW0, hA, hR, k2⟩ := both_new w (.slice (some ⟨b, off, none⟩) N cap) ⟨g1, g2, g3, g4, g5, g6, g7, g8, g9⟩
  dsimp only at hW0
  have HW0 := hid hW0
  have HA := hid hA
  have HR := hid hR
  have HK2 := hid k2
  clear hW0 hA hR k2
  go_enter Try.func17, Try.ntmps17
  go_wp2_with fail
  rw [HW0.out]
  refine (HLy.out _ HK2.out).mono ?_
  rintro e W1 ⟨gb, rfl, HI, hb1⟩
  unfold layV at *
  dsimp only at *
  have k1 := HK2.out.trans (hb1.mono HK2.out.size)
  have HB2 := hid (k1.alloc k1.size (.cells #[.slice (some ⟨b, off, none⟩) N cap, .int .i64 g1, .int .i64 g2, .int .i64 g3, .int .i64 g4, .int .i64 g5, .int .i64 g6, .int .i64 g7, .int .i64 g8, .int .i64 g9, .slice (some ⟨gb, 0, none⟩) N N] 58))
  have HR2 := hid ((HR.out.below hb1).below ((Below.refl _ W1).alloc (Nat.le_refl _) (.cells #[.slice (some ⟨b, off, none⟩) N cap, .int .i64 g1, .int .i64 g2, .int .i64 g3, .int .i64 g4, .int .i64 g5, .int .i64 g6, .int .i64 g7, .int .i64 g8, .int .i64 g9, .slice (some ⟨gb, 0, none⟩) N N] 58)))
  have hA1 := HA.out.below hb1
  have HA2 := hid (hA1.below ((Below.refl _ W1).alloc (Nat.le_refl _) (.cells #[.slice (some ⟨b, off, none⟩) N cap, .int .i64 g1, .int .i64 g2, .int .i64 g3, .int .i64 g4, .int .i64 g5, .int .i64 g6, .int .i64 g7, .int .i64 g8, .int .i64 g9, .slice (some ⟨gb, 0, none⟩) N N] 58)))
  have HI2 := hid (HI.out.kept ((Below.refl _ W1).alloc (Nat.le_refl _) (.cells #[.slice (some ⟨b, off, none⟩) N cap, .int .i64 g1, .int .i64 g2, .int .i64 g3, .int .i64 g4, .int .i64 g5, .int .i64 g6, .int .i64 g7, .int .i64 g8, .int .i64 g9, .slice (some ⟨gb, 0, none⟩) N N] 58)))
  have a3 := hA1.cells.2.2.2.1
  have a5 := hA1.cells.2.2.2.2.2.1
  have hltA := heap_lt hA1
  dsimp only at a3 a5
  clear k1 hb1 HW0 HA HR HK2 HLy HI hA1
  go_wp2_with fail
  generalize W1.alloc (.cells #[.slice (some ⟨b, off, none⟩) N cap, .int .i64 g1, .int .i64 g2, .int .i64 g3, .int .i64 g4, .int .i64 g5, .int .i64 g6, .int .i64 g7, .int .i64 g8, .int .i64 g9, .slice (some ⟨gb, 0, none⟩) N N] 58) = W2 at *
  refine (HRt.out _ _ HB2.out HI2.out).mono ?_
  rintro e W6 ⟨rfl, hb6⟩
  have HB6 := hid (HB2.out.trans (hb6.mono HB2.out.size))
  have HR6 := hid (HR2.out.below hb6)
  have HA6 := hid (HA2.out.below hb6)
  clear a3 a5 hltA hb6 HB2 HR2 HA2 HI2
  obtain ⟨c0, c1, c2, c3, c4, c5, c6, c7, c8, c9⟩ := HA6.out.cells
  dsimp only at c0 c1 c2 c3 c4 c5 c6 c7 c8 c9
  go_wp2_with fail
  refine (HOp.out _ HB6.out).mono ?_
  rintro e W7 ⟨bc, bw, cap', rfl, hW7, hlo, hlo2⟩
  have HW7 := hid hW7
  have hlt6 := heap_lt HR6.out
  have HB7 := hid (HB6.out.trans ((Col.frame hW7).below hlo hlo2 |>.mono HB6.out.size))
  clear hW7 HOp HA6 c0 c1 c2 c3 c4 c5 c6 c7 c8 c9
  go_wp2_with fail
  refine (HCl.out _ HB7.out).mono ?_
  rintro e W8 ⟨g, gc, rfl, HRw, hg, hb8⟩
  have HW8 := hid (Col.keep HW7.out hb8)
  have hgc : g ≠ bc := by have := heap_lt (Col.blk HW7.out); omega
  have hgw : g ≠ bw := by have := CellRow.lt (Col.row HW7.out); omega
  have hg6 : W6.heap.size ≤ g := by have := (Col.frame HW7.out).size; omega
  have HCh' := hid (HCh.out _ _ _ _ _ _ gc HW8.out hgc hgw HRw.out)
  have HF8 := hid (Col.frame HW8.out)
  clear hb8 HCl HCh HW7 HW8 hg
  go_wp2_with fail
  refine HCh'.out.mono ?_
  intro e W9 hP
  have HP := hid hP
  clear hP HCh'
  have KB : Hid (∀ W9, Frm3 W8 bc bw g W9 → Below w.heap.size w W9 ∧ HeapBlk W9 (w.heap.size + 1) (.slice none 0 0) ⟨0, 0, 0, 0, 0, 0, 0, 0, 0⟩) := fun W9 hf => by
    obtain ⟨f1, f2, f3, f4, f5⟩ := hf
    have e1 : Below W6.heap.size W6 W9 := ⟨f1.trans HF8.out.os, f2.trans HF8.out.tape, f3.trans HF8.out.output, Nat.le_trans HF8.out.size f4, fun c hc => (f5 c (Nat.lt_of_lt_of_le hc HF8.out.size) (by omega) (by omega) (by omega)).trans (HF8.out.block c hc (by omega) (by omega))⟩
    exact ⟨HB6.out.trans (e1.mono HB6.out.size), HR6.out.below e1⟩
  cases o with
  | none =>
    obtain ⟨rfl, -, hf⟩ := HP.out
    have HB8 := hid (KB.out _ hf).1
    have HR8 := hid (KB.out _ hf).2
    clear hf HP KB HF8 HR6 HB6 HTd
    obtain ⟨c0, c1, c2, c3, c4, c5, c6, c7, c8, c9⟩ := HR8.out.cells
    dsimp only at c0 c1 c2 c3 c4 c5 c6 c7 c8 c9
    have z0 := frozen_of_heap HR8.out 0
    have z1 := frozen_of_heap HR8.out 1
    have z2 := frozen_of_heap HR8.out 2
    have z3 := frozen_of_heap HR8.out 3
    have z4 := frozen_of_heap HR8.out 4
    have z5 := frozen_of_heap HR8.out 5
    have z6 := frozen_of_heap HR8.out 6
    have z7 := frozen_of_heap HR8.out 7
    have z8 := frozen_of_heap HR8.out 8
    have z9 := frozen_of_heap HR8.out 9
    go_wp2_with fail
    refine heap_use HR8.out (.slice none 0 0) ⟨0, 0, 0, 0, 0, 0, 0, 0, 0⟩ _ ?_
    intro W10 hL hb7 _ _
    obtain ⟨y0, y1, y2, y3, y4, y5, y6, y7, y8, y9⟩ := hL.cells
    dsimp only at y0 y1 y2 y3 y4 y5 y6 y7 y8 y9
    exact bodyPost_ret (v := .tuple #[noHeap, .slice none 0 0, .bool false]) (by simp [results, Try.results17, go_sem, y0, y1, y2, y3, y4, y5, y6, y7, y8, y9, noHeap, heapV]) rfl ⟨rfl, HB8.out.trans (hb7 _ (Nat.le_succ _))⟩
  | some p =>
    obtain ⟨ys, s1⟩ := p
    obtain ⟨rfl, hc9, hr9, hf9⟩ := HP.out
    have HW9 := hid hc9
    have HRy := hid hr9
    have HF9 := hid hf9
    have HTd' := hid (HTd.out ys s1 W9 W9 bc bw cap' rfl HW9.out)
    clear hc9 hr9 hf9 HP HTd
    obtain ⟨i9, hi9⟩ : ∃ i9, touchZ s1 = i9 := ⟨_, rfl⟩
    have HI9 := hid hi9
    rw [hi9] at HTd'
    clear hi9
    go_wp2_with fail
    refine HTd'.out.mono ?_
    rintro e W10 ⟨rfl, hb10⟩
    have HW10 := hid (Col.keep HW9.out hb10)
    have HRy10 := hid (HRy.out.of_block (hb10.block g HRy.out.lt))
    have HB10 := hid ((KB.out _ HF9.out).1.trans (hb10.mono (KB.out _ HF9.out).1.size))
    have HR10 := hid ((KB.out _ HF9.out).2.below hb10)
    obtain ⟨c0, c1, c2, c3, c4, c5, c6, c7, c8, c9⟩ := HR10.out.cells
    dsimp only at c0 c1 c2 c3 c4 c5 c6 c7 c8 c9
    have z0 := frozen_of_heap HR10.out 0
    have z1 := frozen_of_heap HR10.out 1
    have z2 := frozen_of_heap HR10.out 2
    have z3 := frozen_of_heap HR10.out 3
    have z4 := frozen_of_heap HR10.out 4
    have z5 := frozen_of_heap HR10.out 5
    have z6 := frozen_of_heap HR10.out 6
    have z7 := frozen_of_heap HR10.out 7
    have z8 := frozen_of_heap HR10.out 8
    have z9 := frozen_of_heap HR10.out 9
    have hsz6 := HB6.out.size
    clear hb10 HTd' HW9 HRy HF9 KB HF8 HR6 HB6
    go_wp2_with fail
    refine heap_use HR10.out (.slice (some ⟨bw, 0, none⟩) N cap') ⟨s1.h.size, s1.h.to, s1.h.bottom, s1.h.top, s1.h.scan, s1.h.fb, s1.h.ft, s1.h.flips, i9⟩ _ ?_
    intro W11 hL hb11 _ hoth
    obtain ⟨y0, y1, y2, y3, y4, y5, y6, y7, y8, y9⟩ := hL.cells
    dsimp only at y0 y1 y2 y3 y4 y5 y6 y7 y8 y9
    refine bodyPost_ret (v := .tuple #[heapV (.slice (some ⟨bw, 0, none⟩) N cap') ⟨s1.h.size, s1.h.to, s1.h.bottom, s1.h.top, s1.h.scan, s1.h.fb, s1.h.ft, s1.h.flips, i9⟩, .slice (some ⟨g, 0, none⟩) n gc, .bool true]) (by simp [results, Try.results17, go_sem, y0, y1, y2, y3, y4, y5, y6, y7, y8, y9, heapV]) rfl ?_
    exact ⟨bw, cap', g, gc, by rw [HI9.out], HW10.out.row.of_block (hoth _ (by omega)), HRy10.out.of_block (hoth _ (by omega)), hgw, by omega, by omega, HB10.out.trans (hb11 _ (Nat.le_succ _))⟩

end Go.Proofs.Ytebpgglegnljgaa

/- The program's change of spaces, told with the room of its words. -/
namespace Go.Proofs.Ytebpgglegnljgaa
open Go.RowKit

/-- A heap, its words with room, and a list are told. -/
def FlipToldC (N n : Nat) (w : World) (o : Option (List Int × CN)) (e : Ending) (w' : World) : Prop :=
  match o with
  | some (ys, s) => ∃ bw cap' g c : Nat, e = .returned (.tuple #[heapV (.slice (some ⟨bw, 0, none⟩) N cap') { s.h with touched := touchZ s }, .slice (some ⟨g, 0, none⟩) n c, .bool true]) ∧ CellRow 3 w' bw N (intCells s.ws) ∧ CellRow 3 w' g n (intCells ys) ∧ g ≠ bw ∧ w.heap.size ≤ bw ∧ w.heap.size ≤ g ∧ Below w.heap.size w w' ∧ N ≤ cap'
  | none => e = .returned (.tuple #[noHeap, .slice none 0 0, .bool false]) ∧ Below w.heap.size w w'

set_option maxHeartbeats 2000000 in
set_option maxRecDepth 100000 in
theorem iFlip_goodC (b off cap N : Nat) (h : HpN) (rg n rc : Nat) (w : World)
    (ws S xs : List Int) (heq : (h.scan != h.bottom) = false) (s0 : CN) (o : Option (List Int × CN))
    (HLy : Hid (∀ X, Below w.heap.size w X → Calls Try.prog 30 #[heapV (.slice (some ⟨b, off, none⟩) N cap) h] X fun e w' => ∃ gb, e = .returned (.tuple #[layV (.slice (some ⟨b, off, none⟩) N cap) h (.slice (some ⟨gb, 0, none⟩) N N), .bool true]) ∧ Hid (ISt b off gb N ws S w') ∧ Below X.heap.size X w'))
    (HRt : Hid (∀ (X : World) (gb : Nat), Below w.heap.size w X → ISt b off gb N ws S X → Calls Try.prog 31 #[layV (.slice (some ⟨b, off, none⟩) N cap) h (.slice (some ⟨gb, 0, none⟩) N N), .slice (some ⟨rg, 0, none⟩) n rc] X fun e w' => e = .returned (.bool true) ∧ Below X.heap.size X w'))
    (HOp : Hid (∀ X, Below w.heap.size w X → Calls Try.prog 42 #[heapV (.slice (some ⟨b, off, none⟩) N cap) h] X fun e w' => ∃ bc bw cap' : Nat, e = .returned (.pointer (some ⟨bc, 0, none⟩)) ∧ (ColAt X bc bw N cap' s0 w' ∧ N ≤ cap') ∧ X.heap.size ≤ bc ∧ X.heap.size ≤ bw))
    (HCl : Hid (∀ X, Below w.heap.size w X → Calls Try.prog 43 #[.slice (some ⟨rg, 0, none⟩) n rc] X fun e w' => ∃ g c, e = .returned (.slice (some ⟨g, 0, none⟩) n c) ∧ Hid (CellRow 3 w' g n (intCells xs)) ∧ X.heap.size ≤ g ∧ Below X.heap.size X w'))
    (HCh : Hid (∀ (X w0 : World) (bc bw cap' g c : Nat), ColAt w0 bc bw N cap' s0 X → g ≠ bc → g ≠ bw → CellRow 3 X g n (intCells xs) → Calls Try.prog 48 #[.pointer (some ⟨bc, 0, none⟩), .slice (some ⟨g, 0, none⟩) n c] X (MovesPost X bc bw N cap' g n o)))
    (HTd : Hid (∀ (ys : List Int) (s1 : CN) (X w0 : World) (bc bw cap' : Nat), o = some (ys, s1) → ColAt w0 bc bw N cap' s1 X → Calls Try.prog 45 #[.pointer (some ⟨bc, 0, none⟩)] X fun e w' => e = .returned (heapV (.slice (some ⟨bw, 0, none⟩) N cap') { s1.h with touched := touchZ s1 }) ∧ Below X.heap.size X w')) :
    Calls Try.prog 17 #[heapV (.slice (some ⟨b, off, none⟩) N cap) h, .slice (some ⟨rg, 0, none⟩) n rc] w (FlipToldC N n w o) := by
  obtain ⟨g1, g2, g3, g4, g5, g6, g7, g8, g9⟩ := h
  unfold heapV at *
  dsimp only at *
  obtain ⟨W0, hW0, hA, hR, k2⟩ := both_new w (.slice (some ⟨b, off, none⟩) N cap) ⟨g1, g2, g3, g4, g5, g6, g7, g8, g9⟩
  dsimp only at hW0
  have HW0 := hid hW0
  have HA := hid hA
  have HR := hid hR
  have HK2 := hid k2
  clear hW0 hA hR k2
  go_enter Try.func17, Try.ntmps17
  go_wp2_with fail
  rw [HW0.out]
  refine (HLy.out _ HK2.out).mono ?_
  rintro e W1 ⟨gb, rfl, HI, hb1⟩
  unfold layV at *
  dsimp only at *
  have k1 := HK2.out.trans (hb1.mono HK2.out.size)
  have HB2 := hid (k1.alloc k1.size (.cells #[.slice (some ⟨b, off, none⟩) N cap, .int .i64 g1, .int .i64 g2, .int .i64 g3, .int .i64 g4, .int .i64 g5, .int .i64 g6, .int .i64 g7, .int .i64 g8, .int .i64 g9, .slice (some ⟨gb, 0, none⟩) N N] 58))
  have HR2 := hid ((HR.out.below hb1).below ((Below.refl _ W1).alloc (Nat.le_refl _) (.cells #[.slice (some ⟨b, off, none⟩) N cap, .int .i64 g1, .int .i64 g2, .int .i64 g3, .int .i64 g4, .int .i64 g5, .int .i64 g6, .int .i64 g7, .int .i64 g8, .int .i64 g9, .slice (some ⟨gb, 0, none⟩) N N] 58)))
  have hA1 := HA.out.below hb1
  have HA2 := hid (hA1.below ((Below.refl _ W1).alloc (Nat.le_refl _) (.cells #[.slice (some ⟨b, off, none⟩) N cap, .int .i64 g1, .int .i64 g2, .int .i64 g3, .int .i64 g4, .int .i64 g5, .int .i64 g6, .int .i64 g7, .int .i64 g8, .int .i64 g9, .slice (some ⟨gb, 0, none⟩) N N] 58)))
  have HI2 := hid (HI.out.kept ((Below.refl _ W1).alloc (Nat.le_refl _) (.cells #[.slice (some ⟨b, off, none⟩) N cap, .int .i64 g1, .int .i64 g2, .int .i64 g3, .int .i64 g4, .int .i64 g5, .int .i64 g6, .int .i64 g7, .int .i64 g8, .int .i64 g9, .slice (some ⟨gb, 0, none⟩) N N] 58)))
  have a3 := hA1.cells.2.2.2.1
  have a5 := hA1.cells.2.2.2.2.2.1
  have hltA := heap_lt hA1
  dsimp only at a3 a5
  clear k1 hb1 HW0 HA HR HK2 HLy HI hA1
  go_wp2_with fail
  generalize W1.alloc (.cells #[.slice (some ⟨b, off, none⟩) N cap, .int .i64 g1, .int .i64 g2, .int .i64 g3, .int .i64 g4, .int .i64 g5, .int .i64 g6, .int .i64 g7, .int .i64 g8, .int .i64 g9, .slice (some ⟨gb, 0, none⟩) N N] 58) = W2 at *
  refine (HRt.out _ _ HB2.out HI2.out).mono ?_
  rintro e W6 ⟨rfl, hb6⟩
  have HB6 := hid (HB2.out.trans (hb6.mono HB2.out.size))
  have HR6 := hid (HR2.out.below hb6)
  have HA6 := hid (HA2.out.below hb6)
  clear a3 a5 hltA hb6 HB2 HR2 HA2 HI2
  obtain ⟨c0, c1, c2, c3, c4, c5, c6, c7, c8, c9⟩ := HA6.out.cells
  dsimp only at c0 c1 c2 c3 c4 c5 c6 c7 c8 c9
  go_wp2_with fail
  refine (HOp.out _ HB6.out).mono ?_
  rintro e W7 ⟨bc, bw, cap', rfl, ⟨hW7, hcpC⟩, hlo, hlo2⟩
  have HCpC := hid hcpC
  clear hcpC
  have HW7 := hid hW7
  have hlt6 := heap_lt HR6.out
  have HB7 := hid (HB6.out.trans ((Col.frame hW7).below hlo hlo2 |>.mono HB6.out.size))
  clear hW7 HOp HA6 c0 c1 c2 c3 c4 c5 c6 c7 c8 c9
  go_wp2_with fail
  refine (HCl.out _ HB7.out).mono ?_
  rintro e W8 ⟨g, gc, rfl, HRw, hg, hb8⟩
  have HW8 := hid (Col.keep HW7.out hb8)
  have hgc : g ≠ bc := by have := heap_lt (Col.blk HW7.out); omega
  have hgw : g ≠ bw := by have := CellRow.lt (Col.row HW7.out); omega
  have hg6 : W6.heap.size ≤ g := by have := (Col.frame HW7.out).size; omega
  have HCh' := hid (HCh.out _ _ _ _ _ _ gc HW8.out hgc hgw HRw.out)
  have HF8 := hid (Col.frame HW8.out)
  clear hb8 HCl HCh HW7 HW8 hg
  go_wp2_with fail
  refine HCh'.out.mono ?_
  intro e W9 hP
  have HP := hid hP
  clear hP HCh'
  have KB : Hid (∀ W9, Frm3 W8 bc bw g W9 → Below w.heap.size w W9 ∧ HeapBlk W9 (w.heap.size + 1) (.slice none 0 0) ⟨0, 0, 0, 0, 0, 0, 0, 0, 0⟩) := fun W9 hf => by
    obtain ⟨f1, f2, f3, f4, f5⟩ := hf
    have e1 : Below W6.heap.size W6 W9 := ⟨f1.trans HF8.out.os, f2.trans HF8.out.tape, f3.trans HF8.out.output, Nat.le_trans HF8.out.size f4, fun c hc => (f5 c (Nat.lt_of_lt_of_le hc HF8.out.size) (by omega) (by omega) (by omega)).trans (HF8.out.block c hc (by omega) (by omega))⟩
    exact ⟨HB6.out.trans (e1.mono HB6.out.size), HR6.out.below e1⟩
  cases o with
  | none =>
    obtain ⟨rfl, -, hf⟩ := HP.out
    have HB8 := hid (KB.out _ hf).1
    have HR8 := hid (KB.out _ hf).2
    clear hf HP KB HF8 HR6 HB6 HTd
    obtain ⟨c0, c1, c2, c3, c4, c5, c6, c7, c8, c9⟩ := HR8.out.cells
    dsimp only at c0 c1 c2 c3 c4 c5 c6 c7 c8 c9
    have z0 := frozen_of_heap HR8.out 0
    have z1 := frozen_of_heap HR8.out 1
    have z2 := frozen_of_heap HR8.out 2
    have z3 := frozen_of_heap HR8.out 3
    have z4 := frozen_of_heap HR8.out 4
    have z5 := frozen_of_heap HR8.out 5
    have z6 := frozen_of_heap HR8.out 6
    have z7 := frozen_of_heap HR8.out 7
    have z8 := frozen_of_heap HR8.out 8
    have z9 := frozen_of_heap HR8.out 9
    go_wp2_with fail
    refine heap_use HR8.out (.slice none 0 0) ⟨0, 0, 0, 0, 0, 0, 0, 0, 0⟩ _ ?_
    intro W10 hL hb7 _ _
    obtain ⟨y0, y1, y2, y3, y4, y5, y6, y7, y8, y9⟩ := hL.cells
    dsimp only at y0 y1 y2 y3 y4 y5 y6 y7 y8 y9
    exact bodyPost_ret (v := .tuple #[noHeap, .slice none 0 0, .bool false]) (by simp [results, Try.results17, go_sem, y0, y1, y2, y3, y4, y5, y6, y7, y8, y9, noHeap, heapV]) rfl ⟨rfl, HB8.out.trans (hb7 _ (Nat.le_succ _))⟩
  | some p =>
    obtain ⟨ys, s1⟩ := p
    obtain ⟨rfl, hc9, hr9, hf9⟩ := HP.out
    have HW9 := hid hc9
    have HRy := hid hr9
    have HF9 := hid hf9
    have HTd' := hid (HTd.out ys s1 W9 W9 bc bw cap' rfl HW9.out)
    clear hc9 hr9 hf9 HP HTd
    obtain ⟨i9, hi9⟩ : ∃ i9, touchZ s1 = i9 := ⟨_, rfl⟩
    have HI9 := hid hi9
    rw [hi9] at HTd'
    clear hi9
    go_wp2_with fail
    refine HTd'.out.mono ?_
    rintro e W10 ⟨rfl, hb10⟩
    have HW10 := hid (Col.keep HW9.out hb10)
    have HRy10 := hid (HRy.out.of_block (hb10.block g HRy.out.lt))
    have HB10 := hid ((KB.out _ HF9.out).1.trans (hb10.mono (KB.out _ HF9.out).1.size))
    have HR10 := hid ((KB.out _ HF9.out).2.below hb10)
    obtain ⟨c0, c1, c2, c3, c4, c5, c6, c7, c8, c9⟩ := HR10.out.cells
    dsimp only at c0 c1 c2 c3 c4 c5 c6 c7 c8 c9
    have z0 := frozen_of_heap HR10.out 0
    have z1 := frozen_of_heap HR10.out 1
    have z2 := frozen_of_heap HR10.out 2
    have z3 := frozen_of_heap HR10.out 3
    have z4 := frozen_of_heap HR10.out 4
    have z5 := frozen_of_heap HR10.out 5
    have z6 := frozen_of_heap HR10.out 6
    have z7 := frozen_of_heap HR10.out 7
    have z8 := frozen_of_heap HR10.out 8
    have z9 := frozen_of_heap HR10.out 9
    have hsz6 := HB6.out.size
    clear hb10 HTd' HW9 HRy HF9 KB HF8 HR6 HB6
    go_wp2_with fail
    refine heap_use HR10.out (.slice (some ⟨bw, 0, none⟩) N cap') ⟨s1.h.size, s1.h.to, s1.h.bottom, s1.h.top, s1.h.scan, s1.h.fb, s1.h.ft, s1.h.flips, i9⟩ _ ?_
    intro W11 hL hb11 _ hoth
    obtain ⟨y0, y1, y2, y3, y4, y5, y6, y7, y8, y9⟩ := hL.cells
    dsimp only at y0 y1 y2 y3 y4 y5 y6 y7 y8 y9
    refine bodyPost_ret (v := .tuple #[heapV (.slice (some ⟨bw, 0, none⟩) N cap') ⟨s1.h.size, s1.h.to, s1.h.bottom, s1.h.top, s1.h.scan, s1.h.fb, s1.h.ft, s1.h.flips, i9⟩, .slice (some ⟨g, 0, none⟩) n gc, .bool true]) (by simp [results, Try.results17, go_sem, y0, y1, y2, y3, y4, y5, y6, y7, y8, y9, heapV]) rfl ?_
    exact ⟨bw, cap', g, gc, by rw [HI9.out], HW10.out.row.of_block (hoth _ (by omega)), HRy10.out.of_block (hoth _ (by omega)), hgw, by omega, by omega, HB10.out.trans (hb11 _ (Nat.le_succ _)), HCpC.out⟩
end Go.Proofs.Ytebpgglegnljgaa

/- The specification's HeapFlip. -/
namespace Go.Proofs.Ytebpgglegnljgaa
open Go.RowKit

set_option maxHeartbeats 4000000 in
set_option maxRecDepth 100000 in
theorem sFlip_notOk (b off cap N : Nat) (h : HpN) (rg n rc : Nat) (w : World)
    (HOk : Hid (∀ X, Below w.heap.size w X → Calls Try.prog 35 #[heapV (.slice (some ⟨b, off, none⟩) N cap) h] X fun e w' => e = .returned (.bool false) ∧ Below X.heap.size X w')) :
    Calls Try.prog 18 #[heapV (.slice (some ⟨b, off, none⟩) N cap) h, .slice (some ⟨rg, 0, none⟩) n rc] w fun e w' => e = .returned (.tuple #[noHeap, .slice none 0 0, .bool false]) ∧ Below w.heap.size w w' := by
  obtain ⟨g1, g2, g3, g4, g5, g6, g7, g8, g9⟩ := h
  unfold heapV at *
  dsimp only at *
  obtain ⟨W0, hW0, hA, hR, k2⟩ := both_new w (.slice (some ⟨b, off, none⟩) N cap) ⟨g1, g2, g3, g4, g5, g6, g7, g8, g9⟩
  dsimp only at hW0
  have HW0 := hid hW0
  have HA := hid hA
  have HR := hid hR
  have HK2 := hid k2
  clear hW0 hA hR k2
  go_enter Try.func18, Try.ntmps18
  go_wp2_with fail
  rw [HW0.out]
  refine (HOk.out _ HK2.out).mono ?_
  rintro e W6 ⟨rfl, hb6⟩
  have HB6 := hid (HK2.out.trans (hb6.mono HK2.out.size))
  have HR6 := hid (HR.out.below hb6)
  have HA6 := hid (HA.out.below hb6)
  clear hb6 HW0 HA HR HK2 HOk
  obtain ⟨a0, a1, a2, a3, a4, a5, a6, a7, a8, a9⟩ := HA6.out.cells
  dsimp only at a0 a1 a2 a3 a4 a5 a6 a7 a8 a9
  obtain ⟨c0, c1, c2, c3, c4, c5, c6, c7, c8, c9⟩ := HR6.out.cells
  dsimp only at c0 c1 c2 c3 c4 c5 c6 c7 c8 c9
  have z0 := frozen_of_heap HR6.out 0
  have z1 := frozen_of_heap HR6.out 1
  have z2 := frozen_of_heap HR6.out 2
  have z3 := frozen_of_heap HR6.out 3
  have z4 := frozen_of_heap HR6.out 4
  have z5 := frozen_of_heap HR6.out 5
  have z6 := frozen_of_heap HR6.out 6
  have z7 := frozen_of_heap HR6.out 7
  have z8 := frozen_of_heap HR6.out 8
  have z9 := frozen_of_heap HR6.out 9
  go_wp2_with fail
  refine heap_use HR6.out (.slice none 0 0) ⟨0, 0, 0, 0, 0, 0, 0, 0, 0⟩ _ ?_
  intro W7 hL hb7 _ _
  obtain ⟨y0, y1, y2, y3, y4, y5, y6, y7, y8, y9⟩ := hL.cells
  dsimp only at y0 y1 y2 y3 y4 y5 y6 y7 y8 y9
  exact bodyPost_ret (v := .tuple #[noHeap, .slice none 0 0, .bool false]) (by simp [results, Try.results18, go_sem, y0, y1, y2, y3, y4, y5, y6, y7, y8, y9, noHeap, heapV]) rfl ⟨rfl, HB6.out.trans (hb7 _ (Nat.le_succ _))⟩

set_option maxHeartbeats 4000000 in
set_option maxRecDepth 100000 in
theorem sFlip_scan (b off cap N : Nat) (h : HpN) (rg n rc : Nat) (w : World)
    (hne : (h.scan != h.bottom) = true)
    (HOk : Hid (∀ X, Below w.heap.size w X → Calls Try.prog 35 #[heapV (.slice (some ⟨b, off, none⟩) N cap) h] X fun e w' => e = .returned (.bool true) ∧ Below X.heap.size X w')) :
    Calls Try.prog 18 #[heapV (.slice (some ⟨b, off, none⟩) N cap) h, .slice (some ⟨rg, 0, none⟩) n rc] w fun e w' => e = .returned (.tuple #[noHeap, .slice none 0 0, .bool false]) ∧ Below w.heap.size w w' := by
  obtain ⟨g1, g2, g3, g4, g5, g6, g7, g8, g9⟩ := h
  unfold heapV at *
  dsimp only at *
  obtain ⟨W0, hW0, hA, hR, k2⟩ := both_new w (.slice (some ⟨b, off, none⟩) N cap) ⟨g1, g2, g3, g4, g5, g6, g7, g8, g9⟩
  dsimp only at hW0
  have HW0 := hid hW0
  have HA := hid hA
  have HR := hid hR
  have HK2 := hid k2
  clear hW0 hA hR k2
  go_enter Try.func18, Try.ntmps18
  go_wp2_with fail
  rw [HW0.out]
  refine (HOk.out _ HK2.out).mono ?_
  rintro e W6 ⟨rfl, hb6⟩
  have HB6 := hid (HK2.out.trans (hb6.mono HK2.out.size))
  have HR6 := hid (HR.out.below hb6)
  have HA6 := hid (HA.out.below hb6)
  clear hb6 HW0 HA HR HK2 HOk
  obtain ⟨a0, a1, a2, a3, a4, a5, a6, a7, a8, a9⟩ := HA6.out.cells
  dsimp only at a0 a1 a2 a3 a4 a5 a6 a7 a8 a9
  obtain ⟨c0, c1, c2, c3, c4, c5, c6, c7, c8, c9⟩ := HR6.out.cells
  dsimp only at c0 c1 c2 c3 c4 c5 c6 c7 c8 c9
  have z0 := frozen_of_heap HR6.out 0
  have z1 := frozen_of_heap HR6.out 1
  have z2 := frozen_of_heap HR6.out 2
  have z3 := frozen_of_heap HR6.out 3
  have z4 := frozen_of_heap HR6.out 4
  have z5 := frozen_of_heap HR6.out 5
  have z6 := frozen_of_heap HR6.out 6
  have z7 := frozen_of_heap HR6.out 7
  have z8 := frozen_of_heap HR6.out 8
  have z9 := frozen_of_heap HR6.out 9
  go_wp2_with fail
  refine heap_use HR6.out (.slice none 0 0) ⟨0, 0, 0, 0, 0, 0, 0, 0, 0⟩ _ ?_
  intro W7 hL hb7 _ _
  obtain ⟨y0, y1, y2, y3, y4, y5, y6, y7, y8, y9⟩ := hL.cells
  dsimp only at y0 y1 y2 y3 y4 y5 y6 y7 y8 y9
  exact bodyPost_ret (v := .tuple #[noHeap, .slice none 0 0, .bool false]) (by simp [results, Try.results18, go_sem, y0, y1, y2, y3, y4, y5, y6, y7, y8, y9, noHeap, heapV]) rfl ⟨rfl, HB6.out.trans (hb7 _ (Nat.le_succ _))⟩

set_option maxHeartbeats 4000000 in
set_option maxRecDepth 100000 in
theorem sFlip_many (b off cap N : Nat) (h : HpN) (rg n rc : Nat) (w : World)
    (heq : (h.scan != h.bottom) = false) (hn : (20 : Int) < (n : Int))
    (HOk : Hid (∀ X, Below w.heap.size w X → Calls Try.prog 35 #[heapV (.slice (some ⟨b, off, none⟩) N cap) h] X fun e w' => e = .returned (.bool true) ∧ Below X.heap.size X w')) :
    Calls Try.prog 18 #[heapV (.slice (some ⟨b, off, none⟩) N cap) h, .slice (some ⟨rg, 0, none⟩) n rc] w fun e w' => e = .returned (.tuple #[noHeap, .slice none 0 0, .bool false]) ∧ Below w.heap.size w w' := by
  obtain ⟨g1, g2, g3, g4, g5, g6, g7, g8, g9⟩ := h
  unfold heapV at *
  dsimp only at *
  obtain ⟨W0, hW0, hA, hR, k2⟩ := both_new w (.slice (some ⟨b, off, none⟩) N cap) ⟨g1, g2, g3, g4, g5, g6, g7, g8, g9⟩
  dsimp only at hW0
  have HW0 := hid hW0
  have HA := hid hA
  have HR := hid hR
  have HK2 := hid k2
  clear hW0 hA hR k2
  go_enter Try.func18, Try.ntmps18
  go_wp2_with fail
  rw [HW0.out]
  refine (HOk.out _ HK2.out).mono ?_
  rintro e W6 ⟨rfl, hb6⟩
  have HB6 := hid (HK2.out.trans (hb6.mono HK2.out.size))
  have HR6 := hid (HR.out.below hb6)
  have HA6 := hid (HA.out.below hb6)
  clear hb6 HW0 HA HR HK2 HOk
  obtain ⟨a0, a1, a2, a3, a4, a5, a6, a7, a8, a9⟩ := HA6.out.cells
  dsimp only at a0 a1 a2 a3 a4 a5 a6 a7 a8 a9
  obtain ⟨c0, c1, c2, c3, c4, c5, c6, c7, c8, c9⟩ := HR6.out.cells
  dsimp only at c0 c1 c2 c3 c4 c5 c6 c7 c8 c9
  have z0 := frozen_of_heap HR6.out 0
  have z1 := frozen_of_heap HR6.out 1
  have z2 := frozen_of_heap HR6.out 2
  have z3 := frozen_of_heap HR6.out 3
  have z4 := frozen_of_heap HR6.out 4
  have z5 := frozen_of_heap HR6.out 5
  have z6 := frozen_of_heap HR6.out 6
  have z7 := frozen_of_heap HR6.out 7
  have z8 := frozen_of_heap HR6.out 8
  have z9 := frozen_of_heap HR6.out 9
  go_wp2_with fail
  refine heap_use HR6.out (.slice none 0 0) ⟨0, 0, 0, 0, 0, 0, 0, 0, 0⟩ _ ?_
  intro W7 hL hb7 _ _
  obtain ⟨y0, y1, y2, y3, y4, y5, y6, y7, y8, y9⟩ := hL.cells
  dsimp only at y0 y1 y2 y3 y4 y5 y6 y7 y8 y9
  exact bodyPost_ret (v := .tuple #[noHeap, .slice none 0 0, .bool false]) (by simp [results, Try.results18, go_sem, y0, y1, y2, y3, y4, y5, y6, y7, y8, y9, noHeap, heapV]) rfl ⟨rfl, HB6.out.trans (hb7 _ (Nat.le_succ _))⟩

set_option maxHeartbeats 4000000 in
set_option maxRecDepth 100000 in
theorem sFlip_noRoot (b off cap N : Nat) (h : HpN) (rg n rc : Nat) (w : World)
    (heq : (h.scan != h.bottom) = false) (hn : ¬ (20 : Int) < (n : Int))
    (HOk : Hid (∀ X, Below w.heap.size w X → Calls Try.prog 35 #[heapV (.slice (some ⟨b, off, none⟩) N cap) h] X fun e w' => e = .returned (.bool true) ∧ Below X.heap.size X w'))
    (HRt : Hid (∀ X, Below w.heap.size w X → Calls Try.prog 36 #[heapV (.slice (some ⟨b, off, none⟩) N cap) h, .slice (some ⟨rg, 0, none⟩) n rc] X fun e w' => e = .returned (.bool false) ∧ Below X.heap.size X w')) :
    Calls Try.prog 18 #[heapV (.slice (some ⟨b, off, none⟩) N cap) h, .slice (some ⟨rg, 0, none⟩) n rc] w fun e w' => e = .returned (.tuple #[noHeap, .slice none 0 0, .bool false]) ∧ Below w.heap.size w w' := by
  obtain ⟨g1, g2, g3, g4, g5, g6, g7, g8, g9⟩ := h
  unfold heapV at *
  dsimp only at *
  obtain ⟨W0, hW0, hA, hR, k2⟩ := both_new w (.slice (some ⟨b, off, none⟩) N cap) ⟨g1, g2, g3, g4, g5, g6, g7, g8, g9⟩
  dsimp only at hW0
  have HW0 := hid hW0
  have HA := hid hA
  have HR := hid hR
  have HK2 := hid k2
  clear hW0 hA hR k2
  go_enter Try.func18, Try.ntmps18
  go_wp2_with fail
  rw [HW0.out]
  refine (HOk.out _ HK2.out).mono ?_
  rintro e W6 ⟨rfl, hb6⟩
  have HB6 := hid (HK2.out.trans (hb6.mono HK2.out.size))
  have HR6 := hid (HR.out.below hb6)
  have HA6 := hid (HA.out.below hb6)
  clear hb6 HW0 HA HR HK2 HOk
  obtain ⟨a0, a1, a2, a3, a4, a5, a6, a7, a8, a9⟩ := HA6.out.cells
  dsimp only at a0 a1 a2 a3 a4 a5 a6 a7 a8 a9
  go_wp2_with fail
  refine (HRt.out _ HB6.out).mono ?_
  rintro e W7 ⟨rfl, hb7⟩
  have HB7 := hid (HB6.out.trans (hb7.mono HB6.out.size))
  have HR7 := hid (HR6.out.below hb7)
  have HA7 := hid (HA6.out.below hb7)
  clear hb7 HB6 HR6 HA6 HRt a0 a1 a2 a3 a4 a5 a6 a7 a8 a9
  obtain ⟨c0, c1, c2, c3, c4, c5, c6, c7, c8, c9⟩ := HR7.out.cells
  dsimp only at c0 c1 c2 c3 c4 c5 c6 c7 c8 c9
  have z0 := frozen_of_heap HR7.out 0
  have z1 := frozen_of_heap HR7.out 1
  have z2 := frozen_of_heap HR7.out 2
  have z3 := frozen_of_heap HR7.out 3
  have z4 := frozen_of_heap HR7.out 4
  have z5 := frozen_of_heap HR7.out 5
  have z6 := frozen_of_heap HR7.out 6
  have z7 := frozen_of_heap HR7.out 7
  have z8 := frozen_of_heap HR7.out 8
  have z9 := frozen_of_heap HR7.out 9
  go_wp2_with fail
  refine heap_use HR7.out (.slice none 0 0) ⟨0, 0, 0, 0, 0, 0, 0, 0, 0⟩ _ ?_
  intro W8 hL hb8 _ _
  obtain ⟨y0, y1, y2, y3, y4, y5, y6, y7, y8, y9⟩ := hL.cells
  dsimp only at y0 y1 y2 y3 y4 y5 y6 y7 y8 y9
  exact bodyPost_ret (v := .tuple #[noHeap, .slice none 0 0, .bool false]) (by simp [results, Try.results18, go_sem, y0, y1, y2, y3, y4, y5, y6, y7, y8, y9, noHeap, heapV]) rfl ⟨rfl, HB7.out.trans (hb8 _ (Nat.le_succ _))⟩

set_option maxHeartbeats 4000000 in
set_option maxRecDepth 100000 in
theorem sFlip_good (b off cap N : Nat) (h : HpN) (rg n rc : Nat) (w : World)
    (heq : (h.scan != h.bottom) = false) (hn : ¬ (20 : Int) < (n : Int)) (xs : List Int) (hl : xs.length = n) (hrg : 0 < n → rg < w.heap.size) (Hxs : Hid (∀ k, k < n → w.cell? ⟨rg, k, none⟩ = some (.int .i64 (xs.getD k 0)))) (s0 : CN) (o : Option (List Int × CN))
    (HOk : Hid (∀ X, Below w.heap.size w X → Calls Try.prog 35 #[heapV (.slice (some ⟨b, off, none⟩) N cap) h] X fun e w' => e = .returned (.bool true) ∧ Below X.heap.size X w'))
    (HRt : Hid (∀ X, Below w.heap.size w X → Calls Try.prog 36 #[heapV (.slice (some ⟨b, off, none⟩) N cap) h, .slice (some ⟨rg, 0, none⟩) n rc] X fun e w' => e = .returned (.bool true) ∧ Below X.heap.size X w'))
    (HOp : Hid (∀ X, Below w.heap.size w X → Calls Try.prog 46 #[heapV (.slice (some ⟨b, off, none⟩) N cap) h] X fun e w' => ∃ bm bw cap' : Nat, e = .returned (.pointer (some ⟨bm, 0, none⟩)) ∧ Wk X bm bw N cap' s0 false w' ∧ X.heap.size ≤ bm ∧ X.heap.size ≤ bw))
    (HFl : Hid (∀ (X w0 : World) (bm bw cap' g c : Nat), Wk w0 bm bw N cap' s0 false X → g ≠ bm → g ≠ bw → CellRow 3 X g n (intCells xs) → Calls Try.prog 49 #[.pointer (some ⟨bm, 0, none⟩), .slice (some ⟨g, 0, none⟩) n c] X (SMovesPost X bm bw N cap' g n o))) :
    Calls Try.prog 18 #[heapV (.slice (some ⟨b, off, none⟩) N cap) h, .slice (some ⟨rg, 0, none⟩) n rc] w (FlipTold N n w o) := by
  obtain ⟨g1, g2, g3, g4, g5, g6, g7, g8, g9⟩ := h
  unfold heapV at *
  dsimp only at *
  obtain ⟨W0, hW0, hA, hR, k2⟩ := both_new w (.slice (some ⟨b, off, none⟩) N cap) ⟨g1, g2, g3, g4, g5, g6, g7, g8, g9⟩
  dsimp only at hW0
  have HW0 := hid hW0
  have HA := hid hA
  have HR := hid hR
  have HK2 := hid k2
  clear hW0 hA hR k2
  go_enter Try.func18, Try.ntmps18
  go_wp2_with fail
  rw [HW0.out]
  refine (HOk.out _ HK2.out).mono ?_
  rintro e W6 ⟨rfl, hb6⟩
  have HB6 := hid (HK2.out.trans (hb6.mono HK2.out.size))
  have HR6 := hid (HR.out.below hb6)
  have HA6 := hid (HA.out.below hb6)
  clear hb6 HW0 HA HR HK2 HOk
  obtain ⟨a0, a1, a2, a3, a4, a5, a6, a7, a8, a9⟩ := HA6.out.cells
  dsimp only at a0 a1 a2 a3 a4 a5 a6 a7 a8 a9
  go_wp2_with fail
  refine (HRt.out _ HB6.out).mono ?_
  rintro e W7 ⟨rfl, hb7⟩
  have HB7 := hid (HB6.out.trans (hb7.mono HB6.out.size))
  have HR7 := hid (HR6.out.below hb7)
  have HA7 := hid (HA6.out.below hb7)
  clear hb7 HB6 HR6 HA6 HRt a0 a1 a2 a3 a4 a5 a6 a7 a8 a9
  obtain ⟨a0, a1, a2, a3, a4, a5, a6, a7, a8, a9⟩ := HA7.out.cells
  dsimp only at a0 a1 a2 a3 a4 a5 a6 a7 a8 a9
  go_wp2_with fail
  refine (HOp.out _ HB7.out).mono ?_
  rintro e W8 ⟨bm, bw, cap', rfl, hW8, hlo, hlo2⟩
  have HW8 := hid hW8
  have hlt7 := heap_lt HR7.out
  have hk8 := hW8.frame.below hlo hlo2
  have HB8 := hid (HB7.out.trans (hk8.mono HB7.out.size))
  have hbmlt := heap_lt hW8.blk
  have hbwlt := hW8.row.lt
  clear hW8 HOp HA7 a0 a1 a2 a3 a4 a5 a6 a7 a8 a9
  obtain ⟨i0, hi, hz0, hz1, hz2⟩ := info_parts info_int
  have hE : (W8.alloc (.cells #[] 3)).heap[W8.heap.size]? = some (.cells #[] 3) := (MapKept.heap_alloc W8 _).1
  have k9 := (Below.refl W8.heap.size W8).alloc (Nat.le_refl _) (.cells #[] 3)
  have hsz9 : (W8.alloc (.cells #[] 3)).heap.size = W8.heap.size + 1 := by simp
  have HE := hid hE
  have HK9 := hid k9
  have HS9 := hid hsz9
  clear hE k9 hsz9
  go_wp2_with (first
    | (at_builtin; refine wpList_append_own _ rfl _ _ 23 rfl W8.heap.size 3 i0 (.int .i64 0) 1 8 Try.underlying23 hi hz0 hz1 hz2 rfl (by decide) (.slice (some ⟨W8.heap.size, 0, none⟩) 0 0) 0 [] rfl ⟨rfl, Or.inr ⟨W8.heap.size, 0, #[], rfl, by omega, HE.out, by omega, by decide, rfl, rfl⟩⟩ ⟨rg, 0, none⟩ n rc (xs.map (fun x => Value.int .i64 x)) rfl (by simp [hl]) (fun j u hu => ?_) (fun u hu => ?_) (by unfold maxLen; omega) (by omega) (by rw [HS9.out]; omega) ?_))
  · rw [List.getElem?_map] at hu
    obtain ⟨x, hx, rfl⟩ := Option.map_eq_some_iff.1 hu
    have hj : j < n := by have := (List.getElem?_eq_some_iff.1 hx).1; omega
    have hkw := HB8.out.trans (HK9.out.mono HB8.out.size)
    have e := (hkw.cell (p := ⟨rg, j, none⟩) (hrg (by omega))).trans (Hxs.out j hj)
    rw [show xs.getD j 0 = x by simp [List.getD, hx]] at e
    have ea : (⟨rg, 0, none⟩ : Addr).add j = ⟨rg, j, none⟩ := by
      unfold Addr.add
      split
      · simp_all
      · simp
    rw [ea]
    exact e
  · simp only [List.mem_map] at hu
    obtain ⟨x, _, rfl⟩ := hu
    rfl
  · intro v' W9 hown hgrow hnil
    obtain ⟨-, hh | ⟨g, gc, cur, rfl, hg, hcur, hcp, hcm, hcs, htk⟩⟩ := id hown
    · exact absurd hh.1 (by simpa using hnil)
    obtain ⟨hrow, hlow⟩ := row_of_owns hl hown
    have hb9 : Below W8.heap.size W8 W9 := Below.grown HK9.out hgrow (by rw [HS9.out]; omega) (fun j hj => by simp [Value.ownBlock] at hj; omega)
    have HW9 := hid (HW8.out.keep hb9)
    have hgm : g ≠ bm := by omega
    have hgw : g ≠ bw := by omega
    have HRw := hid hrow
    have HFl' := hid (HFl.out _ _ _ _ _ _ gc HW9.out hgm hgw hrow)
    have HF9 := hid HW9.out.frame
    have hg7 : W7.heap.size ≤ g := by have := HW8.out.frame.size; omega
    clear hown hgrow hnil hcur hcp hcm hcs htk hrow hb9 HFl HW8 HE HK9 HS9 HB8 hbmlt hbwlt hk8 HW9
    go_wp2_with fail
    refine HFl'.out.mono ?_
    rintro e W10 ⟨rfl, hf, hP⟩
    have HP := hid hP
    have HF10 := hid hf
    clear hP hf HFl' HRw
    have KB : Hid (Below w.heap.size w W10 ∧ HeapBlk W10 (w.heap.size + 1) (.slice none 0 0) ⟨0, 0, 0, 0, 0, 0, 0, 0, 0⟩) := by
      obtain ⟨f1, f2, f3, f4, f5⟩ := HF10.out
      have e1 : Below W7.heap.size W7 W10 := ⟨f1.trans HF9.out.os, f2.trans HF9.out.tape, f3.trans HF9.out.output, Nat.le_trans HF9.out.size f4, fun c hc => (f5 c (Nat.lt_of_lt_of_le hc HF9.out.size) (by omega) (by omega) (by omega)).trans (HF9.out.block c hc (by omega) (by omega))⟩
      exact ⟨HB7.out.trans (e1.mono HB7.out.size), HR7.out.below e1⟩
    have hsz7 := HB7.out.size
    have HB10 := hid KB.out.1
    have HR10 := hid KB.out.2
    obtain ⟨c0, c1, c2, c3, c4, c5, c6, c7, c8, c9⟩ := HR10.out.cells
    dsimp only at c0 c1 c2 c3 c4 c5 c6 c7 c8 c9
    have z0 := frozen_of_heap HR10.out 0
    have z1 := frozen_of_heap HR10.out 1
    have z2 := frozen_of_heap HR10.out 2
    have z3 := frozen_of_heap HR10.out 3
    have z4 := frozen_of_heap HR10.out 4
    have z5 := frozen_of_heap HR10.out 5
    have z6 := frozen_of_heap HR10.out 6
    have z7 := frozen_of_heap HR10.out 7
    have z8 := frozen_of_heap HR10.out 8
    have z9 := frozen_of_heap HR10.out 9
    clear KB HF9 HF10 HB7 HR7
    cases o with
    | none =>
      obtain ⟨⟨s1, hc, -⟩, -⟩ := HP.out
      have d10 := hc.blk.cells.2.2.2.2.2.2.2.2.2.2
      clear hc HP
      go_wp2_with fail
      refine heap_use HR10.out (.slice none 0 0) ⟨0, 0, 0, 0, 0, 0, 0, 0, 0⟩ _ ?_
      intro W11 hL hb11 _ _
      obtain ⟨y0, y1, y2, y3, y4, y5, y6, y7, y8, y9⟩ := hL.cells
      dsimp only at y0 y1 y2 y3 y4 y5 y6 y7 y8 y9
      exact bodyPost_ret (v := .tuple #[noHeap, .slice none 0 0, .bool false]) (by simp [results, Try.results18, go_sem, y0, y1, y2, y3, y4, y5, y6, y7, y8, y9, noHeap, heapV]) rfl ⟨rfl, HB10.out.trans (hb11 _ (Nat.le_succ _))⟩
    | some p =>
      obtain ⟨ys, s1⟩ := p
      obtain ⟨hc, hry⟩ := HP.out
      have HW10 := hid hc
      have HRy := hid hry
      obtain ⟨d0, d1, d2, d3, d4, d5, d6, d7, d8, d9, d10⟩ := hc.blk.cells
      obtain ⟨tau, htau⟩ : ∃ tau, touchZ s1 = tau := ⟨_, rfl⟩
      rw [htau] at d9
      have HTau := hid htau
      clear htau hc hry HP
      go_wp2_with fail
      refine heap_use HR10.out (.slice (some ⟨bw, 0, none⟩) N cap') ⟨s1.h.size, s1.h.to, s1.h.bottom, s1.h.top, s1.h.scan, s1.h.fb, s1.h.ft, s1.h.flips, tau⟩ _ ?_
      intro W11 hL hb11 _ hoth
      obtain ⟨y0, y1, y2, y3, y4, y5, y6, y7, y8, y9⟩ := hL.cells
      dsimp only at y0 y1 y2 y3 y4 y5 y6 y7 y8 y9
      refine bodyPost_ret (v := .tuple #[heapV (.slice (some ⟨bw, 0, none⟩) N cap') ⟨s1.h.size, s1.h.to, s1.h.bottom, s1.h.top, s1.h.scan, s1.h.fb, s1.h.ft, s1.h.flips, tau⟩, .slice (some ⟨g, 0, none⟩) n gc, .bool true]) (by simp [results, Try.results18, go_sem, y0, y1, y2, y3, y4, y5, y6, y7, y8, y9, heapV]) rfl ?_
      exact ⟨bw, cap', g, gc, by rw [HTau.out], HW10.out.row.of_block (hoth _ (by omega)), HRy.out.of_block (hoth _ (by omega)), hgw, by omega, by omega, HB10.out.trans (hb11 _ (Nat.le_succ _))⟩

end Go.Proofs.Ytebpgglegnljgaa

/- HeapFlip: both sides answer the same, whatever they are given. -/
namespace Go.Proofs.Ytebpgglegnljgaa
open Go.RowKit

/-- A heap, a list and a bool are told; the heap's words and the list are new, and apart. -/
def ToldF (W : World) (ans : List Int) (H : HpN) (ys : List Int) (ok : Bool) (e : Ending) (w' : World) : Prop :=
  (∃ v u, e = .returned (.tuple #[heapV v H, u, .bool ok]) ∧ SliceR 3 1 W.heap.size w' v ans.length (intCells ans) ∧ SliceR 3 1 W.heap.size w' u ys.length (intCells ys) ∧ (ans.length ≠ 0 → ys.length ≠ 0 → u.ownBlock ≠ v.ownBlock)) ∧ Below W.heap.size W w'

theorem toldF_none {W w' : World} {e : Ending} (h : e = .returned (.tuple #[noHeap, .slice none 0 0, .bool false]) ∧ Below W.heap.size W w') : ToldF W [] ⟨0, 0, 0, 0, 0, 0, 0, 0, 0⟩ [] false e w' :=
  ⟨⟨_, _, h.1, ⟨none, 0, rfl, Or.inl rfl⟩, ⟨none, 0, rfl, Or.inl rfl⟩, fun h => absurd rfl h⟩, h.2⟩

theorem toldF_some {N n : Nat} {W w' : World} {ys : List Int} {s : CN} {e : Ending} (hl : s.ws.length = N) (hn : ys.length = n) (h : FlipTold N n W (some (ys, s)) e w') : ToldF W s.ws { s.h with touched := touchZ s } ys true e w' := by
  obtain ⟨bw, cap, g, c, rfl, hr, hr2, hne, hlow, hlow2, hb⟩ := h
  subst hl
  subst hn
  exact ⟨⟨_, _, rfl, ⟨some ⟨bw, 0, none⟩, cap, rfl, Or.inr ⟨bw, rfl, hlow, by rw [Nat.mul_one]; exact hr⟩⟩, ⟨some ⟨g, 0, none⟩, c, rfl, Or.inr ⟨g, rfl, hlow2, by rw [Nat.mul_one]; exact hr2⟩⟩, fun _ _ => by simp [Value.ownBlock]; exact hne⟩, hb⟩

theorem flip_both (bs xs : List Int) (h : HpN) (ht : h.touched < 9223372036854775808) (hm : bs.length ≤ 1048576) (hx : xs.length ≤ 1048576) : ∃ ans H ys ok, ans.length ≤ 1048576 ∧ ys.length ≤ 1048576 ∧
    (∀ B g B2 rg W, SliceR 3 1 B W (.slice (some ⟨g, 0, none⟩) bs.length bs.length) bs.length (intCells bs) → SliceR 3 1 B2 W (.slice (some ⟨rg, 0, none⟩) xs.length xs.length) xs.length (intCells xs) → Calls Try.prog 18 #[heapV (.slice (some ⟨g, 0, none⟩) bs.length bs.length) h, .slice (some ⟨rg, 0, none⟩) xs.length xs.length] W (ToldF W ans H ys ok)) ∧
    (∀ B g B2 rg W, SliceR 3 1 B W (.slice (some ⟨g, 0, none⟩) bs.length bs.length) bs.length (intCells bs) → SliceR 3 1 B2 W (.slice (some ⟨rg, 0, none⟩) xs.length xs.length) xs.length (intCells xs) → Calls Try.prog 17 #[heapV (.slice (some ⟨g, 0, none⟩) bs.length bs.length) h, .slice (some ⟨rg, 0, none⟩) xs.length xs.length] W (ToldF W ans H ys ok)) := by
  by_cases ho : Ordered h bs.length
  case neg =>
    exact ⟨[], _, [], _, by simp, by simp, fun B g B2 rg W _ _ => (sFlip_notOk g 0 bs.length bs.length h rg xs.length xs.length W (fun X _ => specOk_bad _ _ _ h X hm ho)).mono (fun _ _ => toldF_none), fun B g B2 rg W _ _ => (iFlip_notOk g 0 bs.length bs.length h rg xs.length xs.length W (fun X _ => layOut_bad _ _ _ h X ho)).mono (fun _ _ => toldF_none)⟩
  obtain ⟨o1, o2, o3, o4, o5, o6, o7, o8, o9, o10, o11, o12, o13⟩ := id ho
  have hN0 : bs.length ≠ 0 := by omega
  have hN8 : bs.length ≤ 8000 := by omega
  have SOk : ∀ B g W, SliceR 3 1 B W (.slice (some ⟨g, 0, none⟩) bs.length bs.length) bs.length (intCells bs) → ∀ X, Below W.heap.size W X → Calls Try.prog 35 #[heapV (.slice (some ⟨g, 0, none⟩) bs.length bs.length) h] X fun e w' => e = .returned (.bool (specOk bs h)) ∧ Below X.heap.size X w' := fun B g W hs X hX =>
    specOk_calls g 0 bs.length bs.length bs h X rfl ho (row_kept hN0 hs hX).1 (row_kept hN0 hs hX).2
  have ILy : ∀ B g W, SliceR 3 1 B W (.slice (some ⟨g, 0, none⟩) bs.length bs.length) bs.length (intCells bs) → ∀ X, Below W.heap.size W X → Calls Try.prog 30 #[heapV (.slice (some ⟨g, 0, none⟩) bs.length bs.length) h] X (LayTold g 0 bs.length bs.length bs h X) := fun B g W hs X hX =>
    layOut_calls g 0 bs.length bs.length bs h X rfl ho (Nat.le_refl _) (row_kept hN0 hs hX).1 (row_kept hN0 hs hX).2
  cases hk : specOk bs h with
  | false =>
    have hki : implOk bs h = false := by rw [← ok_same ho]; exact hk
    rw [hk] at SOk
    refine ⟨[], _, [], _, by simp, by simp, fun B g B2 rg W hs _ => (sFlip_notOk g 0 bs.length bs.length h rg xs.length xs.length W (SOk B g W hs)).mono (fun _ _ => toldF_none), fun B g B2 rg W hs _ => (iFlip_notOk g 0 bs.length bs.length h rg xs.length xs.length W (fun X hX => (ILy B g W hs X hX).mono ?_)).mono (fun _ _ => toldF_none)⟩
    rintro e w' ⟨hres, hb'⟩
    rcases hres with ⟨_, e1⟩ | ⟨S, gb, _, e2, _⟩
    · exact ⟨e1, hb'⟩
    · rw [hki] at e2
      cases e2
  | true =>
    have hki : implOk bs h = true := by rw [← ok_same ho]; exact hk
    rw [hk] at SOk
    obtain ⟨S, ok⟩ := ok_facts ho hk
    have ILg : ∀ B g W, SliceR 3 1 B W (.slice (some ⟨g, 0, none⟩) bs.length bs.length) bs.length (intCells bs) → ∀ X, Below W.heap.size W X → Calls Try.prog 30 #[heapV (.slice (some ⟨g, 0, none⟩) bs.length bs.length) h] X fun e w' => ∃ gb, e = .returned (.tuple #[layV (.slice (some ⟨g, 0, none⟩) bs.length bs.length) h (.slice (some ⟨gb, 0, none⟩) bs.length bs.length), .bool true]) ∧ Hid (ISt g 0 gb bs.length bs S w') ∧ Below X.heap.size X w' := fun B g W hs X hX => (ILy B g W hs X hX).mono (by
      rintro e w' ⟨hres, hb'⟩
      rcases hres with ⟨e1, _⟩ | ⟨S', gb, e1, _, e2, _, e3⟩
      · rw [hki] at e1
        cases e1
      · rw [ok.impl] at e1
        cases e1
        exact ⟨gb, e2, e3, hb'⟩)
    by_cases hsc : h.scan = h.bottom
    case neg =>
      have hne : (h.scan != h.bottom) = true := by simpa using hsc
      exact ⟨[], _, [], _, by simp, by simp, fun B g B2 rg W hs _ => (sFlip_scan g 0 bs.length bs.length h rg xs.length xs.length W hne (SOk B g W hs)).mono (fun _ _ => toldF_none), fun B g B2 rg W hs _ => (iFlip_scan g 0 bs.length bs.length h rg xs.length xs.length W bs S hne hsc (ILg B g W hs)).mono (fun _ _ => toldF_none)⟩
    have heq : (h.scan != h.bottom) = false := by simpa using hsc
    have IRt : ∀ g B2 rg W, SliceR 3 1 B2 W (.slice (some ⟨rg, 0, none⟩) xs.length xs.length) xs.length (intCells xs) → ∀ (X : World) (gb : Nat), Below W.heap.size W X → ISt g 0 gb bs.length bs S X → Calls Try.prog 31 #[layV (.slice (some ⟨g, 0, none⟩) bs.length bs.length) h (.slice (some ⟨gb, 0, none⟩) bs.length bs.length), .slice (some ⟨rg, 0, none⟩) xs.length xs.length] X fun e w' => e = .returned (.bool (decide (xs.length ≤ 20) && implRoots S h xs)) ∧ Below X.heap.size X w' := fun g B2 rg W hr X gb hX hI => rootsOk_calls (some ⟨rg, 0, none⟩) xs.length g 0 bs.length gb bs.length bs S h xs X ho hI (hr.below hX).intSlice hx
    by_cases hn : xs.length ≤ 20
    case neg =>
      rw [decide_eq_false hn, Bool.false_and] at IRt
      exact ⟨[], _, [], _, by simp, by simp, fun B g B2 rg W hs _ => (sFlip_many g 0 bs.length bs.length h rg xs.length xs.length W heq (by omega) (SOk B g W hs)).mono (fun _ _ => toldF_none), fun B g B2 rg W hs hr => (iFlip_noRoot g 0 bs.length bs.length h rg xs.length xs.length W bs S heq (ILg B g W hs) (IRt g B2 rg W hr)).mono (fun _ _ => toldF_none)⟩
    have hn2 : ¬ (20 : Int) < (xs.length : Int) := by omega
    rw [decide_eq_true hn, Bool.true_and] at IRt
    have SRt : ∀ B g B2 rg W, SliceR 3 1 B W (.slice (some ⟨g, 0, none⟩) bs.length bs.length) bs.length (intCells bs) → SliceR 3 1 B2 W (.slice (some ⟨rg, 0, none⟩) xs.length xs.length) xs.length (intCells xs) → ∀ X, Below W.heap.size W X → Calls Try.prog 36 #[heapV (.slice (some ⟨g, 0, none⟩) bs.length bs.length) h, .slice (some ⟨rg, 0, none⟩) xs.length xs.length] X fun e w' => e = .returned (.bool (specRoots bs S h xs)) ∧ Below X.heap.size X w' := fun B g B2 rg W hs hr X hX => specRoots_calls g 0 bs.length bs.length bs S h _ xs X rfl ho ok.spec (row_kept hN0 hs hX).1 (row_kept hN0 hs hX).2 (hr.below hX).intSlice hn
    have hsame : specRoots bs S h xs = implRoots S h xs := (roots_same ok xs).symm
    rw [hsame] at SRt
    cases hro : implRoots S h xs with
    | false =>
      rw [hro] at SRt IRt
      exact ⟨[], _, [], _, by simp, by simp, fun B g B2 rg W hs hr => (sFlip_noRoot g 0 bs.length bs.length h rg xs.length xs.length W heq hn2 (SOk B g W hs) (SRt B g B2 rg W hs hr)).mono (fun _ _ => toldF_none), fun B g B2 rg W hs hr => (iFlip_noRoot g 0 bs.length bs.length h rg xs.length xs.length W bs S heq (ILg B g W hs) (IRt g B2 rg W hr)).mono (fun _ _ => toldF_none)⟩
    | true =>
      rw [hro] at SRt IRt
      have ha : ∀ i, i < xs.length → Aim S (flipH h) bs.length (xs.getD i 0) := fun i hi => by
        unfold implRoots at hro
        rw [List.all_eq_true] at hro
        exact used_aim ok (hro i (List.mem_range.2 hi))
      have hst : Mvs S bs.length 0 ⟨bs, flipH h, 0, 0⟩ := mvs_start ok rfl rfl rfl (fun a _ hS => ((heads_noted ok.noted).2 a hS).2.2) (by omega) (by omega) (by omega) (by omega)
      have hrun := movesRun_mvs hst ha xs.length (Nat.le_refl _)
      have SOp : ∀ B g W, SliceR 3 1 B W (.slice (some ⟨g, 0, none⟩) bs.length bs.length) bs.length (intCells bs) → ∀ X, Below W.heap.size W X → Calls Try.prog 46 #[heapV (.slice (some ⟨g, 0, none⟩) bs.length bs.length) h] X fun e w' => ∃ bm bw cap' : Nat, e = .returned (.pointer (some ⟨bm, 0, none⟩)) ∧ Wk X bm bw bs.length cap' ⟨bs, h, 0, 0⟩ false w' ∧ X.heap.size ≤ bm ∧ X.heap.size ≤ bw := fun B g W hs X hX => open_calls g 0 bs.length bs.length bs h X (by omega) rfl hN8 (row_kept hN0 hs hX).1 (row_kept hN0 hs hX).2 o6 ht
      have IOp : ∀ B g W, SliceR 3 1 B W (.slice (some ⟨g, 0, none⟩) bs.length bs.length) bs.length (intCells bs) → ∀ X, Below W.heap.size W X → Calls Try.prog 42 #[heapV (.slice (some ⟨g, 0, none⟩) bs.length bs.length) h] X fun e w' => ∃ bc bw cap' : Nat, e = .returned (.pointer (some ⟨bc, 0, none⟩)) ∧ ColAt X bc bw bs.length cap' ⟨bs, h, 0, 0⟩ w' ∧ X.heap.size ≤ bc ∧ X.heap.size ≤ bw := fun B g W hs X hX => collectorOf_calls g 0 bs.length bs.length bs h X (by omega) rfl hN8 (row_kept hN0 hs hX).1 (row_kept hN0 hs hX).2
      have SFl : ∀ (X w0 : World) (bm bw cap' g c : Nat), Wk w0 bm bw bs.length cap' ⟨bs, h, 0, 0⟩ false X → g ≠ bm → g ≠ bw → CellRow 3 X g xs.length (intCells xs) → Calls Try.prog 49 #[.pointer (some ⟨bm, 0, none⟩), .slice (some ⟨g, 0, none⟩) xs.length c] X (SMovesPost X bm bw bs.length cap' g xs.length (movesRun xs xs.length ⟨bs, flipH h, 0, 0⟩)) := fun X w0 bm bw cap' g c hX h1 h2 hr => sflip_calls hX (show 0 ≤ h.to by omega) (show h.to ≤ h.size by omega) o2 hst xs rfl hn h1 h2 hr ha
      have IFl : ∀ (X w0 : World) (bc bw cap' g c : Nat), ColAt w0 bc bw bs.length cap' ⟨bs, h, 0, 0⟩ X → g ≠ bc → g ≠ bw → CellRow 3 X g xs.length (intCells xs) → Calls Try.prog 48 #[.pointer (some ⟨bc, 0, none⟩), .slice (some ⟨g, 0, none⟩) xs.length c] X (MovesPost X bc bw bs.length cap' g xs.length (movesRun xs xs.length ⟨bs, flipH h, 0, 0⟩)) := fun X w0 bc bw cap' g c hX h1 h2 hr => change_calls ⟨bs, h, 0, 0⟩ hX (show 0 ≤ h.to by omega) (show h.to ≤ h.size by omega) o2 hst xs rfl hn h1 h2 hr ha
      have HCs : ∀ B2 rg W, SliceR 3 1 B2 W (.slice (some ⟨rg, 0, none⟩) xs.length xs.length) xs.length (intCells xs) → ∀ X, Below W.heap.size W X → ∀ k, k < xs.length → rg < X.heap.size ∧ X.cell? ⟨rg, 0 + k, none⟩ = some (.int .i64 (xs.getD k 0)) := fun B2 rg W hr X hX k hk => ⟨(row_kept (by omega) hr hX).1, (row_kept (by omega) hr hX).2 k hk⟩
      have sS := fun B g B2 rg W hs hr => sFlip_good g 0 bs.length bs.length h rg xs.length xs.length W heq hn2 xs rfl (fun h0 => (HCs B2 rg W hr W (Below.refl _ _) 0 h0).1) (fun k hk => by have e := (HCs B2 rg W hr W (Below.refl _ _) k hk).2; rw [Nat.zero_add] at e; exact e) ⟨bs, h, 0, 0⟩ _ (SOk B g W hs) (SRt B g B2 rg W hs hr) (SOp B g W hs) SFl
      have sI := fun B g B2 rg W hs hr => iFlip_good g 0 bs.length bs.length h rg xs.length xs.length W bs S xs heq ⟨bs, h, 0, 0⟩ _ (ILg B g W hs) (IRt g B2 rg W hr) (IOp B g W hs) (fun X hX => clone_row rg xs.length xs.length xs X rfl hn (fun k hk => (HCs B2 rg W hr X hX k hk).2)) IFl (fun ys s1 X w0 bc bw cap' _ hX => by
        have e := told_calls hX
        rw [touch_same] at e
        exact e)
      cases hr : movesRun xs xs.length ⟨bs, flipH h, 0, 0⟩ with
      | none =>
        rw [hr] at sS sI
        exact ⟨[], _, [], _, by simp, by simp, fun B g B2 rg W hs hr => (sS B g B2 rg W hs hr).mono (fun _ _ => toldF_none), fun B g B2 rg W hs hr => (sI B g B2 rg W hs hr).mono (fun _ _ => toldF_none)⟩
      | some p =>
        obtain ⟨ys, s1⟩ := p
        rw [hr] at sS sI
        obtain ⟨c1, hl, -⟩ := hrun ys s1 hr
        have hl1 := c1.len
        exact ⟨s1.ws, _, ys, _, by omega, by omega, fun B g B2 rg W hs hr => (sS B g B2 rg W hs hr).mono (fun _ _ h => toldF_some hl1 hl h), fun B g B2 rg W hs hr => (sI B g B2 rg W hs hr).mono (fun _ _ h => toldF_some hl1 hl h)⟩
end Go.Proofs.Ytebpgglegnljgaa

/- The program's HeapField: what is refused. -/
namespace Go.Proofs.Ytebpgglegnljgaa
open Go.RowKit

set_option maxHeartbeats 8000000 in
set_option maxRecDepth 100000 in
theorem iField_notOk (b off cap N : Nat) (h : HpN) (x i : Int) (w : World)
    (HLy : Hid (∀ X, Below w.heap.size w X → Calls Try.prog 30 #[heapV (.slice (some ⟨b, off, none⟩) N cap) h] X fun e w' => e = .returned (.tuple #[noLay, .bool false]) ∧ Below X.heap.size X w')) :
    Calls Try.prog 21 #[heapV (.slice (some ⟨b, off, none⟩) N cap) h, .int .i64 x, .int .i64 i] w fun e w' => e = .returned (.tuple #[noHeap, .int .i64 0, .bool false]) ∧ Below w.heap.size w w' := by
  obtain ⟨g1, g2, g3, g4, g5, g6, g7, g8, g9⟩ := h
  unfold heapV at *
  dsimp only at *
  obtain ⟨W0, hW0, hA, hR, k2⟩ := both_new w (.slice (some ⟨b, off, none⟩) N cap) ⟨g1, g2, g3, g4, g5, g6, g7, g8, g9⟩
  dsimp only at hW0
  have HW0 := hid hW0
  have HA := hid hA
  have HR := hid hR
  have HK2 := hid k2
  clear hW0 hA hR k2
  go_enter Try.func21, Try.ntmps21
  go_wp2_with fail
  rw [HW0.out]
  refine (HLy.out _ HK2.out).mono ?_
  rintro e W1 ⟨rfl, hb1⟩
  unfold noLay layV
  dsimp only
  have k1 := HK2.out.trans (hb1.mono HK2.out.size)
  have HB2 := hid (k1.alloc k1.size (.cells #[.slice none 0 0, .int .i64 0, .int .i64 0, .int .i64 0, .int .i64 0, .int .i64 0, .int .i64 0, .int .i64 0, .int .i64 0, .int .i64 0, .slice none 0 0] 58))
  have HR2 := hid ((HR.out.below hb1).below ((Below.refl _ W1).alloc (Nat.le_refl _) (.cells #[.slice none 0 0, .int .i64 0, .int .i64 0, .int .i64 0, .int .i64 0, .int .i64 0, .int .i64 0, .int .i64 0, .int .i64 0, .int .i64 0, .slice none 0 0] 58)))
  clear k1 hb1 HW0 HA HR HK2 HLy
  go_wp2_with fail
  generalize W1.alloc (.cells #[.slice none 0 0, .int .i64 0, .int .i64 0, .int .i64 0, .int .i64 0, .int .i64 0, .int .i64 0, .int .i64 0, .int .i64 0, .int .i64 0, .slice none 0 0] 58) = W2 at *
  refine wp_region_calm W2.heap.size (by kernel_rfl) (by kernel_rfl) ?_
  repeat (go_big_quiet_step (fail))
  refine wpQuiet_nil ?_
  rintro w6 ⟨y, rfl⟩
  have HB6 := hid (HB2.out.trans (y.h.mono HB2.out.size))
  have HR6 := hid (HR2.out.below y.h)
  generalize y.w = W6 at *
  obtain ⟨c0, c1, c2, c3, c4, c5, c6, c7, c8, c9⟩ := HR6.out.cells
  dsimp only at c0 c1 c2 c3 c4 c5 c6 c7 c8 c9
  have z0 := frozen_of_heap HR6.out 0
  have z1 := frozen_of_heap HR6.out 1
  have z2 := frozen_of_heap HR6.out 2
  have z3 := frozen_of_heap HR6.out 3
  have z4 := frozen_of_heap HR6.out 4
  have z5 := frozen_of_heap HR6.out 5
  have z6 := frozen_of_heap HR6.out 6
  have z7 := frozen_of_heap HR6.out 7
  have z8 := frozen_of_heap HR6.out 8
  have z9 := frozen_of_heap HR6.out 9
  go_wp2_with fail
  refine heap_use HR6.out (.slice none 0 0) ⟨0, 0, 0, 0, 0, 0, 0, 0, 0⟩ _ ?_
  intro W7 hL hb7 _ _
  obtain ⟨y0, y1, y2, y3, y4, y5, y6, y7, y8, y9⟩ := hL.cells
  dsimp only at y0 y1 y2 y3 y4 y5 y6 y7 y8 y9
  exact bodyPost_ret (v := .tuple #[noHeap, .int .i64 0, .bool false]) (by simp [results, Try.results21, go_sem, y0, y1, y2, y3, y4, y5, y6, y7, y8, y9, noHeap, heapV]) rfl ⟨rfl, HB6.out.trans (hb7 _ (Nat.le_succ _))⟩

set_option maxHeartbeats 8000000 in
set_option maxRecDepth 100000 in
theorem iField_noRoot (b off cap N : Nat) (h : HpN) (x i : Int) (w : World)
    (ws S : List Int)
    (HLy : Hid (∀ X, Below w.heap.size w X → Calls Try.prog 30 #[heapV (.slice (some ⟨b, off, none⟩) N cap) h] X fun e w' => ∃ gb, e = .returned (.tuple #[layV (.slice (some ⟨b, off, none⟩) N cap) h (.slice (some ⟨gb, 0, none⟩) N N), .bool true]) ∧ Hid (ISt b off gb N ws S w') ∧ Below X.heap.size X w'))
    (HLd : Hid (∀ (X : World) (gb : Nat), ISt b off gb N ws S X → Calls Try.prog 51 #[layV (.slice (some ⟨b, off, none⟩) N cap) h (.slice (some ⟨gb, 0, none⟩) N N), .int .i64 x, .int .i64 h.to] X fun e w' => e = .returned (.bool false) ∧ Below X.heap.size X w')) :
    Calls Try.prog 21 #[heapV (.slice (some ⟨b, off, none⟩) N cap) h, .int .i64 x, .int .i64 i] w fun e w' => e = .returned (.tuple #[noHeap, .int .i64 0, .bool false]) ∧ Below w.heap.size w w' := by
  obtain ⟨g1, g2, g3, g4, g5, g6, g7, g8, g9⟩ := h
  unfold heapV at *
  dsimp only at *
  obtain ⟨W0, hW0, hA, hR, k2⟩ := both_new w (.slice (some ⟨b, off, none⟩) N cap) ⟨g1, g2, g3, g4, g5, g6, g7, g8, g9⟩
  dsimp only at hW0
  have HW0 := hid hW0
  have HA := hid hA
  have HR := hid hR
  have HK2 := hid k2
  clear hW0 hA hR k2
  go_enter Try.func21, Try.ntmps21
  go_wp2_with fail
  rw [HW0.out]
  refine (HLy.out _ HK2.out).mono ?_
  rintro e W1 ⟨gb, rfl, HI, hb1⟩
  unfold layV at *
  dsimp only at *
  have k1 := HK2.out.trans (hb1.mono HK2.out.size)
  have HB2 := hid (k1.alloc k1.size (.cells #[.slice (some ⟨b, off, none⟩) N cap, .int .i64 g1, .int .i64 g2, .int .i64 g3, .int .i64 g4, .int .i64 g5, .int .i64 g6, .int .i64 g7, .int .i64 g8, .int .i64 g9, .slice (some ⟨gb, 0, none⟩) N N] 58))
  have HR2 := hid ((HR.out.below hb1).below ((Below.refl _ W1).alloc (Nat.le_refl _) (.cells #[.slice (some ⟨b, off, none⟩) N cap, .int .i64 g1, .int .i64 g2, .int .i64 g3, .int .i64 g4, .int .i64 g5, .int .i64 g6, .int .i64 g7, .int .i64 g8, .int .i64 g9, .slice (some ⟨gb, 0, none⟩) N N] 58)))
  have HA2 := hid ((HA.out.below hb1).below ((Below.refl _ W1).alloc (Nat.le_refl _) (.cells #[.slice (some ⟨b, off, none⟩) N cap, .int .i64 g1, .int .i64 g2, .int .i64 g3, .int .i64 g4, .int .i64 g5, .int .i64 g6, .int .i64 g7, .int .i64 g8, .int .i64 g9, .slice (some ⟨gb, 0, none⟩) N N] 58)))
  have HI2 := hid (HI.out.kept ((Below.refl _ W1).alloc (Nat.le_refl _) (.cells #[.slice (some ⟨b, off, none⟩) N cap, .int .i64 g1, .int .i64 g2, .int .i64 g3, .int .i64 g4, .int .i64 g5, .int .i64 g6, .int .i64 g7, .int .i64 g8, .int .i64 g9, .slice (some ⟨gb, 0, none⟩) N N] 58)))
  have hLB := LayBlk.new W1 (.slice (some ⟨b, off, none⟩) N cap) ⟨g1, g2, g3, g4, g5, g6, g7, g8, g9⟩ (.slice (some ⟨gb, 0, none⟩) N N)
  dsimp only at hLB
  clear k1 hb1 HW0 HA HR HK2 HLy HI
  go_wp2_with fail
  generalize W1.alloc (.cells #[.slice (some ⟨b, off, none⟩) N cap, .int .i64 g1, .int .i64 g2, .int .i64 g3, .int .i64 g4, .int .i64 g5, .int .i64 g6, .int .i64 g7, .int .i64 g8, .int .i64 g9, .slice (some ⟨gb, 0, none⟩) N N] 58) = W2 at *
  obtain ⟨v0, v1, v2, v3, v4, v5, v6, v7, v8, v9, v10⟩ := hLB.later (B := W2.heap.size) (heap_lt hLB)
  dsimp only at v0 v1 v2 v3 v4 v5 v6 v7 v8 v9 v10
  have HLB := hid hLB
  clear hLB
  refine wp_region_calm W2.heap.size (by kernel_rfl) (by kernel_rfl) ?_
  repeat (go_big_quiet_step (first | (rename_i y; go_at_call 51; refine (HLd.out _ _ (HI2.out.kept y.h)).mono ?_; rintro e w5 ⟨rfl, hb5⟩; exact ⟨rfl, ⟨w5, y.h.trans (hb5.mono y.h.size)⟩, rfl⟩)))
  refine wpQuiet_nil ?_
  rintro w6 ⟨y, rfl⟩
  have HB6 := hid (HB2.out.trans (y.h.mono HB2.out.size))
  have HR6 := hid (HR2.out.below y.h)
  have HA6 := hid (HA2.out.below y.h)
  have HI6 := hid (HI2.out.kept y.h)
  clear v0 v1 v2 v3 v4 v5 v6 v7 v8 v9 v10
  generalize y.w = W6 at *
  obtain ⟨c0, c1, c2, c3, c4, c5, c6, c7, c8, c9⟩ := HR6.out.cells
  dsimp only at c0 c1 c2 c3 c4 c5 c6 c7 c8 c9
  have z0 := frozen_of_heap HR6.out 0
  have z1 := frozen_of_heap HR6.out 1
  have z2 := frozen_of_heap HR6.out 2
  have z3 := frozen_of_heap HR6.out 3
  have z4 := frozen_of_heap HR6.out 4
  have z5 := frozen_of_heap HR6.out 5
  have z6 := frozen_of_heap HR6.out 6
  have z7 := frozen_of_heap HR6.out 7
  have z8 := frozen_of_heap HR6.out 8
  have z9 := frozen_of_heap HR6.out 9
  go_wp2_with fail
  refine heap_use HR6.out (.slice none 0 0) ⟨0, 0, 0, 0, 0, 0, 0, 0, 0⟩ _ ?_
  intro W7 hL hb7 _ _
  obtain ⟨y0, y1, y2, y3, y4, y5, y6, y7, y8, y9⟩ := hL.cells
  dsimp only at y0 y1 y2 y3 y4 y5 y6 y7 y8 y9
  exact bodyPost_ret (v := .tuple #[noHeap, .int .i64 0, .bool false]) (by simp [results, Try.results21, go_sem, y0, y1, y2, y3, y4, y5, y6, y7, y8, y9, noHeap, heapV]) rfl ⟨rfl, HB6.out.trans (hb7 _ (Nat.le_succ _))⟩

set_option maxHeartbeats 8000000 in
set_option maxRecDepth 100000 in
theorem iField_below (b off cap N : Nat) (h : HpN) (x i : Int) (w : World)
    (ws S : List Int) (hi : i < 0)
    (HLy : Hid (∀ X, Below w.heap.size w X → Calls Try.prog 30 #[heapV (.slice (some ⟨b, off, none⟩) N cap) h] X fun e w' => ∃ gb, e = .returned (.tuple #[layV (.slice (some ⟨b, off, none⟩) N cap) h (.slice (some ⟨gb, 0, none⟩) N N), .bool true]) ∧ Hid (ISt b off gb N ws S w') ∧ Below X.heap.size X w'))
    (HLd : Hid (∀ (X : World) (gb : Nat), ISt b off gb N ws S X → Calls Try.prog 51 #[layV (.slice (some ⟨b, off, none⟩) N cap) h (.slice (some ⟨gb, 0, none⟩) N N), .int .i64 x, .int .i64 h.to] X fun e w' => e = .returned (.bool true) ∧ Below X.heap.size X w')) :
    Calls Try.prog 21 #[heapV (.slice (some ⟨b, off, none⟩) N cap) h, .int .i64 x, .int .i64 i] w fun e w' => e = .returned (.tuple #[noHeap, .int .i64 0, .bool false]) ∧ Below w.heap.size w w' := by
  obtain ⟨g1, g2, g3, g4, g5, g6, g7, g8, g9⟩ := h
  unfold heapV at *
  dsimp only at *
  obtain ⟨W0, hW0, hA, hR, k2⟩ := both_new w (.slice (some ⟨b, off, none⟩) N cap) ⟨g1, g2, g3, g4, g5, g6, g7, g8, g9⟩
  dsimp only at hW0
  have HW0 := hid hW0
  have HA := hid hA
  have HR := hid hR
  have HK2 := hid k2
  clear hW0 hA hR k2
  go_enter Try.func21, Try.ntmps21
  go_wp2_with fail
  rw [HW0.out]
  refine (HLy.out _ HK2.out).mono ?_
  rintro e W1 ⟨gb, rfl, HI, hb1⟩
  unfold layV at *
  dsimp only at *
  have k1 := HK2.out.trans (hb1.mono HK2.out.size)
  have HB2 := hid (k1.alloc k1.size (.cells #[.slice (some ⟨b, off, none⟩) N cap, .int .i64 g1, .int .i64 g2, .int .i64 g3, .int .i64 g4, .int .i64 g5, .int .i64 g6, .int .i64 g7, .int .i64 g8, .int .i64 g9, .slice (some ⟨gb, 0, none⟩) N N] 58))
  have HR2 := hid ((HR.out.below hb1).below ((Below.refl _ W1).alloc (Nat.le_refl _) (.cells #[.slice (some ⟨b, off, none⟩) N cap, .int .i64 g1, .int .i64 g2, .int .i64 g3, .int .i64 g4, .int .i64 g5, .int .i64 g6, .int .i64 g7, .int .i64 g8, .int .i64 g9, .slice (some ⟨gb, 0, none⟩) N N] 58)))
  have HA2 := hid ((HA.out.below hb1).below ((Below.refl _ W1).alloc (Nat.le_refl _) (.cells #[.slice (some ⟨b, off, none⟩) N cap, .int .i64 g1, .int .i64 g2, .int .i64 g3, .int .i64 g4, .int .i64 g5, .int .i64 g6, .int .i64 g7, .int .i64 g8, .int .i64 g9, .slice (some ⟨gb, 0, none⟩) N N] 58)))
  have HI2 := hid (HI.out.kept ((Below.refl _ W1).alloc (Nat.le_refl _) (.cells #[.slice (some ⟨b, off, none⟩) N cap, .int .i64 g1, .int .i64 g2, .int .i64 g3, .int .i64 g4, .int .i64 g5, .int .i64 g6, .int .i64 g7, .int .i64 g8, .int .i64 g9, .slice (some ⟨gb, 0, none⟩) N N] 58)))
  have hLB := LayBlk.new W1 (.slice (some ⟨b, off, none⟩) N cap) ⟨g1, g2, g3, g4, g5, g6, g7, g8, g9⟩ (.slice (some ⟨gb, 0, none⟩) N N)
  dsimp only at hLB
  clear k1 hb1 HW0 HA HR HK2 HLy HI
  go_wp2_with fail
  generalize W1.alloc (.cells #[.slice (some ⟨b, off, none⟩) N cap, .int .i64 g1, .int .i64 g2, .int .i64 g3, .int .i64 g4, .int .i64 g5, .int .i64 g6, .int .i64 g7, .int .i64 g8, .int .i64 g9, .slice (some ⟨gb, 0, none⟩) N N] 58) = W2 at *
  obtain ⟨v0, v1, v2, v3, v4, v5, v6, v7, v8, v9, v10⟩ := hLB.later (B := W2.heap.size) (heap_lt hLB)
  dsimp only at v0 v1 v2 v3 v4 v5 v6 v7 v8 v9 v10
  have HLB := hid hLB
  clear hLB
  refine wp_region_calm W2.heap.size (by kernel_rfl) (by kernel_rfl) ?_
  repeat (go_big_quiet_step (first | (rename_i y; go_at_call 51; refine (HLd.out _ _ (HI2.out.kept y.h)).mono ?_; rintro e w5 ⟨rfl, hb5⟩; exact ⟨rfl, ⟨w5, y.h.trans (hb5.mono y.h.size)⟩, rfl⟩)))
  refine wpQuiet_nil ?_
  rintro w6 ⟨y, rfl⟩
  have HB6 := hid (HB2.out.trans (y.h.mono HB2.out.size))
  have HR6 := hid (HR2.out.below y.h)
  have HA6 := hid (HA2.out.below y.h)
  have HI6 := hid (HI2.out.kept y.h)
  clear v0 v1 v2 v3 v4 v5 v6 v7 v8 v9 v10
  generalize y.w = W6 at *
  obtain ⟨c0, c1, c2, c3, c4, c5, c6, c7, c8, c9⟩ := HR6.out.cells
  dsimp only at c0 c1 c2 c3 c4 c5 c6 c7 c8 c9
  have z0 := frozen_of_heap HR6.out 0
  have z1 := frozen_of_heap HR6.out 1
  have z2 := frozen_of_heap HR6.out 2
  have z3 := frozen_of_heap HR6.out 3
  have z4 := frozen_of_heap HR6.out 4
  have z5 := frozen_of_heap HR6.out 5
  have z6 := frozen_of_heap HR6.out 6
  have z7 := frozen_of_heap HR6.out 7
  have z8 := frozen_of_heap HR6.out 8
  have z9 := frozen_of_heap HR6.out 9
  go_wp2_with fail
  refine heap_use HR6.out (.slice none 0 0) ⟨0, 0, 0, 0, 0, 0, 0, 0, 0⟩ _ ?_
  intro W7 hL hb7 _ _
  obtain ⟨y0, y1, y2, y3, y4, y5, y6, y7, y8, y9⟩ := hL.cells
  dsimp only at y0 y1 y2 y3 y4 y5 y6 y7 y8 y9
  exact bodyPost_ret (v := .tuple #[noHeap, .int .i64 0, .bool false]) (by simp [results, Try.results21, go_sem, y0, y1, y2, y3, y4, y5, y6, y7, y8, y9, noHeap, heapV]) rfl ⟨rfl, HB6.out.trans (hb7 _ (Nat.le_succ _))⟩

set_option maxHeartbeats 8000000 in
set_option maxRecDepth 100000 in
theorem iField_past (b off cap N : Nat) (h : HpN) (x i : Int) (w : World)
    (ws S : List Int)
    (k : Nat) (hk : k < N) (n : Int) (HSk : Hid (S.getD k 0 = n)) (hn0 : 0 ≤ n) (hn1 : n ≤ 6) (hd : decide (i < 0) = false) (hi1 : n - 1 ≤ i)
    (HLy : Hid (∀ X, Below w.heap.size w X → Calls Try.prog 30 #[heapV (.slice (some ⟨b, off, none⟩) N cap) h] X fun e w' => ∃ gb, e = .returned (.tuple #[layV (.slice (some ⟨b, off, none⟩) N cap) h (.slice (some ⟨gb, 0, none⟩) N N), .bool true]) ∧ Hid (ISt b off gb N ws S w') ∧ Below X.heap.size X w'))
    (HLd : Hid (∀ (X : World) (gb : Nat), ISt b off gb N ws S X → Calls Try.prog 51 #[layV (.slice (some ⟨b, off, none⟩) N cap) h (.slice (some ⟨gb, 0, none⟩) N N), .int .i64 x, .int .i64 h.to] X fun e w' => e = .returned (.bool true) ∧ Below X.heap.size X w'))
    (HNum : Hid (∀ w, Calls Try.prog 52 #[.int .i64 x] w fun e w' => e = .returned (.int .i64 (k : Int)) ∧ w = w')) :
    Calls Try.prog 21 #[heapV (.slice (some ⟨b, off, none⟩) N cap) h, .int .i64 x, .int .i64 i] w fun e w' => e = .returned (.tuple #[noHeap, .int .i64 0, .bool false]) ∧ Below w.heap.size w w' := by
  obtain ⟨g1, g2, g3, g4, g5, g6, g7, g8, g9⟩ := h
  unfold heapV at *
  dsimp only at *
  obtain ⟨W0, hW0, hA, hR, k2⟩ := both_new w (.slice (some ⟨b, off, none⟩) N cap) ⟨g1, g2, g3, g4, g5, g6, g7, g8, g9⟩
  dsimp only at hW0
  have HW0 := hid hW0
  have HA := hid hA
  have HR := hid hR
  have HK2 := hid k2
  clear hW0 hA hR k2
  go_enter Try.func21, Try.ntmps21
  go_wp2_with fail
  rw [HW0.out]
  refine (HLy.out _ HK2.out).mono ?_
  rintro e W1 ⟨gb, rfl, HI, hb1⟩
  unfold layV at *
  dsimp only at *
  have k1 := HK2.out.trans (hb1.mono HK2.out.size)
  have HB2 := hid (k1.alloc k1.size (.cells #[.slice (some ⟨b, off, none⟩) N cap, .int .i64 g1, .int .i64 g2, .int .i64 g3, .int .i64 g4, .int .i64 g5, .int .i64 g6, .int .i64 g7, .int .i64 g8, .int .i64 g9, .slice (some ⟨gb, 0, none⟩) N N] 58))
  have HR2 := hid ((HR.out.below hb1).below ((Below.refl _ W1).alloc (Nat.le_refl _) (.cells #[.slice (some ⟨b, off, none⟩) N cap, .int .i64 g1, .int .i64 g2, .int .i64 g3, .int .i64 g4, .int .i64 g5, .int .i64 g6, .int .i64 g7, .int .i64 g8, .int .i64 g9, .slice (some ⟨gb, 0, none⟩) N N] 58)))
  have HA2 := hid ((HA.out.below hb1).below ((Below.refl _ W1).alloc (Nat.le_refl _) (.cells #[.slice (some ⟨b, off, none⟩) N cap, .int .i64 g1, .int .i64 g2, .int .i64 g3, .int .i64 g4, .int .i64 g5, .int .i64 g6, .int .i64 g7, .int .i64 g8, .int .i64 g9, .slice (some ⟨gb, 0, none⟩) N N] 58)))
  have HI2 := hid (HI.out.kept ((Below.refl _ W1).alloc (Nat.le_refl _) (.cells #[.slice (some ⟨b, off, none⟩) N cap, .int .i64 g1, .int .i64 g2, .int .i64 g3, .int .i64 g4, .int .i64 g5, .int .i64 g6, .int .i64 g7, .int .i64 g8, .int .i64 g9, .slice (some ⟨gb, 0, none⟩) N N] 58)))
  have hLB := LayBlk.new W1 (.slice (some ⟨b, off, none⟩) N cap) ⟨g1, g2, g3, g4, g5, g6, g7, g8, g9⟩ (.slice (some ⟨gb, 0, none⟩) N N)
  dsimp only at hLB
  clear k1 hb1 HW0 HA HR HK2 HLy HI
  go_wp2_with fail
  generalize W1.alloc (.cells #[.slice (some ⟨b, off, none⟩) N cap, .int .i64 g1, .int .i64 g2, .int .i64 g3, .int .i64 g4, .int .i64 g5, .int .i64 g6, .int .i64 g7, .int .i64 g8, .int .i64 g9, .slice (some ⟨gb, 0, none⟩) N N] 58) = W2 at *
  obtain ⟨v0, v1, v2, v3, v4, v5, v6, v7, v8, v9, v10⟩ := hLB.later (B := W2.heap.size) (heap_lt hLB)
  dsimp only at v0 v1 v2 v3 v4 v5 v6 v7 v8 v9 v10
  have HLB := hid hLB
  clear hLB
  have u1 : ∀ y : Later W2.heap.size W2, y.w.cell? ⟨gb, k, none⟩ = some (.int .i64 n) := fun y => by
    have e := y.cell (p := ⟨gb, 0 + k, none⟩) HI2.out.glt (HI2.out.sizes k hk)
    rw [Nat.zero_add, HSk.out] at e
    exact e
  refine wp_region_calm W2.heap.size (by kernel_rfl) (by kernel_rfl) ?_
  repeat (go_big_quiet_step (first | (rename_i y; go_at_call 51; refine (HLd.out _ _ (HI2.out.kept y.h)).mono ?_; rintro e w5 ⟨rfl, hb5⟩; exact ⟨rfl, ⟨w5, y.h.trans (hb5.mono y.h.size)⟩, rfl⟩) | (rename_i y; go_at_call 52; refine (HNum.out _).mono ?_; rintro e w5 ⟨rfl, rfl⟩; exact ⟨rfl, y, rfl⟩)))
  refine wpQuiet_nil ?_
  rintro w6 ⟨y, rfl⟩
  have HB6 := hid (HB2.out.trans (y.h.mono HB2.out.size))
  have HR6 := hid (HR2.out.below y.h)
  have HA6 := hid (HA2.out.below y.h)
  have HI6 := hid (HI2.out.kept y.h)
  clear u1 v0 v1 v2 v3 v4 v5 v6 v7 v8 v9 v10
  generalize y.w = W6 at *
  obtain ⟨c0, c1, c2, c3, c4, c5, c6, c7, c8, c9⟩ := HR6.out.cells
  dsimp only at c0 c1 c2 c3 c4 c5 c6 c7 c8 c9
  have z0 := frozen_of_heap HR6.out 0
  have z1 := frozen_of_heap HR6.out 1
  have z2 := frozen_of_heap HR6.out 2
  have z3 := frozen_of_heap HR6.out 3
  have z4 := frozen_of_heap HR6.out 4
  have z5 := frozen_of_heap HR6.out 5
  have z6 := frozen_of_heap HR6.out 6
  have z7 := frozen_of_heap HR6.out 7
  have z8 := frozen_of_heap HR6.out 8
  have z9 := frozen_of_heap HR6.out 9
  go_wp2_with fail
  refine heap_use HR6.out (.slice none 0 0) ⟨0, 0, 0, 0, 0, 0, 0, 0, 0⟩ _ ?_
  intro W7 hL hb7 _ _
  obtain ⟨y0, y1, y2, y3, y4, y5, y6, y7, y8, y9⟩ := hL.cells
  dsimp only at y0 y1 y2 y3 y4 y5 y6 y7 y8 y9
  exact bodyPost_ret (v := .tuple #[noHeap, .int .i64 0, .bool false]) (by simp [results, Try.results21, go_sem, y0, y1, y2, y3, y4, y5, y6, y7, y8, y9, noHeap, heapV]) rfl ⟨rfl, HB6.out.trans (hb7 _ (Nat.le_succ _))⟩

end Go.Proofs.Ytebpgglegnljgaa

/- The program's HeapField: what is read. -/
namespace Go.Proofs.Ytebpgglegnljgaa
open Go.RowKit

/-- A heap is told, and a field. -/
def FieldTold (N : Nat) (w : World) (ws : List Int) (h1 : HpN) (u : Int) (e : Ending) (w' : World) : Prop :=
  ∃ bw cap' : Nat, e = .returned (.tuple #[heapV (.slice (some ⟨bw, 0, none⟩) N cap') h1, .int .i64 u, .bool true]) ∧ CellRow 3 w' bw N (intCells ws) ∧ w.heap.size ≤ bw ∧ Below w.heap.size w w'

set_option maxHeartbeats 8000000 in
set_option maxRecDepth 100000 in
theorem iField_good (b off cap N : Nat) (h : HpN) (x i : Int) (w : World)
    (ws S : List Int)
    (k : Nat) (hk : k < N) (n : Int) (HSk : Hid (S.getD k 0 = n)) (hn0 : 0 ≤ n) (hn1 : n ≤ 6) (hd : decide (i < 0) = false) (hi1 : i < n - 1)
    (hN8 : N ≤ 8000) (hi0 : 0 ≤ i) (u : Int) (s0 s1 : CN) (h1 : HpN)
    (HLy : Hid (∀ X, Below w.heap.size w X → Calls Try.prog 30 #[heapV (.slice (some ⟨b, off, none⟩) N cap) h] X fun e w' => ∃ gb, e = .returned (.tuple #[layV (.slice (some ⟨b, off, none⟩) N cap) h (.slice (some ⟨gb, 0, none⟩) N N), .bool true]) ∧ Hid (ISt b off gb N ws S w') ∧ Below X.heap.size X w'))
    (HLd : Hid (∀ (X : World) (gb : Nat), ISt b off gb N ws S X → Calls Try.prog 51 #[layV (.slice (some ⟨b, off, none⟩) N cap) h (.slice (some ⟨gb, 0, none⟩) N N), .int .i64 x, .int .i64 h.to] X fun e w' => e = .returned (.bool true) ∧ Below X.heap.size X w'))
    (HNum : Hid (∀ w, Calls Try.prog 52 #[.int .i64 x] w fun e w' => e = .returned (.int .i64 (k : Int)) ∧ w = w'))
    (HOp : Hid (∀ X, Below w.heap.size w X → Calls Try.prog 42 #[heapV (.slice (some ⟨b, off, none⟩) N cap) h] X fun e w' => ∃ bc bw cap' : Nat, e = .returned (.pointer (some ⟨bc, 0, none⟩)) ∧ Col X bc bw N cap' s0.ws s0.h s0.r s0.t w' ∧ X.heap.size ≤ bc ∧ X.heap.size ≤ bw))
    (HFd : Hid (∀ (X w0 : World) (bc bw cap' : Nat), Col w0 bc bw N cap' s0.ws s0.h s0.r s0.t X → Calls Try.prog 53 #[.pointer (some ⟨bc, 0, none⟩), .int .i64 ((k : Int) + 1 + i)] X fun e w' => e = .returned (.tuple #[.int .i64 u, .bool true]) ∧ Col w0 bc bw N cap' s1.ws s1.h s1.r s1.t w'))
    (HTd : Hid (∀ (X w0 : World) (bc bw cap' : Nat), Col w0 bc bw N cap' s1.ws s1.h s1.r s1.t X → Calls Try.prog 45 #[.pointer (some ⟨bc, 0, none⟩)] X fun e w' => e = .returned (heapV (.slice (some ⟨bw, 0, none⟩) N cap') h1) ∧ Below X.heap.size X w')) :
    Calls Try.prog 21 #[heapV (.slice (some ⟨b, off, none⟩) N cap) h, .int .i64 x, .int .i64 i] w (FieldTold N w s1.ws h1 u) := by
  obtain ⟨g1, g2, g3, g4, g5, g6, g7, g8, g9⟩ := h
  unfold heapV at *
  dsimp only at *
  obtain ⟨W0, hW0, hA, hR, k2⟩ := both_new w (.slice (some ⟨b, off, none⟩) N cap) ⟨g1, g2, g3, g4, g5, g6, g7, g8, g9⟩
  dsimp only at hW0
  have HW0 := hid hW0
  have HA := hid hA
  have HR := hid hR
  have HK2 := hid k2
  clear hW0 hA hR k2
  go_enter Try.func21, Try.ntmps21
  go_wp2_with fail
  rw [HW0.out]
  refine (HLy.out _ HK2.out).mono ?_
  rintro e W1 ⟨gb, rfl, HI, hb1⟩
  unfold layV at *
  dsimp only at *
  have k1 := HK2.out.trans (hb1.mono HK2.out.size)
  have HB2 := hid (k1.alloc k1.size (.cells #[.slice (some ⟨b, off, none⟩) N cap, .int .i64 g1, .int .i64 g2, .int .i64 g3, .int .i64 g4, .int .i64 g5, .int .i64 g6, .int .i64 g7, .int .i64 g8, .int .i64 g9, .slice (some ⟨gb, 0, none⟩) N N] 58))
  have HR2 := hid ((HR.out.below hb1).below ((Below.refl _ W1).alloc (Nat.le_refl _) (.cells #[.slice (some ⟨b, off, none⟩) N cap, .int .i64 g1, .int .i64 g2, .int .i64 g3, .int .i64 g4, .int .i64 g5, .int .i64 g6, .int .i64 g7, .int .i64 g8, .int .i64 g9, .slice (some ⟨gb, 0, none⟩) N N] 58)))
  have HA2 := hid ((HA.out.below hb1).below ((Below.refl _ W1).alloc (Nat.le_refl _) (.cells #[.slice (some ⟨b, off, none⟩) N cap, .int .i64 g1, .int .i64 g2, .int .i64 g3, .int .i64 g4, .int .i64 g5, .int .i64 g6, .int .i64 g7, .int .i64 g8, .int .i64 g9, .slice (some ⟨gb, 0, none⟩) N N] 58)))
  have HI2 := hid (HI.out.kept ((Below.refl _ W1).alloc (Nat.le_refl _) (.cells #[.slice (some ⟨b, off, none⟩) N cap, .int .i64 g1, .int .i64 g2, .int .i64 g3, .int .i64 g4, .int .i64 g5, .int .i64 g6, .int .i64 g7, .int .i64 g8, .int .i64 g9, .slice (some ⟨gb, 0, none⟩) N N] 58)))
  have hLB := LayBlk.new W1 (.slice (some ⟨b, off, none⟩) N cap) ⟨g1, g2, g3, g4, g5, g6, g7, g8, g9⟩ (.slice (some ⟨gb, 0, none⟩) N N)
  dsimp only at hLB
  clear k1 hb1 HW0 HA HR HK2 HLy HI
  go_wp2_with fail
  generalize W1.alloc (.cells #[.slice (some ⟨b, off, none⟩) N cap, .int .i64 g1, .int .i64 g2, .int .i64 g3, .int .i64 g4, .int .i64 g5, .int .i64 g6, .int .i64 g7, .int .i64 g8, .int .i64 g9, .slice (some ⟨gb, 0, none⟩) N N] 58) = W2 at *
  obtain ⟨v0, v1, v2, v3, v4, v5, v6, v7, v8, v9, v10⟩ := hLB.later (B := W2.heap.size) (heap_lt hLB)
  dsimp only at v0 v1 v2 v3 v4 v5 v6 v7 v8 v9 v10
  have HLB := hid hLB
  clear hLB
  have u1 : ∀ y : Later W2.heap.size W2, y.w.cell? ⟨gb, k, none⟩ = some (.int .i64 n) := fun y => by
    have e := y.cell (p := ⟨gb, 0 + k, none⟩) HI2.out.glt (HI2.out.sizes k hk)
    rw [Nat.zero_add, HSk.out] at e
    exact e
  refine wp_region_calm W2.heap.size (by kernel_rfl) (by kernel_rfl) ?_
  repeat (go_big_quiet_step (first | (rename_i y; go_at_call 51; refine (HLd.out _ _ (HI2.out.kept y.h)).mono ?_; rintro e w5 ⟨rfl, hb5⟩; exact ⟨rfl, ⟨w5, y.h.trans (hb5.mono y.h.size)⟩, rfl⟩) | (rename_i y; go_at_call 52; refine (HNum.out _).mono ?_; rintro e w5 ⟨rfl, rfl⟩; exact ⟨rfl, y, rfl⟩)))
  refine wpQuiet_nil ?_
  rintro w6 ⟨y, rfl⟩
  have HB6 := hid (HB2.out.trans (y.h.mono HB2.out.size))
  have HR6 := hid (HR2.out.below y.h)
  have HA6 := hid (HA2.out.below y.h)
  have HI6 := hid (HI2.out.kept y.h)
  clear u1 v0 v1 v2 v3 v4 v5 v6 v7 v8 v9 v10
  generalize y.w = W6 at *
  obtain ⟨c0, c1, c2, c3, c4, c5, c6, c7, c8, c9⟩ := HA6.out.cells
  dsimp only at c0 c1 c2 c3 c4 c5 c6 c7 c8 c9
  go_wp2_with fail
  refine (HOp.out _ HB6.out).mono ?_
  rintro e W7 ⟨bc, bw, cap', rfl, hW7, hlo, hlo2⟩
  have HW7 := hid hW7
  have hlt6 := heap_lt HR6.out
  clear hW7 HOp HA6 c0 c1 c2 c3 c4 c5 c6 c7 c8 c9
  go_wp2_with fail
  refine (HNum.out _).mono ?_
  rintro e W7b ⟨rfl, rfl⟩
  go_wp2_with fail
  refine (HFd.out _ _ _ _ _ HW7.out).mono ?_
  rintro e W8 ⟨rfl, hW8⟩
  have HW8 := hid hW8
  clear hW8 HFd HW7
  obtain ⟨i1, i2, i3, i4, i5, i6, i7, i8, i9⟩ := h1
  dsimp only at HTd
  go_wp2_with fail
  refine (HTd.out _ _ _ _ _ HW8.out).mono ?_
  rintro e W9 ⟨rfl, hb9⟩
  have HW9 := hid (HW8.out.keep hb9)
  have HR9 := hid (HR6.out.below (HW9.out.frame.below hlo hlo2))
  have HB9 := hid (HB6.out.trans ((HW9.out.frame.below hlo hlo2).mono HB6.out.size))
  obtain ⟨c0, c1, c2, c3, c4, c5, c6, c7, c8, c9⟩ := HR9.out.cells
  dsimp only at c0 c1 c2 c3 c4 c5 c6 c7 c8 c9
  have z0 := frozen_of_heap HR9.out 0
  have z1 := frozen_of_heap HR9.out 1
  have z2 := frozen_of_heap HR9.out 2
  have z3 := frozen_of_heap HR9.out 3
  have z4 := frozen_of_heap HR9.out 4
  have z5 := frozen_of_heap HR9.out 5
  have z6 := frozen_of_heap HR9.out 6
  have z7 := frozen_of_heap HR9.out 7
  have z8 := frozen_of_heap HR9.out 8
  have z9 := frozen_of_heap HR9.out 9
  clear hb9 HTd HW8 HR6 HB6
  go_wp2_with fail
  refine heap_use HR9.out (.slice (some ⟨bw, 0, none⟩) N cap') ⟨i1, i2, i3, i4, i5, i6, i7, i8, i9⟩ _ ?_
  intro W10 hL hb10 _ hoth
  obtain ⟨y0, y1, y2, y3, y4, y5, y6, y7, y8, y9⟩ := hL.cells
  dsimp only at y0 y1 y2 y3 y4 y5 y6 y7 y8 y9
  exact bodyPost_ret (v := .tuple #[heapV (.slice (some ⟨bw, 0, none⟩) N cap') ⟨i1, i2, i3, i4, i5, i6, i7, i8, i9⟩, .int .i64 u, .bool true]) (by simp [results, Try.results21, go_sem, y0, y1, y2, y3, y4, y5, y6, y7, y8, y9, heapV]) rfl ⟨bw, cap', rfl, HW9.out.row.of_block (hoth _ (by omega)), by have := HB9.out.size; omega, HB9.out.trans (hb10 _ (Nat.le_succ _))⟩

set_option maxHeartbeats 8000000 in
set_option maxRecDepth 100000 in
theorem iField_full (b off cap N : Nat) (h : HpN) (x i : Int) (w : World)
    (ws S : List Int)
    (k : Nat) (hk : k < N) (n : Int) (HSk : Hid (S.getD k 0 = n)) (hn0 : 0 ≤ n) (hn1 : n ≤ 6) (hd : decide (i < 0) = false) (hi1 : i < n - 1)
    (hN8 : N ≤ 8000) (hi0 : 0 ≤ i) (s0 s1 : CN)
    (HLy : Hid (∀ X, Below w.heap.size w X → Calls Try.prog 30 #[heapV (.slice (some ⟨b, off, none⟩) N cap) h] X fun e w' => ∃ gb, e = .returned (.tuple #[layV (.slice (some ⟨b, off, none⟩) N cap) h (.slice (some ⟨gb, 0, none⟩) N N), .bool true]) ∧ Hid (ISt b off gb N ws S w') ∧ Below X.heap.size X w'))
    (HLd : Hid (∀ (X : World) (gb : Nat), ISt b off gb N ws S X → Calls Try.prog 51 #[layV (.slice (some ⟨b, off, none⟩) N cap) h (.slice (some ⟨gb, 0, none⟩) N N), .int .i64 x, .int .i64 h.to] X fun e w' => e = .returned (.bool true) ∧ Below X.heap.size X w'))
    (HNum : Hid (∀ w, Calls Try.prog 52 #[.int .i64 x] w fun e w' => e = .returned (.int .i64 (k : Int)) ∧ w = w'))
    (HOp : Hid (∀ X, Below w.heap.size w X → Calls Try.prog 42 #[heapV (.slice (some ⟨b, off, none⟩) N cap) h] X fun e w' => ∃ bc bw cap' : Nat, e = .returned (.pointer (some ⟨bc, 0, none⟩)) ∧ Col X bc bw N cap' s0.ws s0.h s0.r s0.t w' ∧ X.heap.size ≤ bc ∧ X.heap.size ≤ bw))
    (HFd : Hid (∀ (X w0 : World) (bc bw cap' : Nat), Col w0 bc bw N cap' s0.ws s0.h s0.r s0.t X → Calls Try.prog 53 #[.pointer (some ⟨bc, 0, none⟩), .int .i64 ((k : Int) + 1 + i)] X fun e w' => e = .returned (.tuple #[.int .i64 0, .bool false]) ∧ Col w0 bc bw N cap' s1.ws s1.h s1.r s1.t w')) :
    Calls Try.prog 21 #[heapV (.slice (some ⟨b, off, none⟩) N cap) h, .int .i64 x, .int .i64 i] w fun e w' => e = .returned (.tuple #[noHeap, .int .i64 0, .bool false]) ∧ Below w.heap.size w w' := by
  obtain ⟨g1, g2, g3, g4, g5, g6, g7, g8, g9⟩ := h
  unfold heapV at *
  dsimp only at *
  obtain ⟨W0, hW0, hA, hR, k2⟩ := both_new w (.slice (some ⟨b, off, none⟩) N cap) ⟨g1, g2, g3, g4, g5, g6, g7, g8, g9⟩
  dsimp only at hW0
  have HW0 := hid hW0
  have HA := hid hA
  have HR := hid hR
  have HK2 := hid k2
  clear hW0 hA hR k2
  go_enter Try.func21, Try.ntmps21
  go_wp2_with fail
  rw [HW0.out]
  refine (HLy.out _ HK2.out).mono ?_
  rintro e W1 ⟨gb, rfl, HI, hb1⟩
  unfold layV at *
  dsimp only at *
  have k1 := HK2.out.trans (hb1.mono HK2.out.size)
  have HB2 := hid (k1.alloc k1.size (.cells #[.slice (some ⟨b, off, none⟩) N cap, .int .i64 g1, .int .i64 g2, .int .i64 g3, .int .i64 g4, .int .i64 g5, .int .i64 g6, .int .i64 g7, .int .i64 g8, .int .i64 g9, .slice (some ⟨gb, 0, none⟩) N N] 58))
  have HR2 := hid ((HR.out.below hb1).below ((Below.refl _ W1).alloc (Nat.le_refl _) (.cells #[.slice (some ⟨b, off, none⟩) N cap, .int .i64 g1, .int .i64 g2, .int .i64 g3, .int .i64 g4, .int .i64 g5, .int .i64 g6, .int .i64 g7, .int .i64 g8, .int .i64 g9, .slice (some ⟨gb, 0, none⟩) N N] 58)))
  have HA2 := hid ((HA.out.below hb1).below ((Below.refl _ W1).alloc (Nat.le_refl _) (.cells #[.slice (some ⟨b, off, none⟩) N cap, .int .i64 g1, .int .i64 g2, .int .i64 g3, .int .i64 g4, .int .i64 g5, .int .i64 g6, .int .i64 g7, .int .i64 g8, .int .i64 g9, .slice (some ⟨gb, 0, none⟩) N N] 58)))
  have HI2 := hid (HI.out.kept ((Below.refl _ W1).alloc (Nat.le_refl _) (.cells #[.slice (some ⟨b, off, none⟩) N cap, .int .i64 g1, .int .i64 g2, .int .i64 g3, .int .i64 g4, .int .i64 g5, .int .i64 g6, .int .i64 g7, .int .i64 g8, .int .i64 g9, .slice (some ⟨gb, 0, none⟩) N N] 58)))
  have hLB := LayBlk.new W1 (.slice (some ⟨b, off, none⟩) N cap) ⟨g1, g2, g3, g4, g5, g6, g7, g8, g9⟩ (.slice (some ⟨gb, 0, none⟩) N N)
  dsimp only at hLB
  clear k1 hb1 HW0 HA HR HK2 HLy HI
  go_wp2_with fail
  generalize W1.alloc (.cells #[.slice (some ⟨b, off, none⟩) N cap, .int .i64 g1, .int .i64 g2, .int .i64 g3, .int .i64 g4, .int .i64 g5, .int .i64 g6, .int .i64 g7, .int .i64 g8, .int .i64 g9, .slice (some ⟨gb, 0, none⟩) N N] 58) = W2 at *
  obtain ⟨v0, v1, v2, v3, v4, v5, v6, v7, v8, v9, v10⟩ := hLB.later (B := W2.heap.size) (heap_lt hLB)
  dsimp only at v0 v1 v2 v3 v4 v5 v6 v7 v8 v9 v10
  have HLB := hid hLB
  clear hLB
  have u1 : ∀ y : Later W2.heap.size W2, y.w.cell? ⟨gb, k, none⟩ = some (.int .i64 n) := fun y => by
    have e := y.cell (p := ⟨gb, 0 + k, none⟩) HI2.out.glt (HI2.out.sizes k hk)
    rw [Nat.zero_add, HSk.out] at e
    exact e
  refine wp_region_calm W2.heap.size (by kernel_rfl) (by kernel_rfl) ?_
  repeat (go_big_quiet_step (first | (rename_i y; go_at_call 51; refine (HLd.out _ _ (HI2.out.kept y.h)).mono ?_; rintro e w5 ⟨rfl, hb5⟩; exact ⟨rfl, ⟨w5, y.h.trans (hb5.mono y.h.size)⟩, rfl⟩) | (rename_i y; go_at_call 52; refine (HNum.out _).mono ?_; rintro e w5 ⟨rfl, rfl⟩; exact ⟨rfl, y, rfl⟩)))
  refine wpQuiet_nil ?_
  rintro w6 ⟨y, rfl⟩
  have HB6 := hid (HB2.out.trans (y.h.mono HB2.out.size))
  have HR6 := hid (HR2.out.below y.h)
  have HA6 := hid (HA2.out.below y.h)
  have HI6 := hid (HI2.out.kept y.h)
  clear u1 v0 v1 v2 v3 v4 v5 v6 v7 v8 v9 v10
  generalize y.w = W6 at *
  obtain ⟨c0, c1, c2, c3, c4, c5, c6, c7, c8, c9⟩ := HA6.out.cells
  dsimp only at c0 c1 c2 c3 c4 c5 c6 c7 c8 c9
  go_wp2_with fail
  refine (HOp.out _ HB6.out).mono ?_
  rintro e W7 ⟨bc, bw, cap', rfl, hW7, hlo, hlo2⟩
  have HW7 := hid hW7
  have hlt6 := heap_lt HR6.out
  clear hW7 HOp HA6 c0 c1 c2 c3 c4 c5 c6 c7 c8 c9
  go_wp2_with fail
  refine (HNum.out _).mono ?_
  rintro e W7b ⟨rfl, rfl⟩
  go_wp2_with fail
  refine (HFd.out _ _ _ _ _ HW7.out).mono ?_
  rintro e W8 ⟨rfl, hW8⟩
  have HW8 := hid hW8
  clear hW8 HFd HW7
  have HB8 := hid (HB6.out.trans ((HW8.out.frame.below hlo hlo2).mono HB6.out.size))
  have HR8 := hid (HR6.out.below (HW8.out.frame.below hlo hlo2))
  clear HR6 HB6
  obtain ⟨c0, c1, c2, c3, c4, c5, c6, c7, c8, c9⟩ := HR8.out.cells
  dsimp only at c0 c1 c2 c3 c4 c5 c6 c7 c8 c9
  have z0 := frozen_of_heap HR8.out 0
  have z1 := frozen_of_heap HR8.out 1
  have z2 := frozen_of_heap HR8.out 2
  have z3 := frozen_of_heap HR8.out 3
  have z4 := frozen_of_heap HR8.out 4
  have z5 := frozen_of_heap HR8.out 5
  have z6 := frozen_of_heap HR8.out 6
  have z7 := frozen_of_heap HR8.out 7
  have z8 := frozen_of_heap HR8.out 8
  have z9 := frozen_of_heap HR8.out 9
  go_wp2_with fail
  refine heap_use HR8.out (.slice none 0 0) ⟨0, 0, 0, 0, 0, 0, 0, 0, 0⟩ _ ?_
  intro W7 hL hb7 _ _
  obtain ⟨y0, y1, y2, y3, y4, y5, y6, y7, y8, y9⟩ := hL.cells
  dsimp only at y0 y1 y2 y3 y4 y5 y6 y7 y8 y9
  exact bodyPost_ret (v := .tuple #[noHeap, .int .i64 0, .bool false]) (by simp [results, Try.results21, go_sem, y0, y1, y2, y3, y4, y5, y6, y7, y8, y9, noHeap, heapV]) rfl ⟨rfl, HB8.out.trans (hb7 _ (Nat.le_succ _))⟩

end Go.Proofs.Ytebpgglegnljgaa

/- The program's read of a field, told with the room of its words. -/
namespace Go.Proofs.Ytebpgglegnljgaa
open Go.RowKit

set_option maxHeartbeats 1000000 in
set_option maxRecDepth 100000 in
theorem collectorOf_cap (b off cap N : Nat) (ws : List Int) (h : HpN) (w : World) (hN0 : 0 < N) (hl : ws.length = N) (hN : N ≤ 8000) (hb : b < w.heap.size)
    (hw : ∀ k, k < N → w.cell? ⟨b, off + k, none⟩ = some (.int .i64 (ws.getD k 0))) :
    Calls Try.prog 42 #[heapV (.slice (some ⟨b, off, none⟩) N cap) h] w fun e w' => ∃ bc bw cap' : Nat, e = .returned (.pointer (some ⟨bc, 0, none⟩)) ∧ (Col w bc bw N cap' ws h 0 0 w' ∧ N ≤ cap') ∧ w.heap.size ≤ bc ∧ w.heap.size ≤ bw := by
  have HCl := hid (fun (X : World) (hX : Below w.heap.size w X) => Try.slices_Clone_int b off N cap ws X (by omega) (by omega) (fun j hj => (hX.cell (p := ⟨b, off + j, none⟩) hb).trans (hw j (by omega))))
  clear hw
  obtain ⟨g1, g2, g3, g4, g5, g6, g7, g8, g9⟩ := h
  unfold heapV
  dsimp only
  go_enter Try.func42, Try.ntmps42
  go_wp2_with fail
  refine (HCl.out _ (by first | exact (Below.refl _ _).alloc (Nat.le_refl _) _ | exact ((Below.refl _ _).alloc (Nat.le_refl _) _).drew)).mono ?_
  rintro e W1 ⟨v', rfl, how, hv0, hb1⟩
  have hH : HeapBlk W1 w.heap.size (.slice (some ⟨b, off, none⟩) N cap) ⟨g1, g2, g3, g4, g5, g6, g7, g8, g9⟩ := (hb1.block w.heap.size (by simp)).trans ((MapKept.heap_alloc w _).1)
  obtain ⟨hxl, hh | ⟨g, cp, cur, rfl, hg, hcur, hcp, -, hcs, htk⟩⟩ := how
  · exact absurd hh.1 hv0
  have hbl : Below w.heap.size w W1 := one_below hb1
  obtain ⟨c0, c1, c2, c3, c4, c5, c6, c7, c8, c9⟩ := hH.cells
  dsimp only at c0 c1 c2 c3 c4 c5 c6 c7 c8 c9
  have f0 := frozen_of_heap hH 0
  have HB := hid hbl
  have HCur := hid hcur
  have HG : Hid (w.heap.size < g) := by have := hg; simp at this; exact this
  have HH := hid hH
  clear hb1 hbl hcur hg hH HCl hv0 hxl
  go_wp2_with fail
  go_ret
  have hrow : CellRow 3 W1 g N (intCells ws) := by
    refine ⟨cp, fun i => (cur[i]?).getD undef, ⟨cur, (0, 0), HCur.out, by omega, fun i hi => ?_, Or.inl rfl⟩, hcp, fun i hi => ?_⟩
    · have e := Array.getElem?_eq_getElem (xs := cur) (i := i) (by omega)
      dsimp only
      rw [e]
      rfl
    · have e : (cur.toList.take (N * 1))[i]? = (List.map (Value.int IntKind.i64) (List.take N ws))[i]? := by rw [htk]
      rw [Nat.mul_one, List.getElem?_take_of_lt hi, List.getElem?_map, List.getElem?_take_of_lt hi, Array.getElem?_toList, List.getElem?_eq_getElem (by omega)] at e
      dsimp only
      rw [e]
      simp [intCells, List.getD, hl, hi]
  have hs : (W1.setCell ⟨w.heap.size, 0, none⟩ (.slice (some ⟨g, 0, none⟩) N cp)).heap.size = W1.heap.size := by simp [World.setCell]
  have hgl := hrow.lt
  have hsz := HB.out.size
  refine ⟨W1.heap.size, g, cp, rfl, ⟨⟨?_, ?_, hl, by omega, Frm.of_below ((HB.out.setCell (Nat.le_refl _) _).alloc (by rw [hs]; exact hsz) _)⟩, hcp⟩, hsz, Nat.le_of_lt HG.out⟩
  · have e := (MapKept.heap_alloc (W1.setCell ⟨w.heap.size, 0, none⟩ (.slice (some ⟨g, 0, none⟩) N cp)) (.cells #[.slice (some ⟨g, 0, none⟩) N cp, .int .i64 g1, .int .i64 g2, .int .i64 g3, .int .i64 g4, .int .i64 g5, .int .i64 g6, .int .i64 g7, .int .i64 g8, .int .i64 g9, .int .i64 0, .int .i64 0] 102)).1
    rw [hs] at e
    exact e
  · refine hrow.of_block ?_
    have e1 := ((Below.refl (W1.setCell ⟨w.heap.size, 0, none⟩ (.slice (some ⟨g, 0, none⟩) N cp)).heap.size _).alloc (Nat.le_refl _) (.cells #[.slice (some ⟨g, 0, none⟩) N cp, .int .i64 g1, .int .i64 g2, .int .i64 g3, .int .i64 g4, .int .i64 g5, .int .i64 g6, .int .i64 g7, .int .i64 g8, .int .i64 g9, .int .i64 0, .int .i64 0] 102)).block g (by rw [hs]; exact hgl)
    exact e1.trans (Below.heap_setCell _ _ _ _ (by have := HG.out; dsimp only; omega))

/-- A heap, its words with room, and a number are told. -/
def FieldToldC (N : Nat) (w : World) (ws : List Int) (h1 : HpN) (u : Int) (e : Ending) (w' : World) : Prop :=
  (∃ bw cap' : Nat, e = .returned (.tuple #[heapV (.slice (some ⟨bw, 0, none⟩) N cap') h1, .int .i64 u, .bool true]) ∧ CellRow 3 w' bw N (intCells ws) ∧ w.heap.size ≤ bw ∧ Below w.heap.size w w' ∧ N ≤ cap')

set_option maxHeartbeats 8000000 in
set_option maxRecDepth 100000 in
theorem iField_goodC (b off cap N : Nat) (h : HpN) (x i : Int) (w : World)
    (ws S : List Int)
    (k : Nat) (hk : k < N) (n : Int) (HSk : Hid (S.getD k 0 = n)) (hn0 : 0 ≤ n) (hn1 : n ≤ 6) (hd : decide (i < 0) = false) (hi1 : i < n - 1)
    (hN8 : N ≤ 8000) (hi0 : 0 ≤ i) (u : Int) (s0 s1 : CN) (h1 : HpN)
    (HLy : Hid (∀ X, Below w.heap.size w X → Calls Try.prog 30 #[heapV (.slice (some ⟨b, off, none⟩) N cap) h] X fun e w' => ∃ gb, e = .returned (.tuple #[layV (.slice (some ⟨b, off, none⟩) N cap) h (.slice (some ⟨gb, 0, none⟩) N N), .bool true]) ∧ Hid (ISt b off gb N ws S w') ∧ Below X.heap.size X w'))
    (HLd : Hid (∀ (X : World) (gb : Nat), ISt b off gb N ws S X → Calls Try.prog 51 #[layV (.slice (some ⟨b, off, none⟩) N cap) h (.slice (some ⟨gb, 0, none⟩) N N), .int .i64 x, .int .i64 h.to] X fun e w' => e = .returned (.bool true) ∧ Below X.heap.size X w'))
    (HNum : Hid (∀ w, Calls Try.prog 52 #[.int .i64 x] w fun e w' => e = .returned (.int .i64 (k : Int)) ∧ w = w'))
    (HOp : Hid (∀ X, Below w.heap.size w X → Calls Try.prog 42 #[heapV (.slice (some ⟨b, off, none⟩) N cap) h] X fun e w' => ∃ bc bw cap' : Nat, e = .returned (.pointer (some ⟨bc, 0, none⟩)) ∧ (Col X bc bw N cap' s0.ws s0.h s0.r s0.t w' ∧ N ≤ cap') ∧ X.heap.size ≤ bc ∧ X.heap.size ≤ bw))
    (HFd : Hid (∀ (X w0 : World) (bc bw cap' : Nat), Col w0 bc bw N cap' s0.ws s0.h s0.r s0.t X → Calls Try.prog 53 #[.pointer (some ⟨bc, 0, none⟩), .int .i64 ((k : Int) + 1 + i)] X fun e w' => e = .returned (.tuple #[.int .i64 u, .bool true]) ∧ Col w0 bc bw N cap' s1.ws s1.h s1.r s1.t w'))
    (HTd : Hid (∀ (X w0 : World) (bc bw cap' : Nat), Col w0 bc bw N cap' s1.ws s1.h s1.r s1.t X → Calls Try.prog 45 #[.pointer (some ⟨bc, 0, none⟩)] X fun e w' => e = .returned (heapV (.slice (some ⟨bw, 0, none⟩) N cap') h1) ∧ Below X.heap.size X w')) :
    Calls Try.prog 21 #[heapV (.slice (some ⟨b, off, none⟩) N cap) h, .int .i64 x, .int .i64 i] w (FieldToldC N w s1.ws h1 u) := by
  obtain ⟨g1, g2, g3, g4, g5, g6, g7, g8, g9⟩ := h
  unfold heapV at *
  dsimp only at *
  obtain ⟨W0, hW0, hA, hR, k2⟩ := both_new w (.slice (some ⟨b, off, none⟩) N cap) ⟨g1, g2, g3, g4, g5, g6, g7, g8, g9⟩
  dsimp only at hW0
  have HW0 := hid hW0
  have HA := hid hA
  have HR := hid hR
  have HK2 := hid k2
  clear hW0 hA hR k2
  go_enter Try.func21, Try.ntmps21
  go_wp2_with fail
  rw [HW0.out]
  refine (HLy.out _ HK2.out).mono ?_
  rintro e W1 ⟨gb, rfl, HI, hb1⟩
  unfold layV at *
  dsimp only at *
  have k1 := HK2.out.trans (hb1.mono HK2.out.size)
  have HB2 := hid (k1.alloc k1.size (.cells #[.slice (some ⟨b, off, none⟩) N cap, .int .i64 g1, .int .i64 g2, .int .i64 g3, .int .i64 g4, .int .i64 g5, .int .i64 g6, .int .i64 g7, .int .i64 g8, .int .i64 g9, .slice (some ⟨gb, 0, none⟩) N N] 58))
  have HR2 := hid ((HR.out.below hb1).below ((Below.refl _ W1).alloc (Nat.le_refl _) (.cells #[.slice (some ⟨b, off, none⟩) N cap, .int .i64 g1, .int .i64 g2, .int .i64 g3, .int .i64 g4, .int .i64 g5, .int .i64 g6, .int .i64 g7, .int .i64 g8, .int .i64 g9, .slice (some ⟨gb, 0, none⟩) N N] 58)))
  have HA2 := hid ((HA.out.below hb1).below ((Below.refl _ W1).alloc (Nat.le_refl _) (.cells #[.slice (some ⟨b, off, none⟩) N cap, .int .i64 g1, .int .i64 g2, .int .i64 g3, .int .i64 g4, .int .i64 g5, .int .i64 g6, .int .i64 g7, .int .i64 g8, .int .i64 g9, .slice (some ⟨gb, 0, none⟩) N N] 58)))
  have HI2 := hid (HI.out.kept ((Below.refl _ W1).alloc (Nat.le_refl _) (.cells #[.slice (some ⟨b, off, none⟩) N cap, .int .i64 g1, .int .i64 g2, .int .i64 g3, .int .i64 g4, .int .i64 g5, .int .i64 g6, .int .i64 g7, .int .i64 g8, .int .i64 g9, .slice (some ⟨gb, 0, none⟩) N N] 58)))
  have hLB := LayBlk.new W1 (.slice (some ⟨b, off, none⟩) N cap) ⟨g1, g2, g3, g4, g5, g6, g7, g8, g9⟩ (.slice (some ⟨gb, 0, none⟩) N N)
  dsimp only at hLB
  clear k1 hb1 HW0 HA HR HK2 HLy HI
  go_wp2_with fail
  generalize W1.alloc (.cells #[.slice (some ⟨b, off, none⟩) N cap, .int .i64 g1, .int .i64 g2, .int .i64 g3, .int .i64 g4, .int .i64 g5, .int .i64 g6, .int .i64 g7, .int .i64 g8, .int .i64 g9, .slice (some ⟨gb, 0, none⟩) N N] 58) = W2 at *
  obtain ⟨v0, v1, v2, v3, v4, v5, v6, v7, v8, v9, v10⟩ := hLB.later (B := W2.heap.size) (heap_lt hLB)
  dsimp only at v0 v1 v2 v3 v4 v5 v6 v7 v8 v9 v10
  have HLB := hid hLB
  clear hLB
  have u1 : ∀ y : Later W2.heap.size W2, y.w.cell? ⟨gb, k, none⟩ = some (.int .i64 n) := fun y => by
    have e := y.cell (p := ⟨gb, 0 + k, none⟩) HI2.out.glt (HI2.out.sizes k hk)
    rw [Nat.zero_add, HSk.out] at e
    exact e
  refine wp_region_calm W2.heap.size (by kernel_rfl) (by kernel_rfl) ?_
  repeat (go_big_quiet_step (first | (rename_i y; go_at_call 51; refine (HLd.out _ _ (HI2.out.kept y.h)).mono ?_; rintro e w5 ⟨rfl, hb5⟩; exact ⟨rfl, ⟨w5, y.h.trans (hb5.mono y.h.size)⟩, rfl⟩) | (rename_i y; go_at_call 52; refine (HNum.out _).mono ?_; rintro e w5 ⟨rfl, rfl⟩; exact ⟨rfl, y, rfl⟩)))
  refine wpQuiet_nil ?_
  rintro w6 ⟨y, rfl⟩
  have HB6 := hid (HB2.out.trans (y.h.mono HB2.out.size))
  have HR6 := hid (HR2.out.below y.h)
  have HA6 := hid (HA2.out.below y.h)
  have HI6 := hid (HI2.out.kept y.h)
  clear u1 v0 v1 v2 v3 v4 v5 v6 v7 v8 v9 v10
  generalize y.w = W6 at *
  obtain ⟨c0, c1, c2, c3, c4, c5, c6, c7, c8, c9⟩ := HA6.out.cells
  dsimp only at c0 c1 c2 c3 c4 c5 c6 c7 c8 c9
  go_wp2_with fail
  refine (HOp.out _ HB6.out).mono ?_
  rintro e W7 ⟨bc, bw, cap', rfl, ⟨hW7, hcp7⟩, hlo, hlo2⟩
  have HCp7 := hid hcp7
  clear hcp7
  have HW7 := hid hW7
  have hlt6 := heap_lt HR6.out
  clear hW7 HOp HA6 c0 c1 c2 c3 c4 c5 c6 c7 c8 c9
  go_wp2_with fail
  refine (HNum.out _).mono ?_
  rintro e W7b ⟨rfl, rfl⟩
  go_wp2_with fail
  refine (HFd.out _ _ _ _ _ HW7.out).mono ?_
  rintro e W8 ⟨rfl, hW8⟩
  have HW8 := hid hW8
  clear hW8 HFd HW7
  obtain ⟨i1, i2, i3, i4, i5, i6, i7, i8, i9⟩ := h1
  dsimp only at HTd
  go_wp2_with fail
  refine (HTd.out _ _ _ _ _ HW8.out).mono ?_
  rintro e W9 ⟨rfl, hb9⟩
  have HW9 := hid (HW8.out.keep hb9)
  have HR9 := hid (HR6.out.below (HW9.out.frame.below hlo hlo2))
  have HB9 := hid (HB6.out.trans ((HW9.out.frame.below hlo hlo2).mono HB6.out.size))
  obtain ⟨c0, c1, c2, c3, c4, c5, c6, c7, c8, c9⟩ := HR9.out.cells
  dsimp only at c0 c1 c2 c3 c4 c5 c6 c7 c8 c9
  have z0 := frozen_of_heap HR9.out 0
  have z1 := frozen_of_heap HR9.out 1
  have z2 := frozen_of_heap HR9.out 2
  have z3 := frozen_of_heap HR9.out 3
  have z4 := frozen_of_heap HR9.out 4
  have z5 := frozen_of_heap HR9.out 5
  have z6 := frozen_of_heap HR9.out 6
  have z7 := frozen_of_heap HR9.out 7
  have z8 := frozen_of_heap HR9.out 8
  have z9 := frozen_of_heap HR9.out 9
  clear hb9 HTd HW8 HR6 HB6
  go_wp2_with fail
  refine heap_use HR9.out (.slice (some ⟨bw, 0, none⟩) N cap') ⟨i1, i2, i3, i4, i5, i6, i7, i8, i9⟩ _ ?_
  intro W10 hL hb10 _ hoth
  obtain ⟨y0, y1, y2, y3, y4, y5, y6, y7, y8, y9⟩ := hL.cells
  dsimp only at y0 y1 y2 y3 y4 y5 y6 y7 y8 y9
  exact bodyPost_ret (v := .tuple #[heapV (.slice (some ⟨bw, 0, none⟩) N cap') ⟨i1, i2, i3, i4, i5, i6, i7, i8, i9⟩, .int .i64 u, .bool true]) (by simp [results, Try.results21, go_sem, y0, y1, y2, y3, y4, y5, y6, y7, y8, y9, heapV]) rfl ⟨bw, cap', rfl, HW9.out.row.of_block (hoth _ (by omega)), by have := HB9.out.size; omega, HB9.out.trans (hb10 _ (Nat.le_succ _)), HCp7.out⟩
end Go.Proofs.Ytebpgglegnljgaa
