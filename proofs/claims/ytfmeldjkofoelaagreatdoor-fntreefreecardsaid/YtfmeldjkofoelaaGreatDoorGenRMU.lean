/- Any drawn program, over what spoiling does. -/
import Derived.Test.YtfmeldjkofoelaaGreatDoorGenPMU
namespace Go.Proofs.YtfmeldjkofoelaaGreatDoor
open Go.RowKit Go.Deep

/-- What spoiling does. -/
def SpoilC : Prop := ∀ (d : Dr) (W : World) (p : Nat) (ad : Option Addr) (n cp : Nat) (vt : Value) (es : List Ef) (ns : List Nd), d.G = d.B → Rdr d W p → p ≤ 900000 → EffsD d W (.slice ad n cp) es → es.length ≤ 4 → NodesD d W vt ns → Tr ns →
    Calls Tryz.prog 27 #[.pointer (some ⟨d.B, 0, none⟩), .agg #[.slice ad n cp, vt]] W (SpoilPost d W p)

theorem Bx.pick {d : Dr} {W X X' : World} {q q' : Nat} {ve v1 : Value} {bp rx : Nat} (h : Bx d W X q ve v1 bp rx) (hr : Rdr d X' q') (hg : Grew d X X') (hG : d.G = d.B) : Bx d W X' q' ve v1 bp rx :=
  ⟨hr, h.gr.trans hg, (hg.block bp ⟨heap_lt h.box, by have := h.lo; omega, by rw [hG]; have := h.lo; omega⟩).trans h.box, (hg.block rx ⟨heap_lt h.res, by have := h.lo; omega, by rw [hG]; have := h.lo; omega⟩).trans h.res, h.lo⟩

/-- What lies elsewhere is not in the boxes. -/
theorem bx_not {d : Dr} {W X X' : World} {q : Nat} {ve v1 v : Value} {bp rx : Nat} {ms : List Nd} (h : Bx d W X q ve v1 bp rx) (hve : ∃ a n c, ve = .slice a n c) (hn : NodesD d X v ms) (ho : ∀ k, k ≠ bp → k ≠ rx → X'.heap[k]? = X.heap[k]?) (hs : X'.heap.size = X.heap.size) : NodesD d X' v ms := by
  obtain ⟨a, n, c, rfl⟩ := hve
  refine ⟨?_, hn.2⟩
  rcases hn.1 with hx | ⟨b, off, cap, h1, h2, rfl, h4, h5⟩
  · exact Or.inl hx
  · refine Or.inr ⟨b, 0, cap, h1, h2, rfl, ⟨by rw [hs]; exact h4.1, h4.2⟩, fun i hi => ?_⟩
    have e1 := h5 0 (by omega)
    have hb1 : b ≠ bp := fun e => by
      subst e
      rw [Nat.zero_add, cell_of_heap h.box 0] at e1
      simp at e1
      cases e1
    have hb2 : b ≠ rx := fun e => by
      subst e
      rw [Nat.zero_add, cell_of_heap h.res 0] at e1
      simp at e1
      cases e1
    exact (World.cell?_of_block (a := ⟨b, 0 + i, none⟩) (ho b hb1 hb2)).trans (h5 i hi)

/-- The program's box is written anew. -/
theorem Bx.put {d : Dr} {W X : World} {q p0 : Nat} {ve v1 : Value} {bp rx : Nat} (h : Bx d W X q ve v1 bp rx) (h0 : Rdr d W p0) (u0 u1 : Value) : Bx d W ((X.setCell ⟨bp, 0, none⟩ u0).setCell ⟨bp, 1, none⟩ u1) q u0 u1 bp rx := by
  have ho : ∀ k, k ≠ bp → ((X.setCell ⟨bp, 0, none⟩ u0).setCell ⟨bp, 1, none⟩ u1).heap[k]? = X.heap[k]? := fun k hk => (Below.heap_setCell _ ⟨bp, 1, none⟩ _ k hk).trans (Below.heap_setCell X ⟨bp, 0, none⟩ _ k hk)
  have hs : ((X.setCell ⟨bp, 0, none⟩ u0).setCell ⟨bp, 1, none⟩ u1).heap.size = X.heap.size := by simp [World.setCell]
  have hlo := h.lo
  refine ⟨⟨(ho _ (by omega)).trans h.rd.blk, fun hl => ?_⟩, ⟨h.gr.os, h.gr.tape, h.gr.output, by rw [hs]; exact h.gr.size, fun k hk => (ho k (by have := hk.1; omega)).trans (h.gr.block k hk)⟩, set_heap (set_heap h.box), (ho rx (by omega)).trans h.res, hlo⟩
  obtain ⟨b, off, ea, hq, hz⟩ := h.rd.bytes hl
  have hbl := bytes_low h0 b off ea hl
  refine ⟨b, off, ea, ⟨by rw [hs]; exact hq.1, hq.2⟩, fun i hi => ?_⟩
  obtain ⟨z, hz, h5⟩ := hz i hi
  exact ⟨z, (World.cell?_of_block (a := ⟨b, off + i, none⟩) (ho b (by omega))).trans hz, h5⟩

/-- What is told is written. -/
theorem Bx.told {d : Dr} {W X : World} {q p0 : Nat} {ve v1 v : Value} {bp rx : Nat} {ms : List Nd} (h : Bx d W X q ve v1 bp rx) (h0 : Rdr d W p0) (hve : ∃ a n c, ve = .slice a n c) (hn : NodesD d X v ms) (u0 u1 : Value) :
    NodesD d ((X.setCell ⟨rx, 0, none⟩ u0).setCell ⟨rx, 1, none⟩ u1) v ms ∧ Rdr d ((X.setCell ⟨rx, 0, none⟩ u0).setCell ⟨rx, 1, none⟩ u1) q ∧ Grew d W ((X.setCell ⟨rx, 0, none⟩ u0).setCell ⟨rx, 1, none⟩ u1) := by
  have ho : ∀ k, k ≠ rx → ((X.setCell ⟨rx, 0, none⟩ u0).setCell ⟨rx, 1, none⟩ u1).heap[k]? = X.heap[k]? := fun k hk => (Below.heap_setCell _ ⟨rx, 1, none⟩ _ k hk).trans (Below.heap_setCell X ⟨rx, 0, none⟩ _ k hk)
  have hs : ((X.setCell ⟨rx, 0, none⟩ u0).setCell ⟨rx, 1, none⟩ u1).heap.size = X.heap.size := by simp [World.setCell]
  have hlo := h.lo
  refine ⟨bx_not h hve hn (fun k _ h2 => ho k h2) hs, ⟨(ho _ (by omega)).trans h.rd.blk, fun hl => ?_⟩, ⟨h.gr.os, h.gr.tape, h.gr.output, by rw [hs]; exact h.gr.size, fun k hk => (ho k (by have := hk.1; omega)).trans (h.gr.block k hk)⟩⟩
  obtain ⟨b, off, ea, hq, hz⟩ := h.rd.bytes hl
  have hbl := bytes_low h0 b off ea hl
  refine ⟨b, off, ea, ⟨by rw [hs]; exact hq.1, hq.2⟩, fun i hi => ?_⟩
  obtain ⟨z, hz, h5⟩ := hz i hi
  exact ⟨z, (World.cell?_of_block (a := ⟨b, off + i, none⟩) (ho b (by omega))).trans hz, h5⟩

theorem chain_step {X7 wr W' : World} {acc : List Nd} {m : Nd} {out v' : Value} {o : Obj} (h : wr.ownsRow X7.heap.size 29 6 out acc.length (rowZ Nd.cell 6 acc) ∧ Below X7.heap.size X7 wr ∧ ∀ n ∈ acc, Brief n.a ∧ Brief n.b ∧ Brief n.c) (hm : Brief m.a ∧ Brief m.b ∧ Brief m.c) (h' : W'.ownsRow X7.heap.size 29 6 v' (acc ++ [m]).length (rowZ Nd.cell 6 (acc ++ [m])) ∧ (wr.alloc o).grownBy W' out.ownBlock) :
    W'.ownsRow X7.heap.size 29 6 v' (acc ++ [m]).length (rowZ Nd.cell 6 (acc ++ [m])) ∧ Below X7.heap.size X7 W' ∧ ∀ n ∈ acc ++ [m], Brief n.a ∧ Brief n.b ∧ Brief n.c :=
  ⟨h'.1, (h.2.1.alloc h.2.1.size o).grown h'.2 (by have := h.2.1.size; simp; omega) (fun k hk => (h.1.lt k hk).1), fun n hn => by
    rw [List.mem_append, List.mem_singleton] at hn
    rcases hn with hn | rfl
    · exact h.2.2 n hn
    · exact hm⟩

theorem bx_below {d : Dr} {W X X' : World} {q : Nat} {ve v1 : Value} {bp rx : Nat} (h : Bx d W X q ve v1 bp rx) (hb : Below X.heap.size X X') : Bx d W X' q ve v1 bp rx :=
  ⟨h.rd.below hb, h.gr.trans (Grew.of_below hb), (hb.block _ (heap_lt h.box)).trans h.box, (hb.block _ (heap_lt h.res)).trans h.res, h.lo⟩

def AnyPost (d : Dr) (W : World) (e : Ending) (W' : World) : Prop :=
  ∃ ad n cp v ns q, e = .returned (.agg #[.slice ad n cp, v]) ∧ NodesD d W' v ns ∧ ns.length ≤ 1000 ∧ Rdr d W' q ∧ q ≤ 990000 ∧ Grew d W W'

set_option maxHeartbeats 8000000 in
set_option maxRecDepth 100000 in
theorem any_calls (hSp : SpoilC) {d : Dr} {W : World} {p : Nat} (hG : d.G = d.B) (h : Rdr d W p) (hp : p ≤ 1000) : Calls Tryz.prog 11 #[.pointer (some ⟨d.B, 0, none⟩)] W (AnyPost d W) := by
  have hB := heap_lt h.blk
  have H0 := hid (And.intro h (And.intro hp hG))
  have HSp := hid hSp
  have hb1 : Below W.heap.size W (W.alloc (.cells #[.slice none 0 0, .slice none 0 0] 36)) := (Below.refl _ _).alloc (Nat.le_refl _) _
  have HB1 := hid hb1
  have HR1 := hid (MapKept.heap_alloc W (.cells #[.slice none 0 0, .slice none 0 0] 36)).1
  have HP := hid (prog_calls hG (h.below hb1) (by omega))
  clear hSp hG h hp hb1
  go_enter Tryz.func11, Tryz.ntmps11
  go_wp2_with fail
  refine HP.out.mono ?_
  rintro e W2 ⟨ad, n, cp, vt, es, ns, q2, rfl, hE, hE4, hN, hT, hR, hq, hg⟩
  obtain ⟨adt, cpt, rfl⟩ := hN.is
  have HE := hid (And.intro hE hE4)
  have HN := hid (And.intro hN hT)
  have BX : Hid (Bx d W (W2.alloc (.cells #[.slice ad n cp, .slice adt ns.length cpt] 36)) q2 (.slice ad n cp) (.slice adt ns.length cpt) W2.heap.size W.heap.size) := by
    have hs := hg.size
    have hsz : (W.alloc (.cells #[.slice none 0 0, .slice none 0 0] 36)).heap.size = W.heap.size + 1 := by simp
    have hb3 : Below W2.heap.size W2 (W2.alloc (.cells #[.slice ad n cp, .slice adt ns.length cpt] 36)) := (Below.refl _ _).alloc (Nat.le_refl _) _
    exact ⟨hR.below hb3, ((Grew.of_below HB1.out).trans hg).trans (Grew.of_below hb3), (MapKept.heap_alloc W2 _).1, (hb3.block _ (by omega)).trans ((hg.block _ ⟨by omega, by omega, by rw [H0.out.2.2]; omega⟩).trans HR1.out), by omega⟩
  have HQ := hid hq
  obtain ⟨bp, hbp⟩ : ∃ bp, W2.heap.size = bp := ⟨_, rfl⟩
  rw [hbp] at BX
  have HN3 := hid (And.intro (HN.out.1.grew ((Grew.refl d W2).alloc (.cells #[.slice ad n cp, .slice adt ns.length cpt] 36))) (HE.out.1.grew ((Grew.refl d W2).alloc (.cells #[.slice ad n cp, .slice adt ns.length cpt] 36))))
  have HTr := hid (And.intro HN.out.2 HE.out.2)
  clear hE hE4 hN hT hR hq hg HP HB1 HR1 HE HN
  go_wp2_with fail
  try rw [hbp]
  clear hbp
  refine (rdr_pick BX.out.rd (by have := H0.out.2.1; have := HQ.out; omega) 5 (by decide)).mono ?_
  rintro e X4 ⟨m5, rfl, hm50, hm51, hr4, hg4, -, -⟩
  have B4 := hid (BX.out.pick hr4 hg4 H0.out.2.2)
  have N4 := hid (And.intro (HN3.out.1.grew hg4) (HN3.out.2.grew hg4))
  clear hr4 hg4 BX HN3
  by_cases h5 : m5 = 0
  · subst h5
    have c0 : X4.cell? ⟨bp, 0, none⟩ = some (.slice ad n cp) := cell_of_heap B4.out.box 0
    have c1 : X4.cell? ⟨bp, 1, none⟩ = some (.slice adt ns.length cpt) := cell_of_heap B4.out.box 1
    have HSq := hid (HSp.out d X4 (q2 + 1) ad n cp (.slice adt ns.length cpt) es ns H0.out.2.2 B4.out.rd (by have := H0.out.2.1; have := HQ.out; omega) N4.out.2 HTr.out.2 N4.out.1 HTr.out.1)
    go_wp2_with fail
    refine HSq.out.mono ?_
    rintro e X5 ⟨ad5, n5, cp5, v5, ns5, q5, rfl, hN5, hl5, hR5, hq5, hg5⟩
    obtain ⟨adv, cpv, rfl⟩ := hN5.is
    have B5 := hid (B4.out.pick hR5 hg5 H0.out.2.2)
    have HQ2 := hid (And.intro hq5 hl5)
    have B5p := hid (B5.out.put H0.out.1 (.slice ad5 n5 cp5) (.slice adv ns5.length cpv))
    have N5p := hid (bx_not B5.out ⟨_, _, _, rfl⟩ hN5 (X' := (X5.setCell ⟨bp, 0, none⟩ (.slice ad5 n5 cp5)).setCell ⟨bp, 1, none⟩ (.slice adv ns5.length cpv)) (fun k h1 _ => (Below.heap_setCell _ ⟨bp, 1, none⟩ _ k h1).trans (Below.heap_setCell X5 ⟨bp, 0, none⟩ _ k h1)) (by simp [World.setCell]))
    have d0 : X5.cell? ⟨bp, 0, none⟩ = some (.slice ad n cp) := cell_of_heap B5.out.box 0
    have d1 : X5.cell? ⟨bp, 1, none⟩ = some (.slice adt ns.length cpt) := cell_of_heap B5.out.box 1
    have e0 := frozen_of_heap B5.out.box 0
    have e1 := frozen_of_heap B5.out.box 1
    obtain ⟨Y5, hY5⟩ : ∃ Y5, (X5.setCell ⟨bp, 0, none⟩ (.slice ad5 n5 cp5)).setCell ⟨bp, 1, none⟩ (.slice adv ns5.length cpv) = Y5 := ⟨_, rfl⟩
    rw [hY5] at B5p N5p
    have HY5 := hid hY5
    clear hN5 hl5 hR5 hq5 hg5 hY5 c0 c1 HSq
    go_upto_region 4 with fail
    rw [HY5.out]
    clear HY5 d0 d1 e0 e1
    go_wp2_with fail
    refine (rdr_pick B5p.out.rd (by have := H0.out.2.1; have := HQ.out; have := HQ2.out; omega) 60 (by decide)).mono ?_
    rintro e X6 ⟨m6, rfl, hm60, hm61, hr6, hg6, -, -⟩
    have B6 := hid (B5p.out.pick hr6 hg6 H0.out.2.2)
    have N6 := hid (N5p.out.grew hg6)
    clear hr6 hg6
    have b0 : X6.cell? ⟨bp, 0, none⟩ = some (.slice ad5 n5 cp5) := cell_of_heap B6.out.box 0
    have b1 : X6.cell? ⟨bp, 1, none⟩ = some (.slice adv ns5.length cpv) := cell_of_heap B6.out.box 1
    have r0 : X6.cell? ⟨W.heap.size, 0, none⟩ = some (.slice none 0 0) := cell_of_heap B6.out.res 0
    have r1 : X6.cell? ⟨W.heap.size, 1, none⟩ = some (.slice none 0 0) := cell_of_heap B6.out.res 1
    have f0 := frozen_of_heap B6.out.res 0
    have f1 := frozen_of_heap B6.out.res 1
    by_cases h60 : m6 = 0
    · subst h60
      go_wp2_with fail
      refine (rdr_pick B6.out.rd (by have := H0.out.2.1; have := HQ.out; have := HQ2.out; omega) 4 (by decide)).mono ?_
      rintro e X7 ⟨m7, rfl, hm70, hm71, hr7, hg7, -, -⟩
      have B7 := hid (B6.out.pick hr7 hg7 H0.out.2.2)
      clear hr7 hg7 b0 b1 r0 r1 f0 f1
      obtain ⟨N, hN⟩ : ∃ N : Nat, 38 + m7 = (N : Int) := ⟨(38 + m7).toNat, by omega⟩
      have hN1 : (N : Int) ≤ 41 := by omega
      have hN0 : (38 : Int) ≤ (N : Int) := by omega
      go_wp2_with fail
      try rw [hN]
      clear hN hm70 hm71
      go_loopw [4, 6] (fun t i wr => ∃ (i' : Nat) (acc : List Nd), i = .int .i64 i' ∧ 1 ≤ i' ∧ i' ≤ N ∧ Hid (acc.length = i' - 1) ∧ Hid (wr.ownsRow X7.heap.size 29 6 t acc.length (rowZ Nd.cell 6 acc) ∧ Below X7.heap.size X7 wr ∧ ∀ n ∈ acc, Brief n.a ∧ Brief n.b ∧ Brief n.c)) (fun _ i _ => N - (intOf i).toNat)
      case atStart => exact ⟨1, [], rfl, Nat.le_refl _, by omega, rfl, World.ownsRow_nil _ _ _ _, Below.refl _ _, fun n hn => by simp at hn⟩
      case round =>
        obtain ⟨i', acc, rfl, hi1, hle, HA, HO⟩ := hrel
        have HS := hid (And.intro (show d.B < wr.heap.size by have := HO.out.2.1.size; have := heap_lt B7.out.rd.blk; omega) (show d.G < wr.heap.size by rw [H0.out.2.2]; have := HO.out.2.1.size; have := heap_lt B7.out.rd.blk; omega))
        obtain ⟨i0, hinf, hz0, hz1, hz2⟩ := info_parts info_node
        by_cases hi : (i' : Int) < (N : Int)
        · have hstep : N - (intOf (.int .i64 ((i' + 1 : Nat) : Int))).toNat < N - (intOf (.int .i64 (i' : Int))).toNat := lt_step hi
          go_wp2_with (at_builtin; refine wpList_append_by rfl _ _ 23 rfl _ _ rfl rfl (fun ty => app_row (d := d) nd_one Tryz.underlying23 hinf hz0 hz1 hz2 rfl (by decide) (by decide) (HO.out.1.alloc _) (nd_lit wr ⟨21, 0, ByteArray.empty, ByteArray.empty, ByteArray.empty, 1⟩ HS.out.1 HS.out.2 ⟨brief_none, brief_none, brief_none⟩).1 (by have := HA.out; simp; omega) (by have := HO.out.2.1.size; simp; omega) ty) ?_; intro v5 w5 hv5; have HO5 := hid (chain_step HO.out ⟨brief_none, brief_none, brief_none⟩ hv5); clear hv5)
          try rw [wrap_succ (by omega)]
          exact ⟨⟨i' + 1, acc ++ [⟨21, 0, ByteArray.empty, ByteArray.empty, ByteArray.empty, 1⟩], rfl, by omega, by omega, by show _ = _; have := HA.out; simp; omega, HO5⟩, hstep⟩
        · have hbB := heap_lt B7.out.box
          have HbB := hid hbB
          clear hbB
          go_upto_region 12 with (at_builtin; refine wpList_append_by rfl _ _ 23 rfl _ _ rfl rfl (fun ty => app_row (d := d) nd_one Tryz.underlying23 hinf hz0 hz1 hz2 rfl (by decide) (by decide) (HO.out.1.alloc _) (nd_lit wr ⟨1, 0, ByteArray.empty, ByteArray.empty, ByteArray.empty, 0⟩ HS.out.1 HS.out.2 ⟨brief_none, brief_none, brief_none⟩).1 (by have := HA.out; simp; omega) (by have := HO.out.2.1.size; simp; omega) ty) ?_; intro v5 w5 hv5; have HO5 := hid (chain_step HO.out ⟨brief_none, brief_none, brief_none⟩ hv5); obtain ⟨adz, cpz, hvz⟩ := g_is hv5.1; obtain ⟨lz, hlz⟩ : ∃ l, (acc ++ [(⟨1, 0, ByteArray.empty, ByteArray.empty, ByteArray.empty, 0⟩ : Nd)]).length = l := ⟨_, rfl⟩; rw [hlz] at hvz; subst hvz; have b1 := (HO5.out.2.1.cell (p := ⟨bp, 1, none⟩) HbB.out).trans (cell_of_heap B7.out.box 1); simp only [List.getElem?_toArray, List.getElem?_cons_succ, List.getElem?_cons_zero] at b1; have fb1 := frozen_of_heap ((HO5.out.2.1.block bp HbB.out).trans B7.out.box) 1; clear hv5 hlz)
          have BZ := hid (bx_below B7.out HO5.out.2.1)
          have NZ : Hid (NodesD d w5 (.slice adz lz cpz) (acc ++ [(⟨1, 0, ByteArray.empty, ByteArray.empty, ByteArray.empty, 0⟩ : Nd)])) := ⟨lies_owns (f := Nd.cell) (by decide) HO5.out.1 (heap_lt B7.out.rd.blk) (by rw [H0.out.2.2]; exact heap_lt B7.out.rd.blk), HO5.out.2.2⟩
          have LS := hid (last_store BZ.out H0.out.1 ⟨_, _, _, rfl⟩ NZ.out 1 (.slice adz lz cpz) (.slice ad5 n5 cp5) (.slice adz lz cpz))
          have hx9 := set_heap (i := 1) (v := .slice adz lz cpz) BZ.out.box
          have hr9 := (Below.heap_setCell w5 ⟨bp, 1, none⟩ (.slice adz lz cpz) W.heap.size (by have := BZ.out.lo; show W.heap.size ≠ bp; omega)).trans BZ.out.res
          have HLc : Hid ((acc ++ [(⟨1, 0, ByteArray.empty, ByteArray.empty, ByteArray.empty, 0⟩ : Nd)]).length ≤ 1000) := by show _ ≤ _; have := HA.out; simp; omega
          generalize w5.setCell ⟨bp, 1, none⟩ (.slice adz lz cpz) = Y9 at *
          have x0 : Y9.cell? ⟨bp, 0, none⟩ = some (.slice ad5 n5 cp5) := cell_of_heap hx9 0
          have x1 : Y9.cell? ⟨bp, 1, none⟩ = some (.slice adz lz cpz) := cell_of_heap hx9 1
          have y0 : Y9.cell? ⟨W.heap.size, 0, none⟩ = some (.slice none 0 0) := cell_of_heap hr9 0
          have y1 : Y9.cell? ⟨W.heap.size, 1, none⟩ = some (.slice none 0 0) := cell_of_heap hr9 1
          have z0 := frozen_of_heap hr9 0
          have z1 := frozen_of_heap hr9 1
          clear hx9 hr9
          go_wp2_with fail
          refine bodyPost_ret (v := .agg #[.slice ad5 n5 cp5, .slice adz lz cpz]) ?_ rfl ?_
          · simp [results, Tryz.results11, go_sem, y0, y1]
          · exact ⟨_, _, _, _, _, _, rfl, LS.out.1, HLc.out, LS.out.2.1, by have := H0.out.2.1; have := HQ.out; (try have := HQ2.out); omega, LS.out.2.2⟩
    · have z60 : (m6 == 0) = false := by simp [h60]
      have LT := hid (B6.out.told H0.out.1 ⟨_, _, _, rfl⟩ N6.out (.slice ad5 n5 cp5) (.slice adv ns5.length cpv))
      go_wp2_with fail
      refine bodyPost_ret (v := .agg #[.slice ad5 n5 cp5, .slice adv ns5.length cpv]) ?_ rfl ?_
      · simp [results, Tryz.results11, go_sem, r0, r1]
      · exact ⟨_, _, _, _, _, _, rfl, LT.out.1, HQ2.out.2, LT.out.2.1, by have := H0.out.2.1; have := HQ.out; (try have := HQ2.out); omega, LT.out.2.2⟩
  · have z5 : (m5 == 0) = false := by simp [h5]
    go_wp2_with fail
    refine (rdr_pick B4.out.rd (by have := H0.out.2.1; have := HQ.out; omega) 60 (by decide)).mono ?_
    rintro e X6 ⟨m6, rfl, hm60, hm61, hr6, hg6, -, -⟩
    have B6 := hid (B4.out.pick hr6 hg6 H0.out.2.2)
    have N6 := hid (N4.out.1.grew hg6)
    clear hr6 hg6
    have b0 : X6.cell? ⟨bp, 0, none⟩ = some (.slice ad n cp) := cell_of_heap B6.out.box 0
    have b1 : X6.cell? ⟨bp, 1, none⟩ = some (.slice adt ns.length cpt) := cell_of_heap B6.out.box 1
    have r0 : X6.cell? ⟨W.heap.size, 0, none⟩ = some (.slice none 0 0) := cell_of_heap B6.out.res 0
    have r1 : X6.cell? ⟨W.heap.size, 1, none⟩ = some (.slice none 0 0) := cell_of_heap B6.out.res 1
    have f0 := frozen_of_heap B6.out.res 0
    have f1 := frozen_of_heap B6.out.res 1
    by_cases h60 : m6 = 0
    · subst h60
      go_wp2_with fail
      refine (rdr_pick B6.out.rd (by have := H0.out.2.1; have := HQ.out; omega) 4 (by decide)).mono ?_
      rintro e X7 ⟨m7, rfl, hm70, hm71, hr7, hg7, -, -⟩
      have B7 := hid (B6.out.pick hr7 hg7 H0.out.2.2)
      clear hr7 hg7 b0 b1 r0 r1 f0 f1
      obtain ⟨N, hN⟩ : ∃ N : Nat, 38 + m7 = (N : Int) := ⟨(38 + m7).toNat, by omega⟩
      have hN1 : (N : Int) ≤ 41 := by omega
      have hN0 : (38 : Int) ≤ (N : Int) := by omega
      go_wp2_with fail
      try rw [hN]
      clear hN hm70 hm71
      go_loopw [4, 6] (fun t i wr => ∃ (i' : Nat) (acc : List Nd), i = .int .i64 i' ∧ 1 ≤ i' ∧ i' ≤ N ∧ Hid (acc.length = i' - 1) ∧ Hid (wr.ownsRow X7.heap.size 29 6 t acc.length (rowZ Nd.cell 6 acc) ∧ Below X7.heap.size X7 wr ∧ ∀ n ∈ acc, Brief n.a ∧ Brief n.b ∧ Brief n.c)) (fun _ i _ => N - (intOf i).toNat)
      case atStart => exact ⟨1, [], rfl, Nat.le_refl _, by omega, rfl, World.ownsRow_nil _ _ _ _, Below.refl _ _, fun n hn => by simp at hn⟩
      case round =>
        obtain ⟨i', acc, rfl, hi1, hle, HA, HO⟩ := hrel
        have HS := hid (And.intro (show d.B < wr.heap.size by have := HO.out.2.1.size; have := heap_lt B7.out.rd.blk; omega) (show d.G < wr.heap.size by rw [H0.out.2.2]; have := HO.out.2.1.size; have := heap_lt B7.out.rd.blk; omega))
        obtain ⟨i0, hinf, hz0, hz1, hz2⟩ := info_parts info_node
        by_cases hi : (i' : Int) < (N : Int)
        · have hstep : N - (intOf (.int .i64 ((i' + 1 : Nat) : Int))).toNat < N - (intOf (.int .i64 (i' : Int))).toNat := lt_step hi
          go_wp2_with (at_builtin; refine wpList_append_by rfl _ _ 23 rfl _ _ rfl rfl (fun ty => app_row (d := d) nd_one Tryz.underlying23 hinf hz0 hz1 hz2 rfl (by decide) (by decide) (HO.out.1.alloc _) (nd_lit wr ⟨21, 0, ByteArray.empty, ByteArray.empty, ByteArray.empty, 1⟩ HS.out.1 HS.out.2 ⟨brief_none, brief_none, brief_none⟩).1 (by have := HA.out; simp; omega) (by have := HO.out.2.1.size; simp; omega) ty) ?_; intro v5 w5 hv5; have HO5 := hid (chain_step HO.out ⟨brief_none, brief_none, brief_none⟩ hv5); clear hv5)
          try rw [wrap_succ (by omega)]
          exact ⟨⟨i' + 1, acc ++ [⟨21, 0, ByteArray.empty, ByteArray.empty, ByteArray.empty, 1⟩], rfl, by omega, by omega, by show _ = _; have := HA.out; simp; omega, HO5⟩, hstep⟩
        · have hbB := heap_lt B7.out.box
          have HbB := hid hbB
          clear hbB
          go_upto_region 12 with (at_builtin; refine wpList_append_by rfl _ _ 23 rfl _ _ rfl rfl (fun ty => app_row (d := d) nd_one Tryz.underlying23 hinf hz0 hz1 hz2 rfl (by decide) (by decide) (HO.out.1.alloc _) (nd_lit wr ⟨1, 0, ByteArray.empty, ByteArray.empty, ByteArray.empty, 0⟩ HS.out.1 HS.out.2 ⟨brief_none, brief_none, brief_none⟩).1 (by have := HA.out; simp; omega) (by have := HO.out.2.1.size; simp; omega) ty) ?_; intro v5 w5 hv5; have HO5 := hid (chain_step HO.out ⟨brief_none, brief_none, brief_none⟩ hv5); obtain ⟨adz, cpz, hvz⟩ := g_is hv5.1; obtain ⟨lz, hlz⟩ : ∃ l, (acc ++ [(⟨1, 0, ByteArray.empty, ByteArray.empty, ByteArray.empty, 0⟩ : Nd)]).length = l := ⟨_, rfl⟩; rw [hlz] at hvz; subst hvz; have b1 := (HO5.out.2.1.cell (p := ⟨bp, 1, none⟩) HbB.out).trans (cell_of_heap B7.out.box 1); simp only [List.getElem?_toArray, List.getElem?_cons_succ, List.getElem?_cons_zero] at b1; have fb1 := frozen_of_heap ((HO5.out.2.1.block bp HbB.out).trans B7.out.box) 1; clear hv5 hlz)
          have BZ := hid (bx_below B7.out HO5.out.2.1)
          have NZ : Hid (NodesD d w5 (.slice adz lz cpz) (acc ++ [(⟨1, 0, ByteArray.empty, ByteArray.empty, ByteArray.empty, 0⟩ : Nd)])) := ⟨lies_owns (f := Nd.cell) (by decide) HO5.out.1 (heap_lt B7.out.rd.blk) (by rw [H0.out.2.2]; exact heap_lt B7.out.rd.blk), HO5.out.2.2⟩
          have LS := hid (last_store BZ.out H0.out.1 ⟨_, _, _, rfl⟩ NZ.out 1 (.slice adz lz cpz) (.slice ad n cp) (.slice adz lz cpz))
          have hx9 := set_heap (i := 1) (v := .slice adz lz cpz) BZ.out.box
          have hr9 := (Below.heap_setCell w5 ⟨bp, 1, none⟩ (.slice adz lz cpz) W.heap.size (by have := BZ.out.lo; show W.heap.size ≠ bp; omega)).trans BZ.out.res
          have HLc : Hid ((acc ++ [(⟨1, 0, ByteArray.empty, ByteArray.empty, ByteArray.empty, 0⟩ : Nd)]).length ≤ 1000) := by show _ ≤ _; have := HA.out; simp; omega
          generalize w5.setCell ⟨bp, 1, none⟩ (.slice adz lz cpz) = Y9 at *
          have x0 : Y9.cell? ⟨bp, 0, none⟩ = some (.slice ad n cp) := cell_of_heap hx9 0
          have x1 : Y9.cell? ⟨bp, 1, none⟩ = some (.slice adz lz cpz) := cell_of_heap hx9 1
          have y0 : Y9.cell? ⟨W.heap.size, 0, none⟩ = some (.slice none 0 0) := cell_of_heap hr9 0
          have y1 : Y9.cell? ⟨W.heap.size, 1, none⟩ = some (.slice none 0 0) := cell_of_heap hr9 1
          have z0 := frozen_of_heap hr9 0
          have z1 := frozen_of_heap hr9 1
          clear hx9 hr9
          go_wp2_with fail
          refine bodyPost_ret (v := .agg #[.slice ad n cp, .slice adz lz cpz]) ?_ rfl ?_
          · simp [results, Tryz.results11, go_sem, y0, y1]
          · exact ⟨_, _, _, _, _, _, rfl, LS.out.1, HLc.out, LS.out.2.1, by have := H0.out.2.1; have := HQ.out; (try have := HQ2.out); omega, LS.out.2.2⟩
    · have z60 : (m6 == 0) = false := by simp [h60]
      have LT := hid (B6.out.told H0.out.1 ⟨_, _, _, rfl⟩ N6.out (.slice ad n cp) (.slice adt ns.length cpt))
      go_wp2_with fail
      refine bodyPost_ret (v := .agg #[.slice ad n cp, .slice adt ns.length cpt]) ?_ rfl ?_
      · simp [results, Tryz.results11, go_sem, r0, r1]
      · exact ⟨_, _, _, _, _, _, rfl, LT.out.1, by obtain ⟨_, _, _, _, _, h⟩ := HTr.out.1; omega, LT.out.2.1, by have := H0.out.2.1; have := HQ.out; (try have := HQ2.out); omega, LT.out.2.2⟩
end Go.Proofs.YtfmeldjkofoelaaGreatDoor
