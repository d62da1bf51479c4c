/- The specification's marks of where objects begin, in both spaces. -/
import Derived.Test.YtebpgglegnljgaaSpecHeapB
namespace Go.Proofs.Ytebpgglegnljgaa
open Go.RowKit

/-- A heap's words, its block, and a row of marks behind them. -/
structure BSt (w : World) (b off bH gb N : Nat) (ws : List Int) (v : Value) (h : HpN) (S : List Int) (W : World) : Prop where
  blt : b < W.heap.size
  words : ∀ k, k < N → W.cell? ⟨b, off + k, none⟩ = some (.int .i64 (ws.getD k 0))
  blk : HeapBlk W bH v h
  len : S.length = N
  row : CellRow 4 W gb N (boolCells S)
  ne : b ≠ gb
  ne2 : bH ≠ gb
  low : w.heap.size ≤ gb
  below : Below w.heap.size w W

theorem BSt.step {w W W' : World} {b off bH gb N : Nat} {ws : List Int} {v : Value} {h : HpN} {S S' : List Int} (s : BSt w b off bH gb N ws v h S W) (hg : W.grownBy W' (some gb)) (hl : S'.length = N) (hr : CellRow 4 W' gb N (boolCells S')) :
    BSt w b off bH gb N ws v h S' W' where
  blt := Nat.lt_of_lt_of_le s.blt hg.size
  words := fun k hk => (World.cell?_of_block (w := W) (hg.block b s.blt (by simpa using s.ne))).trans (s.words k hk)
  blk := (hg.block bH (heap_lt s.blk) (by simpa using s.ne2)).trans s.blk
  len := hl
  row := hr
  ne := s.ne
  ne2 := s.ne2
  low := s.low
  below := s.below.grown hg s.below.size (fun k hk => by cases hk; exact s.low)

theorem BSt.keep {w W W' : World} {b off bH gb N : Nat} {ws : List Int} {v : Value} {h : HpN} {S : List Int} (s : BSt w b off bH gb N ws v h S W) (hb : Below W.heap.size W W') : BSt w b off bH gb N ws v h S W' where
  blt := Nat.lt_of_lt_of_le s.blt hb.size
  words := fun k hk => (hb.cell (p := ⟨b, off + k, none⟩) s.blt).trans (s.words k hk)
  blk := s.blk.below hb
  len := s.len
  row := s.row.of_block (hb.block gb s.row.lt)
  ne := s.ne
  ne2 := s.ne2
  low := s.low
  below := s.below.trans (hb.mono s.below.size)

theorem bools_made (w : World) (N : Nat) : CellRow 4 (w.alloc (.cells (madeCells #[.bool false] N) 4)) w.heap.size N (boolCells (List.replicate N 0)) := by
  refine ⟨N, _, rw_of_row (World.rowIs_made w (.bool false) N 4) N, Nat.le_refl _, fun i hi => ?_⟩
  simp [boolCells, List.getD, hi]

theorem begins_bad {R : Option (List Int)} {w W W' : World} {b off bH gb N gcap : Nat} {ws : List Int} {v : Value} {h : HpN} {S : List Int} (s : BSt w b off bH gb N ws v h S W) (hg : W.grownBy W' (some gb)) (hR : R = none) :
    BeginsPost R N w (.returned (.tuple #[.slice (some ⟨gb, 0, none⟩) N gcap, .bool false])) W' :=
  ⟨⟨gb, gcap, false, rfl, s.low, Nat.lt_of_lt_of_le s.row.lt hg.size, Or.inl ⟨hR, rfl⟩⟩, s.below.grown hg s.below.size (fun k hk => by cases hk; exact s.low)⟩

theorem begins_ok {R : Option (List Int)} {w W : World} {b off bH gb N gcap : Nat} {ws : List Int} {v : Value} {h : HpN} {S : List Int} (s : BSt w b off bH gb N ws v h S W) (hR : R = some S) :
    BeginsPost R N w (.returned (.tuple #[.slice (some ⟨gb, 0, none⟩) N gcap, .bool true])) W :=
  ⟨⟨gb, gcap, true, rfl, s.low, s.row.lt, Or.inr ⟨S, hR, rfl, s.len, s.row⟩⟩, s.below⟩

set_option maxHeartbeats 2000000 in
set_option maxRecDepth 100000 in
theorem specBegins_calls (b off cap N : Nat) (ws : List Int) (h : HpN) (w : World) (hN : ws.length = N) (ho : Ordered h N)
    (hb : b < w.heap.size) (hw : ∀ k, k < N → w.cell? ⟨b, off + k, none⟩ = some (.int .i64 (ws.getD k 0))) :
    Calls Try.prog 64 #[heapV (.slice (some ⟨b, off, none⟩) N cap) h] w (BeginsPost (specLay ws h) N w) := by
  have HO := hid ho
  have HW := hid hw
  have hR : specLay ws h = match lay ws h.to.toNat h.bottom.toNat (List.replicate N 0) with
    | none => none
    | some S1 => match lay ws h.top.toNat (h.to + h.size).toNat S1 with
      | none => none
      | some S2 => if h.scan < h.bottom then
          match lay ws (h.size - h.to).toNat h.fb.toNat S2 with
          | none => none
          | some S3 => lay ws h.ft.toNat (h.size - h.to + h.size).toNat S3
        else some S2 := by subst hN; rfl
  have HR := hid hR
  generalize specLay ws h = R at *
  obtain ⟨o1, o2, o3, o4, o5, o6, o7, o8, o9, o10, o11, o12, o13⟩ := ho
  have hto0 : 0 ≤ h.to := by omega
  have hto1 : h.to ≤ 4000 := by omega
  have hN8 : N ≤ 8000 := by omega
  clear hw hR hN o3 o4 o5 o6 o7 o8 o9 o10 o11 o12 o13
  have hmk := run_make_row' (P := Try.prog) 95 4 (.bool false) 1 Try.underlying95 info_bool rfl .i64 .i64 N (by omega) (by omega)
  have HF := hid (specFrom_calls (.slice (some ⟨b, off, none⟩) N cap) h)
  obtain ⟨g1, g2, g3, g4, g5, g6, g7, g8, g9⟩ := h
  unfold heapV
  dsimp only at *
  go_enter Try.func64, Try.ntmps64
  go_wp2_with fail
  have hB0 : BSt w b off w.heap.size (w.heap.size + 1) N ws (.slice (some ⟨b, off, none⟩) N cap) ⟨g1, g2, g3, g4, g5, g6, g7, g8, g9⟩ (List.replicate N 0) ((w.alloc (.cells #[.slice (some ⟨b, off, none⟩) N cap, .int .i64 g1, .int .i64 g2, .int .i64 g3, .int .i64 g4, .int .i64 g5, .int .i64 g6, .int .i64 g7, .int .i64 g8, .int .i64 g9] 25)).alloc (.cells (madeCells #[.bool false] N) 4)) := by
    have k1 := (Below.refl w.heap.size w).alloc (Nat.le_refl _) (.cells #[.slice (some ⟨b, off, none⟩) N cap, .int .i64 g1, .int .i64 g2, .int .i64 g3, .int .i64 g4, .int .i64 g5, .int .i64 g6, .int .i64 g7, .int .i64 g8, .int .i64 g9] 25)
    have k2 := k1.alloc (by simp) (.cells (madeCells #[.bool false] N) 4)
    have hr := bools_made (w.alloc (.cells #[.slice (some ⟨b, off, none⟩) N cap, .int .i64 g1, .int .i64 g2, .int .i64 g3, .int .i64 g4, .int .i64 g5, .int .i64 g6, .int .i64 g7, .int .i64 g8, .int .i64 g9] 25)) N
    rw [World.size_alloc] at hr
    exact ⟨Nat.lt_of_lt_of_le hb k2.size, fun k hk => (k2.cell (p := ⟨b, off + k, none⟩) hb).trans (HW.out k hk), (HeapBlk.new w _ _).below ((Below.refl _ _).alloc (Nat.le_refl _) _), by simp, hr, by omega, by omega, by omega, k2⟩
  have HB0 := hid hB0
  clear hB0 HW hmk
  refine (specRow_at b off cap _ _ N _ _ ws _ ⟨g1, g2, g3, g4, g5, g6, g7, g8, g9⟩ _ HB0.out.len hN8 (by obtain ⟨o1, o2, o3, o4, o5, o6, o7, o8, o9, o10, o11, o12, o13⟩ := HO.out; dsimp only at *; omega) (by obtain ⟨o1, o2, o3, o4, o5, o6, o7, o8, o9, o10, o11, o12, o13⟩ := HO.out; dsimp only at *; omega) (by obtain ⟨o1, o2, o3, o4, o5, o6, o7, o8, o9, o10, o11, o12, o13⟩ := HO.out; dsimp only at *; omega) HB0.out.blt HB0.out.words HB0.out.ne HB0.out.row).mono ?_
  rintro e W1 ⟨⟨ok, rfl, hres⟩, hg⟩
  rcases hres with ⟨hn, rfl⟩ | ⟨S1, hs1, rfl, hl1, hr1⟩
  · have HX := hid (begins_bad (R := R) (gcap := N) HB0.out hg (by rw [HR.out, hn]))
    obtain ⟨c0, c1, c2, c3, c4, c5, c6, c7, c8, c9⟩ := HeapBlk.cells ((hg.block _ (heap_lt HB0.out.blk) (by simp)).trans HB0.out.blk)
    dsimp only at c0 c1 c2 c3 c4 c5 c6 c7 c8 c9
    clear hg
    go_wp2_with fail
    exact bodyPost_ret (results_tmp2 (fn := Try.f64) rfl _ _ _) rfl HX.out
  have HB1 := hid (HB0.out.step hg hl1 hr1)
  have HR1 : Hid _ := HR.out.trans (by rw [hs1])
  obtain ⟨c0, c1, c2, c3, c4, c5, c6, c7, c8, c9⟩ := HB1.out.blk.cells
  dsimp only at c0 c1 c2 c3 c4 c5 c6 c7 c8 c9
  clear hg hl1 hr1 HB0 HR
  go_wp2_with fail
  clear c0 c1 c2 c3 c4 c5 c6 c7 c8 c9
  refine (specRow_at b off cap _ _ N _ _ ws _ ⟨g1, g2, g3, g4, g5, g6, g7, g8, g9⟩ _ HB1.out.len hN8 (by obtain ⟨o1, o2, o3, o4, o5, o6, o7, o8, o9, o10, o11, o12, o13⟩ := HO.out; dsimp only at *; omega) (by obtain ⟨o1, o2, o3, o4, o5, o6, o7, o8, o9, o10, o11, o12, o13⟩ := HO.out; dsimp only at *; omega) (by obtain ⟨o1, o2, o3, o4, o5, o6, o7, o8, o9, o10, o11, o12, o13⟩ := HO.out; dsimp only at *; omega) HB1.out.blt HB1.out.words HB1.out.ne HB1.out.row).mono ?_
  rintro e W2 ⟨⟨ok, rfl, hres⟩, hg⟩
  rcases hres with ⟨hn, rfl⟩ | ⟨S2, hs2, rfl, hl2, hr2⟩
  · have HX := hid (begins_bad (R := R) (gcap := N) HB1.out hg (by rw [HR1.out, hn]))
    obtain ⟨c0, c1, c2, c3, c4, c5, c6, c7, c8, c9⟩ := HeapBlk.cells ((hg.block _ (heap_lt HB1.out.blk) (by simp)).trans HB1.out.blk)
    dsimp only at c0 c1 c2 c3 c4 c5 c6 c7 c8 c9
    clear hg
    go_wp2_with fail
    exact bodyPost_ret (results_tmp2 (fn := Try.f64) rfl _ _ _) rfl HX.out
  have HB2 := hid (HB1.out.step hg hl2 hr2)
  have HR2 : Hid _ := HR1.out.trans (by rw [hs2])
  obtain ⟨c0, c1, c2, c3, c4, c5, c6, c7, c8, c9⟩ := HB2.out.blk.cells
  dsimp only at c0 c1 c2 c3 c4 c5 c6 c7 c8 c9
  clear hg hl2 hr2 HB1 HR1
  by_cases hsc : g5 < g3
  · have HR2' := hid (HR2.out.trans (if_pos hsc))
    clear HR2
    go_wp2_with fail
    clear c0 c1 c2 c3 c4 c5 c6 c7 c8 c9
    refine (HF.out _ hto0 hto1 (by omega) o2).mono ?_
    rintro e W2b ⟨rfl, hb2⟩
    have HB2b := hid (HB2.out.keep hb2)
    obtain ⟨c0, c1, c2, c3, c4, c5, c6, c7, c8, c9⟩ := HB2b.out.blk.cells
    dsimp only at c0 c1 c2 c3 c4 c5 c6 c7 c8 c9
    clear hb2 HB2 HF
    go_wp2_with fail
    clear c0 c1 c2 c3 c4 c5 c6 c7 c8 c9
    refine (specRow_at b off cap _ _ N _ _ ws _ ⟨g1, g2, g3, g4, g5, g6, g7, g8, g9⟩ _ HB2b.out.len hN8 (by obtain ⟨o1, o2, o3, o4, o5, o6, o7, o8, o9, o10, o11, o12, o13⟩ := HO.out; dsimp only at *; omega) (by obtain ⟨o1, o2, o3, o4, o5, o6, o7, o8, o9, o10, o11, o12, o13⟩ := HO.out; dsimp only at *; omega) (by obtain ⟨o1, o2, o3, o4, o5, o6, o7, o8, o9, o10, o11, o12, o13⟩ := HO.out; dsimp only at *; omega) HB2b.out.blt HB2b.out.words HB2b.out.ne HB2b.out.row).mono ?_
    rintro e W3 ⟨⟨ok, rfl, hres⟩, hg⟩
    rcases hres with ⟨hn, rfl⟩ | ⟨S3, hs3, rfl, hl3, hr3⟩
    · have HX := hid (begins_bad (R := R) (gcap := N) HB2b.out hg (by rw [HR2'.out, hn]))
      obtain ⟨c0, c1, c2, c3, c4, c5, c6, c7, c8, c9⟩ := HeapBlk.cells ((hg.block _ (heap_lt HB2b.out.blk) (by simp)).trans HB2b.out.blk)
      dsimp only at c0 c1 c2 c3 c4 c5 c6 c7 c8 c9
      clear hg
      go_wp2_with fail
      exact bodyPost_ret (results_tmp2 (fn := Try.f64) rfl _ _ _) rfl HX.out
    have HB3 := hid (HB2b.out.step hg hl3 hr3)
    have HR3 : Hid _ := HR2'.out.trans (by rw [hs3])
    obtain ⟨c0, c1, c2, c3, c4, c5, c6, c7, c8, c9⟩ := HB3.out.blk.cells
    dsimp only at c0 c1 c2 c3 c4 c5 c6 c7 c8 c9
    clear hg hl3 hr3 HB2b HR2'
    go_wp2_with fail
    clear c0 c1 c2 c3 c4 c5 c6 c7 c8 c9
    refine (specRow_at b off cap _ _ N _ _ ws _ ⟨g1, g2, g3, g4, g5, g6, g7, g8, g9⟩ _ HB3.out.len hN8 (by obtain ⟨o1, o2, o3, o4, o5, o6, o7, o8, o9, o10, o11, o12, o13⟩ := HO.out; dsimp only at *; omega) (by obtain ⟨o1, o2, o3, o4, o5, o6, o7, o8, o9, o10, o11, o12, o13⟩ := HO.out; dsimp only at *; omega) (by obtain ⟨o1, o2, o3, o4, o5, o6, o7, o8, o9, o10, o11, o12, o13⟩ := HO.out; dsimp only at *; omega) HB3.out.blt HB3.out.words HB3.out.ne HB3.out.row).mono ?_
    rintro e W4 ⟨⟨ok, rfl, hres⟩, hg⟩
    rcases hres with ⟨hn, rfl⟩ | ⟨S4, hs4, rfl, hl4, hr4⟩
    · have HX := hid (begins_bad (R := R) (gcap := N) HB3.out hg (by rw [HR3.out, hn]))
      obtain ⟨c0, c1, c2, c3, c4, c5, c6, c7, c8, c9⟩ := HeapBlk.cells ((hg.block _ (heap_lt HB3.out.blk) (by simp)).trans HB3.out.blk)
      dsimp only at c0 c1 c2 c3 c4 c5 c6 c7 c8 c9
      clear hg
      go_wp2_with fail
      exact bodyPost_ret (results_tmp2 (fn := Try.f64) rfl _ _ _) rfl HX.out
    have HB4 := hid (HB3.out.step hg hl4 hr4)
    have HR4 : Hid _ := HR3.out.trans (by rw [hs4])
    obtain ⟨c0, c1, c2, c3, c4, c5, c6, c7, c8, c9⟩ := HB4.out.blk.cells
    dsimp only at c0 c1 c2 c3 c4 c5 c6 c7 c8 c9
    clear hg hl4 hr4 HB3 HR3
    go_wp2_with fail
    exact bodyPost_ret (results_tmp2 (fn := Try.f64) rfl _ _ _) rfl (begins_ok HB4.out HR4.out)
  · have HR2' := hid (HR2.out.trans (if_neg hsc))
    clear HR2
    go_wp2_with fail
    exact bodyPost_ret (results_tmp2 (fn := Try.f64) rfl _ _ _) rfl (begins_ok HB2.out HR2'.out)
end Go.Proofs.Ytebpgglegnljgaa
