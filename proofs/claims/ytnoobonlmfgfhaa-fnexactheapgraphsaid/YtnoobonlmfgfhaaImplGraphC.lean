/- The program's HeapGraph: a heap and roots that are fit. -/
import Derived.Test.YtnoobonlmfgfhaaImplGraphB
import Derived.Deep.CutRange
namespace Go.Proofs.Ytnoobonlmfgfhaa
open Go.RowKit

/-- What telling all that roots lead to comes to. -/
def GraphTold (w : World) (ws xs : List Int) (e : Ending) (w' : World) : Prop :=
  ∃ (K : Nat) (vo : Value) (gs : Nat → Nat) (gt : Nat), (∀ j, j < K → j < (graphRun ws j (tellsRun ws xs xs.length []).1).1.length) ∧ (graphRun ws K (tellsRun ws xs xs.length []).1).1.length ≤ K ∧
    e = .returned (.tuple #[vo, .slice (some ⟨gt, 0, none⟩) xs.length xs.length, .bool true]) ∧
    w'.ownsRow w.heap.size 81 2 vo (graphRun ws K (tellsRun ws xs xs.length []).1).2.length (objCells (graphRun ws K (tellsRun ws xs xs.length []).1).2 gs) ∧
    (∀ i, i < (graphRun ws K (tellsRun ws xs xs.length []).1).2.length → CellRow 3 w' (gs i) ((graphRun ws K (tellsRun ws xs xs.length []).1).2.getD i (0, [])).2.length (intCells ((graphRun ws K (tellsRun ws xs xs.length []).1).2.getD i (0, [])).2) ∧ w.heap.size ≤ gs i ∧ vo.ownBlock ≠ some (gs i) ∧ gs i ≠ gt) ∧
    (∀ i j, i < j → j < (graphRun ws K (tellsRun ws xs xs.length []).1).2.length → gs i ≠ gs j) ∧
    CellRow 3 w' gt xs.length (intCells (tellsRun ws xs xs.length []).2) ∧ w.heap.size ≤ gt ∧ vo.ownBlock ≠ some gt ∧ Below w.heap.size w w'

theorem size_here {ws S : List Int} {h : HpN} (ok : OkHeap ws S h) {a : Nat} (n : Node ws S a) : sizeZ (ws.getD a 0) = ws.getD a 0 / 16 := by
  have hn := ok.noted.2 a n.here
  have hs : sizeZ (ws.getD a 0) ≠ 0 := by rw [← hn.2.1]; exact n.here
  have hk := n.kind
  unfold sizeZ at hs ⊢
  rw [if_neg hk] at hs ⊢
  split
  · rename_i h
    rw [if_pos h] at hs
    exact absurd rfl hs
  · rfl

theorem append_run {P : Program} {a : Act} {o : Oper} {s x : Operand} {t : TypeId} (ho : o.op = .call { callee := .builtin .append, args := #[s, x], argTypes := #[t, t] }) {v vx : Value} (hs : a.eval s = v) (hx : a.eval x = vx) {w w' : World} {v' : Value} (hr : (Builtin.append_ #[t, t] o.type #[v, vx]).run P w = .ok v' w') : (execOp a.eval o).run P w = .ok (.value v') w' := by
  unfold execOp
  simp only [ho, resolve, invoke, builtin, Sem.run_bind, Sem.run_pure, Result.andThen_ok, List.map_toArray, List.map_cons, List.map_nil, hs, hx, hr]

/-- One who tells, and has told nothing yet. -/
theorem gph_new {B bg bp N : Nat} {vw : Value} {h : HpN} {W6 : World} (hB : B ≤ W6.heap.size) (W : World) (h1 : W6.heap.size ≤ bg) (h2 : W6.heap.size ≤ bp) (hne : bp ≠ bg)
    (hb : W.heap[bg]? = some (.cells #[vw, .int .i64 h.size, .int .i64 h.to, .int .i64 h.bottom, .int .i64 h.top, .int .i64 h.scan, .int .i64 h.fb, .int .i64 h.ft, .int .i64 h.flips, .int .i64 h.touched, .slice (some ⟨bp, 0, none⟩) N N, .slice none 0 0] 83))
    (hr : CellRow 3 W bp N (intCells (List.replicate N 0))) : Hid (Gph B bg bp N vw h [] (.slice none 0 0) W) := by
  refine ⟨hb, hr.congr (fun i hi => ?_), World.ownsRow_nil _ _ _ _, hne, by simp [Value.ownBlock], by simp [Value.ownBlock], by omega, by omega⟩
  unfold intCells placeZ
  simp [List.getD, hi]

set_option maxHeartbeats 4000000 in
set_option maxRecDepth 100000 in
theorem iGraph_good (b off cap N : Nat) (h : HpN) (rg n rc : Nat) (w : World) (ws S xs : List Int) (ok : OkHeap ws S h) (d : Wds b off N ws w) (hN : N ≤ 8000) (hcap : N ≤ cap) (hl : ListAt rg 0 xs w) (hxn : xs.length = n) (hn : n ≤ 20) (hx : ∀ i, i < xs.length → Leads ws S (xs.getD i 0))
    (HLy : Hid (∀ X, Below w.heap.size w X → Calls Try.prog 40 #[heapV (.slice (some ⟨b, off, none⟩) N cap) h] X fun e w' => ∃ gb, e = .returned (.tuple #[layV (.slice (some ⟨b, off, none⟩) N cap) h (.slice (some ⟨gb, 0, none⟩) N N), .bool true]) ∧ Hid (ISt b off gb N ws S w') ∧ Below X.heap.size X w'))
    (HRt : Hid (∀ (X : World) (gb : Nat), Below w.heap.size w X → ISt b off gb N ws S X → Calls Try.prog 46 #[layV (.slice (some ⟨b, off, none⟩) N cap) h (.slice (some ⟨gb, 0, none⟩) N N), .slice (some ⟨rg, 0, none⟩) n rc] X fun e w' => e = .returned (.bool true) ∧ Below X.heap.size X w')) :
    Calls Try.prog 29 #[heapV (.slice (some ⟨b, off, none⟩) N cap) h, .slice (some ⟨rg, 0, none⟩) n rc] w (GraphTold w ws xs) := by
  have HOk := hid ok
  have HD := hid d
  have HL := hid hl
  have HX := hid hx
  have HXn := hid hxn
  have HN8 := hid hN
  have HN20 := hid hn
  have HCp := hid hcap
  clear ok d hl hx hxn hn hcap
  obtain ⟨g1, g2, g3, g4, g5, g6, g7, g8, g9⟩ := h
  unfold heapV at *
  dsimp only at *
  obtain ⟨W0, hW0, hA, k2⟩ := one_new w (.slice (some ⟨b, off, none⟩) N cap) ⟨g1, g2, g3, g4, g5, g6, g7, g8, g9⟩
  dsimp only at hW0
  have HW0 := hid hW0
  have HK2 := hid k2
  have HA := hid hA
  clear hW0 hA k2
  go_enter Try.func29, Try.ntmps29
  go_wp2_with fail
  rw [HW0.out]
  refine (HLy.out _ HK2.out).mono ?_
  rintro e W1 ⟨gb, rfl, HI, hb1⟩
  unfold layV at *
  dsimp only at *
  have k1 := HK2.out.trans (hb1.mono HK2.out.size)
  have HB2 := hid (k1.alloc k1.size (.cells #[.slice (some ⟨b, off, none⟩) N cap, .int .i64 g1, .int .i64 g2, .int .i64 g3, .int .i64 g4, .int .i64 g5, .int .i64 g6, .int .i64 g7, .int .i64 g8, .int .i64 g9, .slice (some ⟨gb, 0, none⟩) N N] 59))
  have HI2 := hid (HI.out.kept ((Below.refl _ W1).alloc (Nat.le_refl _) (.cells #[.slice (some ⟨b, off, none⟩) N cap, .int .i64 g1, .int .i64 g2, .int .i64 g3, .int .i64 g4, .int .i64 g5, .int .i64 g6, .int .i64 g7, .int .i64 g8, .int .i64 g9, .slice (some ⟨gb, 0, none⟩) N N] 59)))
  have HA2 := hid ((HA.out.below hb1).below ((Below.refl _ W1).alloc (Nat.le_refl _) (.cells #[.slice (some ⟨b, off, none⟩) N cap, .int .i64 g1, .int .i64 g2, .int .i64 g3, .int .i64 g4, .int .i64 g5, .int .i64 g6, .int .i64 g7, .int .i64 g8, .int .i64 g9, .slice (some ⟨gb, 0, none⟩) N N] 59)))
  clear k1 hb1 HW0 HK2 HLy HI HA
  go_wp2_with fail
  generalize W1.alloc (.cells #[.slice (some ⟨b, off, none⟩) N cap, .int .i64 g1, .int .i64 g2, .int .i64 g3, .int .i64 g4, .int .i64 g5, .int .i64 g6, .int .i64 g7, .int .i64 g8, .int .i64 g9, .slice (some ⟨gb, 0, none⟩) N N] 59) = W2 at *
  refine (HRt.out _ _ HB2.out HI2.out).mono ?_
  rintro e W6 ⟨rfl, hb6⟩
  have HB6 := hid (HB2.out.trans (hb6.mono HB2.out.size))
  have HA6 := hid (HA2.out.below hb6)
  clear hb6 HB2 HI2 HA2 HRt
  obtain ⟨c0, c1, c2, c3, c4, c5, c6, c7, c8, c9⟩ := HA6.out.cells
  dsimp only at c0 c1 c2 c3 c4 c5 c6 c7 c8 c9
  have hmk := run_make_row' (P := Try.prog) 22 3 (.int .i64 0) 8 Try.underlying22 info_int rfl .i64 .i64 N (by omega) (by omega)
  have hs6 := HB6.out.size
  have hlA : w.heap.size < W6.heap.size := heap_lt HA6.out
  go_upto_region 4 with fail
  go_cut [9] from 28 to 33 (fun t wx => ∃ bg bp : Nat, t = .pointer (some ⟨bg, 0, none⟩) ∧ Hid (Gph w.heap.size bg bp N (.slice (some ⟨b, off, none⟩) N cap) ⟨g1, g2, g3, g4, g5, g6, g7, g8, g9⟩ [] (.slice none 0 0) wx) ∧ Hid (Below W6.heap.size W6 wx) ∧ Hid (W6.heap.size ≤ bg ∧ W6.heap.size ≤ bp))
  case first =>
    go_region_held3 (fun w' => w'.cell? ⟨w.heap.size, 0, none⟩ = some (.slice (some ⟨b, off, none⟩) N cap) ∧ w'.cell? ⟨w.heap.size, 1, none⟩ = some (.int .i64 g1) ∧ w'.cell? ⟨w.heap.size, 2, none⟩ = some (.int .i64 g2) ∧ w'.cell? ⟨w.heap.size, 3, none⟩ = some (.int .i64 g3) ∧ w'.cell? ⟨w.heap.size, 4, none⟩ = some (.int .i64 g4) ∧ w'.cell? ⟨w.heap.size, 5, none⟩ = some (.int .i64 g5) ∧ w'.cell? ⟨w.heap.size, 6, none⟩ = some (.int .i64 g6) ∧ w'.cell? ⟨w.heap.size, 7, none⟩ = some (.int .i64 g7) ∧ w'.cell? ⟨w.heap.size, 8, none⟩ = some (.int .i64 g8) ∧ w'.cell? ⟨w.heap.size, 9, none⟩ = some (.int .i64 g9)) (go_keep) (fail)
    · have k2 := (((Below.refl W6.heap.size W6).alloc (Nat.le_refl _) (.cells (madeCells #[.int .i64 0] N) 3)).alloc (by simp) (.cells #[.slice (some ⟨b, off, none⟩) N cap, .int .i64 g1, .int .i64 g2, .int .i64 g3, .int .i64 g4, .int .i64 g5, .int .i64 g6, .int .i64 g7, .int .i64 g8, .int .i64 g9, .slice (some ⟨W6.heap.size, 0, none⟩) N N, .slice none 0 0] 83)).drew
      go_wp2_with fail
      go_meet
      case rel => exact ⟨_, _, rfl, gph_new HB6.out.size ((W6.alloc (.cells (madeCells #[.int .i64 0] N) 3)).alloc (.cells #[.slice (some ⟨b, off, none⟩) N cap, .int .i64 g1, .int .i64 g2, .int .i64 g3, .int .i64 g4, .int .i64 g5, .int .i64 g6, .int .i64 g7, .int .i64 g8, .int .i64 g9, .slice (some ⟨W6.heap.size, 0, none⟩) N N, .slice none 0 0] 83)).drew (bg := W6.heap.size + 1) (bp := W6.heap.size) (by omega) (by omega) (by omega) (by
        have e := (MapKept.heap_alloc (W6.alloc (.cells (madeCells #[.int .i64 0] N) 3)) (.cells #[.slice (some ⟨b, off, none⟩) N cap, .int .i64 g1, .int .i64 g2, .int .i64 g3, .int .i64 g4, .int .i64 g5, .int .i64 g6, .int .i64 g7, .int .i64 g8, .int .i64 g9, .slice (some ⟨W6.heap.size, 0, none⟩) N N, .slice none 0 0] 83)).1
        rw [World.size_alloc] at e
        exact e) ((ints_made W6 N).of_block (Below.heap_alloc _ _ _ (by simp))), k2, ⟨by omega, by omega⟩⟩
    · have k2 := (((Below.refl W6.heap.size W6).alloc (Nat.le_refl _) (.cells #[.slice (some ⟨b, off, none⟩) N cap, .int .i64 g1, .int .i64 g2, .int .i64 g3, .int .i64 g4, .int .i64 g5, .int .i64 g6, .int .i64 g7, .int .i64 g8, .int .i64 g9, .slice (some ⟨W6.heap.size + 1, 0, none⟩) N N, .slice none 0 0] 83)).alloc (by simp) (.cells (madeCells #[.int .i64 0] N) 3)).drew
      go_wp2_with fail
      go_meet
      case rel => exact ⟨_, _, rfl, gph_new HB6.out.size ((W6.alloc (.cells #[.slice (some ⟨b, off, none⟩) N cap, .int .i64 g1, .int .i64 g2, .int .i64 g3, .int .i64 g4, .int .i64 g5, .int .i64 g6, .int .i64 g7, .int .i64 g8, .int .i64 g9, .slice (some ⟨W6.heap.size + 1, 0, none⟩) N N, .slice none 0 0] 83)).alloc (.cells (madeCells #[.int .i64 0] N) 3)).drew (bg := W6.heap.size) (bp := W6.heap.size + 1) (by omega) (by omega) (by omega) ((Below.heap_alloc _ _ _ (by simp)).trans (MapKept.heap_alloc W6 _).1) (by
        have e := ints_made (W6.alloc (.cells #[.slice (some ⟨b, off, none⟩) N cap, .int .i64 g1, .int .i64 g2, .int .i64 g3, .int .i64 g4, .int .i64 g5, .int .i64 g6, .int .i64 g7, .int .i64 g8, .int .i64 g9, .slice (some ⟨W6.heap.size + 1, 0, none⟩) N N, .slice none 0 0] 83)) N
        rw [World.size_alloc] at e
        exact e.of_block rfl), k2, ⟨by omega, by omega⟩⟩
  case rest =>
    obtain ⟨bg, bp, rfl, HG, HB7, HLt⟩ := hcut
    clear c0 c1 c2 c3 c4 c5 c6 c7 c8 c9 hmk
    have HBw : Hid (Below w.heap.size w wc) := HB6.out.trans (HB7.out.mono hs6)
    have HA7 := hid (HA6.out.below HB7.out)
    have HTl := hid (tellAll_calls (lc := rc) HOk.out wc HG.out (HD.out.below HBw.out) HD.out.lt hN ⟨List.nodup_nil, fun a ha => by cases ha⟩ HXn.out HN20.out ⟨fun hp => Nat.lt_of_lt_of_le (HL.out.1 hp) HBw.out.size, fun k hk => (HBw.out.cell (p := ⟨rg, 0 + k, none⟩) (HL.out.1 (Nat.lt_of_le_of_lt (Nat.zero_le _) hk))).trans (HL.out.2 k hk)⟩ HL.out.1 HX.out)
    go_wp2_with fail
    refine HTl.out.mono ?_
    rintro e W8 ⟨gt, rfl, hr8, hg8, n1, n2, v0, hG8, hF8, hM8, hv8⟩
    have hz7 := HB7.out.size
    have hz8 := hF8.size
    have hlt := HLt.out
    have HT8 := hid hr8
    have HGt : Hid (w.heap.size ≤ gt) := by show _ ≤ _; omega
    have hcl : wc.heap.size ≤ W8.heap.size := hz8
    have HNg : Hid (gt < W8.heap.size ∧ gt ≠ bg ∧ gt ≠ bp ∧ v0.ownBlock ≠ some gt) := ⟨hr8.lt, n1, n2, hv8⟩
    have hbgl : bg < wc.heap.size := heap_lt HG.out.blk
    have hbpl : bp < wc.heap.size := HG.out.places.lt
    have HV0 : Hid (∀ q, q < wc.heap.size → v0.ownBlock ≠ some q) := fun q hq e => by
      rcases hM8 with h | ⟨q', h, hl⟩
      · rw [e] at h
        simp [Value.ownBlock] at h
      · rw [e] at h
        cases h
        omega
    have HNb : Hid (w.heap.size < wc.heap.size ∧ w.heap.size ≠ bg ∧ w.heap.size ≠ bp) := ⟨heap_lt HA7.out, by omega, by omega⟩
    have HA8 := hid ((hF8.block w.heap.size (heap_lt HA7.out) (by omega) (by omega) (by simp [Value.ownBlock])).trans HA7.out)
    have HD8 := hid (hF8.wds (HD.out.below HBw.out) HD.out.lt HG.out.b1 HG.out.b2 (fun q e => by simp [Value.ownBlock] at e))
    have HB8 : Hid (Below w.heap.size w W8) := HBw.out.trans ⟨hF8.os, hF8.tape, hF8.output, hF8.size, fun q hq => hF8.block q (by have := HBw.out.size; omega) (by omega) (by omega) (by simp [Value.ownBlock])⟩
    have HM0 : Hid (Met ws S (tellsRun ws xs n []).1) := (Met.tells HOk.out (met := []) ⟨List.nodup_nil, fun a ha => by cases ha⟩ HX.out n (by rw [HXn.out]; exact Nat.le_refl _)).1
    obtain ⟨M, hM⟩ : ∃ M, (tellsRun ws xs n []).1 = M := ⟨_, rfl⟩
    rw [hM] at hG8 HM0
    have HMe := hid hM
    have HS0 : Hid (GSt W8 w.heap.size bg bp N (.slice (some ⟨b, off, none⟩) N cap) ⟨g1, g2, g3, g4, g5, g6, g7, g8, g9⟩ v0 M v0 [] (fun _ => 0) (.slice none 0 0) W8) :=
      ⟨hG8, World.ownsRow_nil _ _ _ _, fun i hi => (by cases hi), fun i hi => (by cases hi), fun q e => (by simp [Value.ownBlock] at e), fun q e => (by simp [Value.ownBlock] at e), fun i hi => (by cases hi), fun i j _ hj => (by cases hj), by omega, by omega, Or.inl rfl, FrmG.refl _ _ _ _⟩
    clear hr8 hg8 n1 n2 hG8 hF8 hM8 hv8 hM HTl HB7 HA7 HG hz7 hz8 hlt HL HX HN20 HB6 HA6 hlA hs6 HLt
    go_wp2_with fail
    have HMg : Hid (∀ k, (∀ j, j < k → j < (graphRun ws j M).1.length) → Met ws S (graphRun ws k M).1 ∧ (graphRun ws k M).2.length = k) := fun k hk => ⟨(Met.graph HOk.out HM0.out k hk).1, (Met.graph HOk.out HM0.out k hk).2.2⟩
    go_loopw [11, 12] (fun vo nx wr => ∃ (ii : Int) (k : Nat) (vm : Value) (gs : Nat → Nat), nx = .int .i64 ii ∧ Hid (ii = (k : Int) ∧ ∀ j, j < k → j < (graphRun ws j M).1.length) ∧ Hid (GSt W8 w.heap.size bg bp N (.slice (some ⟨b, off, none⟩) N cap) ⟨g1, g2, g3, g4, g5, g6, g7, g8, g9⟩ v0 (graphRun ws k M).1 vm (graphRun ws k M).2 gs vo wr)) (fun _ nx _ => N - (intOf nx).toNat)
    case atStart => exact ⟨0, 0, v0, fun _ => 0, rfl, ⟨rfl, fun j hj => by omega⟩, HS0.out⟩
    case round =>
      obtain ⟨ii, k, vm, gs, rfl, HQ, HS⟩ := hrel
      have HMk := hid (HMg.out k HQ.out.2)
      have HNx : Hid (graphRun ws (k + 1) M = ((tellsRun ws (fieldsAtZ ws ((graphRun ws k M).1.getD k 0)) (fieldsAtZ ws ((graphRun ws k M).1.getD k 0)).length (graphRun ws k M).1).1, (graphRun ws k M).2 ++ [(ws.getD ((graphRun ws k M).1.getD k 0) 0 % 16, (tellsRun ws (fieldsAtZ ws ((graphRun ws k M).1.getD k 0)) (fieldsAtZ ws ((graphRun ws k M).1.getD k 0)).length (graphRun ws k M).1).2)])) := rfl
      have HLs : Hid (∀ j, j < k → j < (graphRun ws j M).1.length) := HQ.out.2
      have HQk : Hid (ii = (k : Int)) := HQ.out.1
      obtain ⟨mt, hmt⟩ : ∃ mt, (graphRun ws k M).1 = mt := ⟨_, rfl⟩
      obtain ⟨ot, hot⟩ : ∃ ot, (graphRun ws k M).2 = ot := ⟨_, rfl⟩
      rw [hmt, hot] at HS HNx HMk
      have Hmt := hid hmt
      have Hot := hid hot
      clear hmt hot HQ
      obtain ⟨-, ad, cm, rfl⟩ := owns_at HS.out.gph.row
      have c11 : wr.cell? ⟨bg, 11, none⟩ = some (.slice ad mt.length cm) := by rw [cell_of_heap HS.out.gph.blk]; rfl
      have HSh := hid (HMk.out.1.short HOk.out)
      by_cases hlt : ii < (mt.length : Int)
      · have hkm : k < mt.length := by have := HQk.out; omega
        have hik : ii.toNat = k := by have := HQk.out; omega
        have hi0 : 0 ≤ ii := by have := HQk.out; omega
        obtain ⟨gm, rfl⟩ : ∃ gm, ad = some ⟨gm, 0, none⟩ := by
          obtain ⟨-, ⟨e, h0⟩ | ⟨g, cap', cur, e, -⟩⟩ := HS.out.gph.row
          · omega
          · cases e
            exact ⟨g, rfl⟩
        have hnode : Node ws S (mt.getD k 0) := HMk.out.1.nodes _ (by simp [List.getD, hkm])
        obtain ⟨h36, haN, hfl⟩ := node_at HOk.out hnode
        have qm : wr.cell? ⟨gm, k, none⟩ = some (.int .i64 ((mt.getD k 0 : Nat) : Int)) := by
          have e := HS.out.gph.row.cells (g := gm) (by simp [Value.ownBlock]) k (.int .i64 ((mt.getD k 0 : Nat) : Int)) (by unfold metCells; simp [List.getD, hkm])
          rw [show (⟨gm, 0, none⟩ : Addr).add k = ⟨gm, k, none⟩ from by unfold Addr.add; split <;> simp_all] at e
          exact e
        have hgl : gm < wr.heap.size := (HS.out.gph.own_lt (by simp [Value.ownBlock])).2
        have hfl' := fieldsAtZ_len ws (mt.getD k 0)
        have hsz : sizeZ (ws.getD (mt.getD k 0) 0) = ws.getD (mt.getD k 0) 0 / 16 := size_here HOk.out hnode
        have hkd : kindOr (ws.getD (mt.getD k 0) 0) = ws.getD (mt.getD k 0) 0 % 16 := by unfold kindOr; rw [if_neg (by omega)]
        have HFz := hid (fun i (hi : i < (fieldsAtZ ws (mt.getD k 0)).length) => show Leads ws S ((fieldsAtZ ws (mt.getD k 0)).getD i 0) from by
          rw [hfl'] at hi
          rw [fieldsAtZ_get hi]
          exact hfl i hi)
        have HFg := hid (fun i (hi : i < (fieldsAtZ ws (mt.getD k 0)).length) => show (fieldsAtZ ws (mt.getD k 0)).getD i 0 = ws.getD (mt.getD k 0 + 1 + i) 0 from by
          rw [hfl'] at hi
          exact fieldsAtZ_get hi)
        obtain ⟨a, ha⟩ : ∃ a, mt.getD k 0 = a := ⟨_, rfl⟩
        rw [ha] at qm HFz HFg hsz hkd h36 haN hfl' HNx
        obtain ⟨fz, hfz⟩ : ∃ fz, fieldsAtZ ws a = fz := ⟨_, rfl⟩
        rw [hfz] at HFz HFg hfl' HNx
        obtain ⟨x, hxv⟩ : ∃ x, ws.getD a 0 = x := ⟨_, rfl⟩
        rw [hxv] at hsz hkd h36 haN hfl' HNx
        obtain ⟨m, hm⟩ : ∃ m, fz.length = m := ⟨_, rfl⟩
        rw [hm] at hfl' HNx HFz HFg
        have HDr : Hid (Wds b off N ws wr) := HS.out.frm.wds HD8.out HD.out.lt HS.out.gph.b1 HS.out.gph.b2 (fun q e => by
          have h1 := HBw.out.size
          rcases Nat.lt_or_ge q wc.heap.size with h | h
          · exact absurd e (HV0.out q h)
          · omega)
        have HLen := hid HD.out.len
        have haN' : a < N := by have := HLen.out; omega
        have hm1 : sizeZ x = ((m + 1 : Nat) : Int) := by omega
        have HOb := hid (fun W' (hb : Below wr.heap.size wr W') => objectAt_calls b off N cap a x W' haN' (HDr.out.below hb).lt (by rw [← hxv]; exact (HDr.out.below hb).cells a haN'))
        have HFa := hid (fun W' (hb : Below wr.heap.size wr W') => fieldsAt_calls b off N cap a (m + 1) x W' hm1 (by omega) (by have := HLen.out; omega) HCp.out hN (HDr.out.below hb).lt (by rw [← hxv]; exact (HDr.out.below hb).cells a haN'))
        have HLa := hid (fun W' (hb : Below wr.heap.size wr W') => show ListAt b (off + (a + 1)) fz W' from ⟨fun _ => (HDr.out.below hb).lt, fun i hi => by
          have e := (HDr.out.below hb).cells (a + 1 + i) (by have := HLen.out; omega)
          rw [← HFg.out i (by omega)] at e
          rw [Nat.add_assoc]
          exact e⟩)
        have HTa := hid (fun vv W' (hb : Below wr.heap.size wr W') (g : Gph w.heap.size bg bp N (.slice (some ⟨b, off, none⟩) N cap) ⟨g1, g2, g3, g4, g5, g6, g7, g8, g9⟩ mt vv W') => tellAll_calls (lc := cap - (a + 1)) HOk.out W' g (HDr.out.below hb) HD.out.lt hN HMk.out.1 hm (by omega) (HLa.out W' hb) (fun _ => HD.out.lt) (fun i hi => HFz.out i (by omega)))
        rw [hsz, hkd] at HOb
        simp only [Nat.add_sub_cancel] at HFa
        obtain ⟨kd, hkdv⟩ : ∃ kd, x % 16 = kd := ⟨_, rfl⟩
        obtain ⟨lo, hlo⟩ : ∃ lo, off + (a + 1) = lo := ⟨_, rfl⟩
        obtain ⟨lc, hlc⟩ : ∃ lc, cap - (a + 1) = lc := ⟨_, rfl⟩
        obtain ⟨si, hsi⟩ : ∃ si, x / 16 = si := ⟨_, rfl⟩
        obtain ⟨ai, hai⟩ : ∃ ai : Int, (a : Int) = ai := ⟨_, rfl⟩
        obtain ⟨R, hR⟩ : ∃ R, tellsRun ws fz m mt = R := ⟨_, rfl⟩
        rw [hkdv, hsi, hai] at HOb
        rw [hlo, hlc, hai] at HFa
        rw [hlo, hlc, hR] at HTa
        rw [hkdv, hR] at HNx
        rw [hai] at qm
        have HRl : Hid (R.2.length = m) := by
          have e := (Met.tells HOk.out HMk.out.1 (xs := fz) (fun i hi => HFz.out i (by omega)) m (by omega)).2.2
          rw [hR] at e
          exact e
        have HSl : Hid (ot.length = k) := HMk.out.2
        have HSh' : Hid (mt.length ≤ 8000) := by have := HSh.out; have := HLen.out; show _ ≤ _; omega
        have l0 : ∀ y : Later wr.heap.size wr, y.w.cell? ⟨w.heap.size, 0, none⟩ = some (.slice (some ⟨b, off, none⟩) N cap) := fun y => y.cell (p := ⟨w.heap.size, 0, none⟩) (by have := HNb.out.1; have := HS.out.frm.size; show w.heap.size < _; omega) (HeapBlk.cells (h := ⟨g1, g2, g3, g4, g5, g6, g7, g8, g9⟩) ((HS.out.frm.block w.heap.size (by have := HNb.out.1; omega) HNb.out.2.1 HNb.out.2.2 (HV0.out _ HNb.out.1)).trans HA8.out)).1
        have l1 : ∀ y : Later wr.heap.size wr, y.w.cell? ⟨bg, 11, none⟩ = some (.slice (some ⟨gm, 0, none⟩) mt.length cm) := fun y => y.cell (heap_lt HS.out.gph.blk) c11
        have l2 : ∀ y : Later wr.heap.size wr, y.w.cell? ⟨gm, k, none⟩ = some (.int .i64 ai) := fun y => y.cell hgl qm
        clear hnode h36 haN hfl hfl' hsz hkd HFz HFg ha hfz hxv hm hm1 hkdv hlo hlc hsi hai hR HLa HMk HDr haN'
        have hs : Hid (N - (intOf (.int .i64 (ii + 1))).toNat < N - (intOf (.int .i64 ii)).toNat) := by have := HSh.out; have := HLen.out; show _ < _; simp only [intOf]; omega
        have hw : Hid (wrap64 (ii + 1) = ii + 1) := by show _ = _; have := HSh'.out; unfold wrap64; omega
        go_wp2_with fail
        refine wp_region_calm wr.heap.size (by kernel_rfl) (by kernel_rfl) ?_
        repeat (go_big_quiet_step (first
          | (rename_i y; go_at_call 63; refine (HOb.out _ y.h).mono ?_; rintro e w5 ⟨rfl, hb5⟩; exact ⟨rfl, ⟨w5, y.h.trans (hb5.mono y.h.size)⟩, rfl⟩)))
        refine wpQuiet_nil ?_
        rintro w6 ⟨y, rfl⟩
        have HS2 := hid (HS.out.below y.h)
        have HBy := hid y.h
        have m0 := l0 y
        have m1 := l1 y
        have m2 := l2 y
        have hzy := y.h.size
        have hlA2 : w.heap.size < y.w.heap.size := by have := HNb.out.1; have := HS.out.frm.size; omega
        generalize y.w = X2 at *
        clear y l0 l1 l2 HOb c11 qm
        have hgl2 : gm < X2.heap.size := by omega
        have l0 : ∀ y : Later X2.heap.size X2, y.w.cell? ⟨w.heap.size, 0, none⟩ = some (.slice (some ⟨b, off, none⟩) N cap) := fun y => y.cell hlA2 m0
        have l1 : ∀ y : Later X2.heap.size X2, y.w.cell? ⟨bg, 11, none⟩ = some (.slice (some ⟨gm, 0, none⟩) mt.length cm) := fun y => y.cell (heap_lt HS2.out.gph.blk) m1
        have l2 : ∀ y : Later X2.heap.size X2, y.w.cell? ⟨gm, k, none⟩ = some (.int .i64 ai) := fun y => y.cell hgl2 m2
        clear m0 m1 m2 hgl hgl2 hlA2
        have hzy' := HBy.out.size
        go_wp2_with fail
        refine till_begin (c := 10) (S := fun w' => ∃ x : Later X2.heap.size X2, w' = x.w) (by kernel_rfl) ?_
        refine till_walk (by kernel_rfl) 10 0 _ _ (by kernel_rfl) (by kernel_rfl) ⟨⟨X2.drew, (Below.refl _ _).drew⟩, rfl⟩ ?_
        simp only [List.drop_zero, List.take_succ_cons, List.take_zero]
        repeat (go_big_quiet_step (first
          | (rename_i y; go_at_call 64; refine (HFa.out _ (HBy.out.trans (y.h.mono HBy.out.size))).mono ?_; rintro e w5 ⟨rfl, hb5⟩; exact ⟨rfl, ⟨w5, y.h.trans (hb5.mono y.h.size)⟩, rfl⟩)))
        refine wpQuiet_nil ?_
        rintro w7 ⟨x1, rfl⟩
        have HBx := hid (HBy.out.trans (x1.h.mono HBy.out.size))
        have HSx := hid (HS2.out.below x1.h)
        refine till_enter (c := 10) (f := 62) (args := #[.pointer (some ⟨bg, 0, none⟩), .slice (some ⟨b, lo, none⟩) m lc]) rfl (by kernel_rfl) rfl (by simp [go_sem]) ?_
        refine (HTa.out _ _ HBx.out HSx.out.gph).mono ?_
        generalize x1.w = Xx at *
        rintro e X3 ⟨g3', rfl, hr3, hl3, ne1, ne2, vm3, hG3, hF3, hM3, hv3⟩
        have HS3 := hid (HSx.out.tells hG3 hF3 hM3)
        have HR3 : Hid (CellRow 3 X3 g3' R.2.length (intCells R.2)) := by rw [HRl.out]; exact hr3
        have HG3 : Hid (W8.heap.size ≤ g3' ∧ vm3.ownBlock ≠ some g3' ∧ u11.ownBlock ≠ some g3' ∧ ∀ i, i < ot.length → gs i ≠ g3') :=
          ⟨Nat.le_trans HSx.out.frm.size hl3, hv3, fun e => by have := ((owns_at' HSx.out.row).1 _ e).2; omega, fun i hi e => by have := (HSx.out.fld i hi).lt; omega⟩
        clear l0 l1 l2 hr3 hl3 ne1 ne2 hG3 hF3 hM3 hv3 HSx HBx HTa HFa HS2 HS x1
        refine ⟨_, rfl, ?_⟩
        refine any_frame (by simp [go_sem]; exact rfl) ?_
        refine any_stage (fun _ => True) ?_
        refine stage_make (k := 11) (v := .agg #[.int .i64 kd, .slice (some ⟨g3', 0, none⟩) m m]) (w1 := X3) rfl (by kernel_rfl) rfl (by simp [go_sem]) trivial (by simp [go_sem]; exact rfl) ?_
        refine stage_make (k := 12) (v := .slice (some ⟨X3.heap.size, 0, none⟩) 1 1) (w1 := X3.alloc (.cells #[.int .i64 kd, .slice (some ⟨g3', 0, none⟩) m m] 81)) rfl (by kernel_rfl) rfl (by simp [go_sem]) trivial (by simp [go_sem]; exact rfl) ?_
        have hE : (X3.alloc (.cells #[.int .i64 kd, .slice (some ⟨g3', 0, none⟩) m m] 81)).heap[X3.heap.size]? = some (.cells #[.int .i64 kd, .slice (some ⟨g3', 0, none⟩) m m] 81) := (MapKept.heap_alloc X3 _).1
        have hK4 := (Below.refl X3.heap.size X3).alloc (Nat.le_refl _) (.cells #[.int .i64 kd, .slice (some ⟨g3', 0, none⟩) m m] 81)
        generalize X3.alloc (.cells #[.int .i64 kd, .slice (some ⟨g3', 0, none⟩) m m] 81) = X4 at *
        have HS4 := hid (HS3.out.below hK4)
        have HR4 := hid (HR3.out.of_block (hK4.block g3' HR3.out.lt))
        obtain ⟨i0, hi, hz0, hz1, hz2⟩ := info_parts info_obj
        have hol : ot.length ≤ 8000 := by have := HSl.out; have := HSh'.out; omega
        obtain ⟨vo', X5, hrun, hown, hgrow, -, hat⟩ := run_append_own_at (P := Try.prog) X4 w.heap.size 47 47 81 i0 _ 2 32 Try.underlying47 hi hz0 hz1 hz2 rfl (by decide) u11 ot.length (objCells ot gs) HS4.out.row ⟨X3.heap.size, 0, none⟩ 1 1 [.int .i64 kd, .slice (some ⟨g3', 0, none⟩) m m] rfl (fun j u hu => by
          match j, hu with
          | 0, hu =>
            simp at hu
            subst hu
            exact cell_of_heap hE 0
          | 1, hu =>
            simp at hu
            subst hu
            exact cell_of_heap hE 1) (fun u hu => by
          simp at hu
          rcases hu with rfl | rfl <;> rfl) (by unfold maxLen; omega) (by omega) (by have := HS4.out.frm.size; have := HB8.out.size; omega)
        have HS5 : Hid (GSt W8 w.heap.size bg bp N (.slice (some ⟨b, off, none⟩) N cap) ⟨g1, g2, g3, g4, g5, g6, g7, g8, g9⟩ v0 R.1 vm3 (ot ++ [(kd, R.2)]) (fun i => if i = ot.length then g3' else gs i) vo' X5) := by
          refine HS4.out.push (kd, R.2) g3' HR4.out HG3.out.1 HG3.out.2.1 HG3.out.2.2.1 HG3.out.2.2.2 ?_ hgrow ?_
          · rw [HRl.out]
            exact hown
          · rcases hat with h | h
            · exact Or.inl h
            · exact Or.inr ⟨_, h, Nat.le_refl _⟩
        refine stage_make (k := 13) (v := vo') (w1 := X5) rfl (by kernel_rfl) rfl (append_run (s := .tmp 54) (x := .tmp 66) (t := 47) rfl rfl rfl hrun) trivial (by simp [go_sem]; exact rfl) ?_
        refine stage_make (k := 14) (v := vo') (w1 := X5) rfl (by kernel_rfl) rfl (by simp [go_sem]) trivial (by simp [go_sem]; exact rfl) ?_
        refine stage_end (by kernel_rfl) ?_
        clear hE hK4 hrun hown hgrow hat hi hz0 hz1 hz2 hol HS4 HR4 HS3 HR3 HG3
        go_wp2_with fail
        try rw [hw.out]
        refine ⟨⟨ii + 1, k + 1, vm3, fun i => if i = ot.length then g3' else gs i, rfl, ⟨by have := HQk.out; push_cast; omega, fun j hj => ?_⟩, ?_⟩, hs.out⟩
        · rcases Nat.lt_or_ge j k with h | h
          · exact HLs.out j h
          · have e : j = k := by omega
            rw [e, Hmt.out]
            exact hkm
        · rw [HNx.out]
          exact HS5.out
      · have hk : mt.length ≤ k := by have := HQk.out; omega
        have HBr : Hid (Below w.heap.size w wr) := HB8.out.trans ⟨HS.out.frm.os, HS.out.frm.tape, HS.out.frm.output, HS.out.frm.size, fun q hq => HS.out.frm.block q (by have := HB8.out.size; omega) (by have := HS.out.gph.b1; omega) (by have := HS.out.gph.b2; omega) (HV0.out q (by have := HNb.out.1; omega))⟩
        have HTr := hid (HT8.out.of_block (HS.out.frm.block gt HNg.out.1 HNg.out.2.1 HNg.out.2.2.1 HNg.out.2.2.2))
        go_wp2_with fail
        refine bodyPost_ret (v := .tuple #[u11, .slice (some ⟨gt, 0, none⟩) n n, .bool true]) (by simp [results, Try.results29, go_sem]) rfl ?_
        have hn := HXn.out
        subst hn
        refine ⟨k, u11, gs, gt, ?_⟩
        rw [HMe.out, Hmt.out, Hot.out]
        refine ⟨HLs.out, hk, rfl, HS.out.row, fun i hi => ⟨HS.out.fld i hi, ?_, (HS.out.a2 i hi).2, ?_⟩, HS.out.inj, HTr.out, HGt.out, fun e => ?_, HBr.out⟩
        · have := HS.out.new i hi
          have := HB8.out.size
          omega
        · have := HS.out.new i hi
          have := HNg.out.1
          omega
        · have := HS.out.o1 gt e
          have := HNg.out.1
          omega
end Go.Proofs.Ytnoobonlmfgfhaa
