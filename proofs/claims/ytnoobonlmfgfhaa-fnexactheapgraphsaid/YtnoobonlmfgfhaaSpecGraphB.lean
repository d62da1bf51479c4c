/- The specification's HeapGraph: a heap and roots that are fit. -/
import Derived.Test.YtnoobonlmfgfhaaSpecGraphA
namespace Go.Proofs.Ytnoobonlmfgfhaa
open Go.RowKit

/-- What telling all that roots lead to comes to, in the specification. -/
def SGraphTold (w : World) (ws xs : List Int) (e : Ending) (w' : World) : Prop :=
  ∃ (K : Nat) (vo vt : Value) (vs : Nat → Value), (∀ j, j < K → j < (graphRun ws j (tellsRun ws xs xs.length []).1).1.length) ∧ (graphRun ws K (tellsRun ws xs xs.length []).1).1.length ≤ K ∧
    e = .returned (.tuple #[vo, vt, .bool true]) ∧
    w'.ownsRow w.heap.size 81 2 vo (graphRun ws K (tellsRun ws xs xs.length []).1).2.length ((List.range (graphRun ws K (tellsRun ws xs xs.length []).1).2.length).flatMap (fun i => [.int .i64 ((graphRun ws K (tellsRun ws xs xs.length []).1).2.getD i (0, [])).1, vs i])) ∧
    (∀ i, i < (graphRun ws K (tellsRun ws xs xs.length []).1).2.length → w'.ownsRow w.heap.size 3 1 (vs i) ((graphRun ws K (tellsRun ws xs xs.length []).1).2.getD i (0, [])).2.length (((graphRun ws K (tellsRun ws xs xs.length []).1).2.getD i (0, [])).2.map (fun x => Value.int .i64 x))) ∧
    w'.ownsRow w.heap.size 3 1 vt xs.length ((tellsRun ws xs xs.length []).2.map (fun x => Value.int .i64 x)) ∧ Below w.heap.size w w'

set_option maxHeartbeats 8000000 in
set_option maxRecDepth 100000 in
theorem sGraph_good (b off cap N : Nat) (h : HpN) (rg n rc : Nat) (w : World) (ws S xs : List Int) (ok : OkHeap ws S h) (d : Wds b off N ws w) (hN : N ≤ 8000) (hl : ListAt rg 0 xs w) (hxn : xs.length = n) (hn : n ≤ 20) (hx : ∀ i, i < xs.length → Leads ws S (xs.getD i 0))
    (HOk : Hid (∀ X, Below w.heap.size w X → Calls Try.prog 10 #[heapV (.slice (some ⟨b, off, none⟩) N cap) h] X fun e w' => e = .returned (.bool true) ∧ Below X.heap.size X w'))
    (HRt : Hid (∀ X, Below w.heap.size w X → Calls Try.prog 42 #[heapV (.slice (some ⟨b, off, none⟩) N cap) h, .slice (some ⟨rg, 0, none⟩) n rc] X fun e w' => e = .returned (.bool true) ∧ Below X.heap.size X w')) :
    Calls Try.prog 28 #[heapV (.slice (some ⟨b, off, none⟩) N cap) h, .slice (some ⟨rg, 0, none⟩) n rc] w (SGraphTold w ws xs) := by
  have HKo := hid ok
  have HD := hid d
  have HL := hid hl
  have HX := hid hx
  have HXn := hid hxn
  have HN20 := hid hn
  have HNow := hid (fun x X (d : Wds b off N ws X) (hx : Leads ws S x) (hx8 : x % 8 = 0) => sNow_calls (cap := cap) ok x X d hN hx hx8)
  have hn20 : ¬ (20 : Int) < (n : Int) := by omega
  clear ok d hl hx hxn hn
  obtain ⟨g1, g2, g3, g4, g5, g6, g7, g8, g9⟩ := h
  unfold heapV at *
  dsimp only at *
  obtain ⟨W0, hW0, hA, k2⟩ := one_new w (.slice (some ⟨b, off, none⟩) N cap) ⟨g1, g2, g3, g4, g5, g6, g7, g8, g9⟩
  dsimp only at hW0
  have HW0 := hid hW0
  have HK2 := hid k2
  have HA := hid hA
  clear hW0 hA k2
  go_enter Try.func28, Try.ntmps28
  go_wp2_with fail
  rw [HW0.out]
  refine (HOk.out _ HK2.out).mono ?_
  rintro e W1 ⟨rfl, hb1⟩
  have HB1 := hid (HK2.out.trans (hb1.mono HK2.out.size))
  have HA1 := hid (HA.out.below hb1)
  obtain ⟨c0, c1, c2, c3, c4, c5, c6, c7, c8, c9⟩ := HA1.out.cells
  dsimp only at c0 c1 c2 c3 c4 c5 c6 c7 c8 c9
  clear hb1 HW0 HK2 HOk HA
  go_wp2_with fail
  refine (HRt.out _ HB1.out).mono ?_
  rintro e W2 ⟨rfl, hb2⟩
  have HB2 := hid (HB1.out.trans (hb2.mono HB1.out.size))
  have HA2 := hid (HA1.out.below hb2)
  clear hb2 HB1 HRt c0 c1 c2 c3 c4 c5 c6 c7 c8 c9 HA1
  have c0 := HA2.out.cells.1
  obtain ⟨c, hcs, hmk⟩ := made_ints N (by omega) W2
  have hrow := World.rowIs_alloc W2 c 3 (fun i => c.getD i undef) (fun i hi => by simp [hi])
  rw [hcs] at hrow
  have hK := (Below.refl W2.heap.size W2).alloc (Nat.le_refl _) (.cells c 3)
  have hsz : (W2.alloc (.cells c 3)).heap.size = W2.heap.size + 1 := by simp
  have HK := hid hK
  have HSz := hid hsz
  have HA3 := hid (HA2.out.below hK)
  have HB3 := hid (HB2.out.trans (hK.mono HB2.out.size))
  have hBz := HB2.out.size
  have hAl : w.heap.size < W2.heap.size := heap_lt HA2.out
  clear hK hsz HA2
  go_wp2_with fail
  clear hmk c0
  generalize W2.alloc (.cells c 3) = W3 at *
  have HRw := hid (rw_of_row hrow N)
  clear hrow hcs
  obtain ⟨bp, hbp⟩ : ∃ bp, W2.heap.size = bp := ⟨_, rfl⟩
  rw [hbp] at HRw HSz hBz hAl HK ⊢
  go_loopw [8] (fun i wr => ∃ (ii : Int) (k : Nat) (f : Nat → Value), i = .int .i64 ii ∧ Hid (ii = (k : Int) ∧ k ≤ N) ∧ Hid (Rw wr bp 3 N f N) ∧ Hid (∀ j, j < k → f j = .int .i64 (-1)) ∧ Hid (Below bp W3 wr)) (fun i _ => N - (intOf i).toNat)
  case atStart => exact ⟨0, 0, _, rfl, ⟨rfl, by omega⟩, HRw.out, fun j hj => by omega, Below.refl _ _⟩
  case round =>
    obtain ⟨ii, k, f, rfl, HQ, HRo, HF, HBl⟩ := hrel
    have hi0 : 0 ≤ ii := by have := HQ.out; omega
    clear HRw
    by_cases hlt : ii < (N : Int)
    · have hkm : k < N := by have := HQ.out; omega
      have hik : ii.toNat = k := by have := HQ.out; omega
      have q1 := HRo.out.cell (i := k) hkm
      have z1 := HRo.out.frozen k hkm
      have hs : Hid (N - (intOf (.int .i64 (ii + 1))).toNat < N - (intOf (.int .i64 ii)).toNat) := by show _ < _; simp only [intOf]; omega
      have hw : Hid (wrap64 (ii + 1) = ii + 1) := by show _ = _; unfold wrap64; omega
      go_wp2_with fail
      try rw [hw.out]
      refine ⟨⟨ii + 1, k + 1, _, rfl, ⟨by have := HQ.out; push_cast; omega, by omega⟩, HRo.out.set k _, ?_, HBl.out.setCell (by show bp ≤ bp; omega) _⟩, hs.out⟩
      intro j hj
      by_cases hjk : j = k
      · rw [if_pos hjk]
      · rw [if_neg hjk]
        exact HF.out j (by omega)
    · have hkm : k = N := by have := HQ.out; omega
      have HS0 : Hid (SGr w.heap.size bp N [] (.slice none 0 0) wr) := ⟨⟨N, f, HRo.out, Nat.le_refl _, fun j hj => by rw [HF.out j (by omega)]; simp [placeZ]⟩, World.ownsRow_nil _ _ _ _, by simp [Value.ownBlock], by omega⟩
      have HBw : Hid (Below w.heap.size w wr) := HB3.out.trans (HBl.out.mono (by omega))
      have HA4 := hid ((HBl.out.block w.heap.size hAl).trans HA3.out)
      have hW3 : bp < wr.heap.size := by have := HBl.out.size; have := HSz.out; omega
      have HA4 := hid ((HBl.out.block w.heap.size hAl).trans HA3.out)
      have hW3 : bp < wr.heap.size := by have := HBl.out.size; have := HSz.out; omega
      have HA4 := hid ((HBl.out.block w.heap.size hAl).trans HA3.out)
      have hW3 : bp < wr.heap.size := by have := HBl.out.size; have := HSz.out; omega
      have HA4 := hid ((HBl.out.block w.heap.size hAl).trans HA3.out)
      have hW3 : bp < wr.heap.size := by have := HBl.out.size; have := HSz.out; omega
      have HA4 := hid ((HBl.out.block w.heap.size hAl).trans HA3.out)
      have hW3 : bp < wr.heap.size := by have := HBl.out.size; have := HSz.out; omega
      have HA4 := hid ((HBl.out.block w.heap.size hAl).trans HA3.out)
      have hW3 : bp < wr.heap.size := by have := HBl.out.size; have := HSz.out; omega
      have HA4 := hid ((HBl.out.block w.heap.size hAl).trans HA3.out)
      have hW3 : bp < wr.heap.size := by have := HBl.out.size; have := HSz.out; omega
      have HA4 := hid ((HBl.out.block w.heap.size hAl).trans HA3.out)
      have hW3 : bp < wr.heap.size := by have := HBl.out.size; have := HSz.out; omega
      have HA4 := hid ((HBl.out.block w.heap.size hAl).trans HA3.out)
      have hW3 : bp < wr.heap.size := by have := HBl.out.size; have := HSz.out; omega
      have HA4 := hid ((HBl.out.block w.heap.size hAl).trans HA3.out)
      have hW3 : bp < wr.heap.size := by have := HBl.out.size; have := HSz.out; omega
      have HA4 := hid ((HBl.out.block w.heap.size hAl).trans HA3.out)
      have hW3 : bp < wr.heap.size := by have := HBl.out.size; have := HSz.out; omega
      have HA4 := hid ((HBl.out.block w.heap.size hAl).trans HA3.out)
      have hW3 : bp < wr.heap.size := by have := HBl.out.size; have := HSz.out; omega
      have HA4 := hid ((HBl.out.block w.heap.size hAl).trans HA3.out)
      have hW3 : bp < wr.heap.size := by have := HBl.out.size; have := HSz.out; omega
      rename World => w3
      have HS1 : Hid (STl w3 w.heap.size bp N (.slice none 0 0) [] (.slice none 0 0) [] (.slice none 0 0) w3) := ⟨HS0.out, World.ownsRow_nil _ _ _ _, fun q e => by simp [Value.ownBlock] at e, fun q e => by simp [Value.ownBlock] at e, hW3, Or.inl rfl, FrmG.refl _ _ _ _⟩
      have HTg := hid (fun x w => specTag_calls x w)
      unfold tagZ at HTg
      clear HS0 HRo HF HBl HB2 HK HSz HA3 HB3 HQ
      go_wp2_with fail
      go_loopw [9, 10, 11] (fun vm vt i wr => ∃ (ii : Int) (k : Nat), i = .int .i64 ii ∧ Hid (ii = (k : Int) ∧ k ≤ n) ∧ Hid (STl w3 w.heap.size bp N (.slice none 0 0) (tellsRun ws xs k []).1 vm (tellsRun ws xs k []).2 vt wr)) (fun _ _ i _ => n - (intOf i).toNat)
      case atStart => exact ⟨0, 0, rfl, ⟨rfl, by omega⟩, HS1.out⟩
      case round =>
        obtain ⟨ii, k, rfl, HQ, HS⟩ := hrel
        have hi0' : 0 ≤ ii := by have := HQ.out; omega
        by_cases hlt2 : ii < (n : Int)
        · have hkm2 : k < n := by have := HQ.out; omega
          have hik : ii.toNat = k := by have := HQ.out; omega
          have hkx : k < xs.length := by have := HXn.out; omega
          have HOld : Hid (∀ q, q < w3.heap.size → q ≠ bp → wr.heap[q]? = w3.heap[q]?) := fun q hq hne => HS.out.frm.block q hq hne hne (by simp [Value.ownBlock])
          have q0 : wr.cell? ⟨rg, k, none⟩ = some (.int .i64 (xs.getD k 0)) := by
            have hrg : rg < w.heap.size := HL.out.1 (Nat.lt_of_le_of_lt (Nat.zero_le _) hkx)
            have hrl : rg < w3.heap.size := Nat.lt_of_lt_of_le hrg HBw.out.size
            have e := (World.cell?_of_block (w := w3) (a := ⟨rg, 0 + k, none⟩) (HOld.out rg hrl (by omega))).trans ((HBw.out.cell (p := ⟨rg, 0 + k, none⟩) hrg).trans (HL.out.2 k hkx))
            rw [Nat.zero_add] at e
            exact e
          have HDr : Hid (Wds b off N ws wr) := HS.out.frm.wds (HD.out.below HBw.out) HD.out.lt (by omega) (by omega) (fun q e => by simp [Value.ownBlock] at e)
          have HLd := hid (HX.out k hkx)
          have HMt := hid (Met.tells HKo.out (met := []) ⟨List.nodup_nil, fun a ha => by cases ha⟩ HX.out k (by omega)).1
          have HLk := hid (Met.tells HKo.out (met := []) ⟨List.nodup_nil, fun a ha => by cases ha⟩ HX.out k (by omega)).2.2
          have HNx : Hid (tellsRun ws xs (k + 1) [] = ((tellZ ws (tellsRun ws xs k []).1 (xs.getD k 0)).1, (tellsRun ws xs k []).2 ++ [(tellZ ws (tellsRun ws xs k []).1 (xs.getD k 0)).2])) := rfl
          obtain ⟨x, hxk⟩ : ∃ x, xs.getD k 0 = x := ⟨_, rfl⟩
          obtain ⟨mt, hmt⟩ : ∃ mt, (tellsRun ws xs k []).1 = mt := ⟨_, rfl⟩
          obtain ⟨ot, hot⟩ : ∃ ot, (tellsRun ws xs k []).2 = ot := ⟨_, rfl⟩
          rw [hxk] at q0 HLd HNx
          rw [hmt, hot] at HNx HS
          rw [hot] at HLk
          rw [hmt] at HMt
          obtain ⟨r, hr⟩ : ∃ r, tellZ ws mt x = r := ⟨_, rfl⟩
          rw [hr] at HNx
          have HrE := hid hr
          have HSg := hid HS.out.gr
          have HSh : Hid (mt.length ≤ 8000) := by have e := HMt.out.short HKo.out; have := HDr.out.len; show _ ≤ _; omega
          obtain ⟨h0, h1, h2, h3, h4, h5, h6, h7, h8, h9⟩ := HeapBlk.cells (h := ⟨g1, g2, g3, g4, g5, g6, g7, g8, g9⟩) ((HOld.out w.heap.size (by omega) (by omega)).trans HA4.out)
          dsimp only at h0 h1 h2 h3 h4 h5 h6 h7 h8 h9
          clear hxk hmt hot hr
          go_wp2_with fail
          refine (HTg.out _ _).mono ?_
          rintro e Wt ⟨rfl, rfl⟩
          go_upto_if 60 with fail
          go_cut [9, 12, 13] from 48 to 86 (fun vm' tw _ wx => tw = .int .i64 r.2 ∧ Hid (SGr w.heap.size bp N r.1 vm' wx) ∧ Hid (FrmG wr bp bp u9 wx) ∧ Hid (MovedTo wr u9 vm'))
          case first =>
            by_cases hx8 : x % 8 = 0
            case neg =>
              have hne : ((x % 8 : Int) == 0) = false := by simpa using hx8
              have hre : (mt, x) = r := by rw [← HrE.out]; unfold tellZ; rw [if_neg hx8]
              go_wp2_with fail
              go_meet
              case rel => exact ⟨by rw [← hre], by rw [← hre]; exact HSg.out, FrmG.refl _ _ _ _, Or.inl rfl⟩
            obtain ⟨y0, y1, hyS⟩ := HLd.out hx8
            have hnode := now_node HKo.out HLd.out hx8
            have hnn := HKo.out.noted.2 _ hnode.here
            have HNw := hid (HNow.out x wr HDr.out HLd.out hx8)
            obtain ⟨c, hc⟩ : ∃ c, nowZ ws (x / 8).toNat = c := ⟨_, rfl⟩
            rw [hc] at hnn HNw
            have hcN : c < N := by rw [← HDr.out.len]; exact hnn.1
            have hre : (if c ∈ mt then (mt, 8 * ((mt).idxOf c : Int)) else (mt ++ [c], 8 * ((mt).length : Int))) = r := by rw [← HrE.out]; unfold tellZ; rw [if_pos hx8, hc]
            have HRe := hid hre
            obtain ⟨ci, hci⟩ : ∃ ci : Int, (c : Int) = ci := ⟨_, rfl⟩
            rw [hci] at HNw
            have Hci := hid hci
            have hx8b : ((x % 8 : Int) == 0) = true := by simpa using hx8
            clear hnode hnn hc hre hci y0 y1 hyS
            go_wp2_with fail
            refine HNw.out.mono ?_
            rintro e Wn ⟨rfl, hbn⟩
            have HG2 := hid (HSg.out.keep hbn)
            have HF2 := hid (FrmG.of_below hbn bp bp u9)
            clear hbn HNw
            have q0 := HG2.out.places.cell (i := c) hcN
            have hct : ci.toNat = c := by have := Hci.out; omega
            have hc0 : 0 ≤ ci := by have := Hci.out; omega
            have hcl : ci < (N : Int) := by have := Hci.out; omega
            have hpr := placeZ_range (met := mt) (a := c)
            obtain ⟨p1, hp1⟩ : ∃ p1, placeZ mt c = p1 := ⟨_, rfl⟩
            rw [hp1] at q0
            have Hp1 := hid hp1
            by_cases hin : c ∈ mt
            · have hix := List.idxOf_lt_length_of_mem hin
              have hpv : p1 = (((mt).idxOf c : Nat) : Int) := by rw [← hp1]; unfold placeZ; rw [if_pos hin]
              have hnl : ¬ p1 < 0 := by omega
              have HMk := hid (fun w => specMake_calls 0 p1 w)
              have HMv : Hid (makeZ 0 p1 = 8 * ((mt).idxOf c : Int)) := by
                have := HSh.out
                show _ = _
                rw [hpv]
                unfold makeZ wrap64
                simp
                omega
              rw [HMv.out] at HMk
              have HRi : Hid ((mt, 8 * ((mt).idxOf c : Int)) = r) := by show _ = _; rw [← HRe.out, if_pos hin]
              clear hix hpv hpr hp1 HMv
              go_wp2_with fail
              refine (HMk.out _).mono ?_
              rintro e Wm ⟨rfl, rfl⟩
              go_wp2_with fail
              go_meet
              case rel => exact ⟨by rw [← HRi.out], by rw [← HRi.out]; exact HG2.out, HF2.out, Or.inl rfl⟩
            · have hpz : p1 < 0 := by rw [← hp1]; exact placeZ_neg.2 hin
              have HRi : Hid ((mt ++ [c], 8 * ((mt).length : Int)) = r) := by show _ = _; rw [← HRe.out, if_neg hin]
              have HPn := hid (fun a => placeZ_new (met := mt) hin a)
              clear hpr hp1
              obtain ⟨-, ad, cm, hvm⟩ := owns_at HG2.out.row
              subst hvm
              obtain ⟨_, _, hrow, _, _⟩ := HG2.out.places
              have fq := hrow.frozen c hcN
              have q5 := row_set' HG2.out.places c (.int .i64 ((mt).length : Int))
              have HP5 : Hid (CellRow 3 (Wn.setCell ⟨bp, c, none⟩ (.int .i64 ((mt).length : Int))) bp N (fun a => .int .i64 (placeZ (mt ++ [c]) a))) := by
                refine q5.congr (fun j hj => ?_)
                rw [HPn.out]
                by_cases h : j = c
                · rw [if_pos h, if_pos h]
                · rw [if_neg h, if_neg h]
              have HO5 : Hid (∀ g, g ≠ bp → (Wn.setCell ⟨bp, c, none⟩ (.int .i64 ((mt).length : Int))).heap[g]? = Wn.heap[g]?) := fun g hg => Below.heap_setCell Wn ⟨bp, c, none⟩ _ g hg
              have HZ5 : Hid (Wn.heap.size = (Wn.setCell ⟨bp, c, none⟩ (.int .i64 ((mt).length : Int))).heap.size) := by show _ = _; simp [World.setCell]
              have HT5 : Hid ((Wn.setCell ⟨bp, c, none⟩ (.int .i64 ((mt).length : Int))).os = Wn.os ∧ (Wn.setCell ⟨bp, c, none⟩ (.int .i64 ((mt).length : Int))).tape = Wn.tape ∧ (Wn.setCell ⟨bp, c, none⟩ (.int .i64 ((mt).length : Int))).output = Wn.output) := ⟨rfl, rfl, rfl⟩
              obtain ⟨X, hX⟩ : ∃ X, Wn.setCell ⟨bp, c, none⟩ (.int .i64 ((mt).length : Int)) = X := ⟨_, rfl⟩
              rw [hX] at HP5 HO5 HZ5 HT5
              have HRX : Hid (X.ownsRow w.heap.size 3 1 (.slice ad (mt).length cm) (mt).length (metCells mt)) := owns_of_block HG2.out.row (fun g e => HO5.out g (fun e' => HG2.out.n2 (e' ▸ e)))
              have hKX := (Below.refl X.heap.size X).alloc (Nat.le_refl _) (.cells #[.int .i64 ci] 3)
              have hE : (X.alloc (.cells #[.int .i64 ci] 3)).heap[X.heap.size]? = some (.cells #[.int .i64 ci] 3) := (MapKept.heap_alloc X _).1
              have hsX : (X.alloc (.cells #[.int .i64 ci] 3)).heap.size = X.heap.size + 1 := by simp
              have HKX := hid hKX
              have HE := hid hE
              have HsX := hid hsX
              obtain ⟨i0, hi, hz0, hz1, hz2⟩ := info_parts info_int
              have hlen8 := HSh.out
              have HB2 : Hid (w.heap.size ≤ (X.alloc (.cells #[.int .i64 ci] 3)).heap.size) := by have h1 := HsX.out; have h2 := HG2.out.b2; have h3 := HG2.out.places.lt; have h4 := HZ5.out; show _ ≤ _; omega
              clear q5 hrow hKX hE hsX
              go_wp2_with (first
                | (at_builtin; refine wpList_append_own_at _ rfl _ _ 22 rfl w.heap.size 3 i0 (.int .i64 0) 1 8 Try.underlying22 hi hz0 hz1 hz2 rfl (by decide) (.slice ad (mt).length cm) (mt).length (metCells mt) rfl (kept_owns HRX.out HKX.out) ⟨X.heap.size, 0, none⟩ 1 1 [.int .i64 ci] rfl rfl (fun j u hu => ?_) (fun u hu => ?_) (by unfold maxLen; omega) (by omega) HB2.out ?_))
              · cases j with
                | zero =>
                  simp at hu
                  subst hu
                  exact (cell_of_heap HE.out 0)
                | succ j => simp at hu
              · simp at hu
                subst hu
                rfl
              intro v' Wv hown hgrow hnil hat
              obtain ⟨gos, gtape, gout, gsz, gblk⟩ := hgrow
              rw [HsX.out] at gsz gblk
              have hnb := HG2.out.n2
              have hbpl : bp < Wn.heap.size := HG2.out.places.lt
              have hzx := HZ5.out
              have hzf := HF2.out.size
              have HPv : Hid (CellRow 3 Wv bp N (fun a => .int .i64 (placeZ (mt ++ [c]) a))) := HP5.out.of_block ((gblk bp (by omega) (Ne.symm hnb)).trans (HKX.out.block bp (by omega)))
              have HFv : Hid (FrmG wr bp bp (.slice ad (mt).length cm) Wv) := HF2.out.trans (Or.inl rfl) ⟨gos.trans (HKX.out.os.trans HT5.out.1), gtape.trans (HKX.out.tape.trans HT5.out.2.1), gout.trans (HKX.out.output.trans HT5.out.2.2), by omega, fun q hq h1 _ h2 => (gblk q (by omega) (Ne.symm h2)).trans ((HKX.out.block q (by omega)).trans (HO5.out q h1))⟩
              have HMv : Hid (MovedTo wr (.slice ad (mt).length cm) v') := by
                rcases hat with h | h
                · exact Or.inl h
                · exact Or.inr ⟨_, h, by omega⟩
              have HSv : Hid (SGr w.heap.size bp N (mt ++ [c]) v' Wv) := by
                refine ⟨HPv.out, ?_, fun e => ?_, HG2.out.b2⟩
                · unfold metCells at hown ⊢
                  rw [List.length_append, List.map_append]
                  rw [← Hci.out] at hown
                  exact hown
                · rcases hat with h | h
                  · exact hnb (h.symm.trans e)
                  · rw [e] at h
                    cases h
                    omega
              have q6 := HPv.out.cell (i := c) hcN
              have hpl : placeZ (mt ++ [c]) c = ((mt).length : Int) := by rw [HPn.out, if_pos rfl]
              rw [hpl] at q6
              have HMk := hid (fun w => specMake_calls 0 ((mt).length : Int) w)
              have HMv2 : Hid (makeZ 0 ((mt).length : Int) = 8 * ((mt).length : Int)) := by
                have := HSh.out
                show _ = _
                unfold makeZ wrap64
                simp
                omega
              rw [HMv2.out] at HMk
              clear hown hat gos gtape gout gsz gblk hnil hpl hX HKX HE HsX HB2 HRX HP5 HO5 HZ5 HT5 q0 fq hi hz0 hz1 hz2 HMv2
              go_wp2_with fail
              refine (HMk.out _).mono ?_
              rintro e Wm ⟨rfl, rfl⟩
              go_wp2_with fail
              go_meet
              case rel => exact ⟨by rw [← HRi.out], by rw [← HRi.out]; exact HSv.out, HFv.out, HMv.out⟩
          case rest =>
            obtain ⟨rfl, HSx, HFx, HMx⟩ := hcut
            have HS2 := hid (HS.out.tell HSx.out HFx.out HMx.out)
            have hKt := (Below.refl wc.heap.size wc).alloc (Nat.le_refl _) (.cells #[.int .i64 r.2] 3)
            have hE : (wc.alloc (.cells #[.int .i64 r.2] 3)).heap[wc.heap.size]? = some (.cells #[.int .i64 r.2] 3) := (MapKept.heap_alloc wc _).1
            have HKt := hid hKt
            have HE := hid hE
            have HBt : Hid (w.heap.size ≤ (wc.alloc (.cells #[.int .i64 r.2] 3)).heap.size) := by have h1 := hKt.size; have h2 := HS2.out.gr.b2; have h3 := HS2.out.gr.places.lt; show _ ≤ _; omega
            obtain ⟨i0, hi, hz0, hz1, hz2⟩ := info_parts info_int
            have hol : ot.length ≤ 20 := by have := HLk.out; have := HN20.out; omega
            have hs : Hid (n - (intOf (.int .i64 (ii + 1))).toNat < n - (intOf (.int .i64 ii)).toNat) := by show _ < _; simp only [intOf]; omega
            have hw : Hid (wrap64 (ii + 1) = ii + 1) := by show _ = _; have := HN20.out; unfold wrap64; omega
            clear hKt hE HSx HFx HMx HS HSg h0 h1 h2 h3 h4 h5 h6 h7 h8 h9 q0
            go_wp2_with (first
              | (at_builtin; refine wpList_append_own_at _ rfl _ _ 22 rfl w.heap.size 3 i0 (.int .i64 0) 1 8 Try.underlying22 hi hz0 hz1 hz2 rfl (by decide) u10 ot.length (wordCells ot) rfl (kept_owns HS2.out.row HKt.out) ⟨wc.heap.size, 0, none⟩ 1 1 [.int .i64 r.2] rfl rfl (fun j u hu => ?_) (fun u hu => ?_) (by unfold maxLen; omega) (by omega) HBt.out ?_))
            · cases j with
              | zero =>
                simp at hu
                subst hu
                exact (cell_of_heap HE.out 0)
              | succ j => simp at hu
            · simp at hu
              subst hu
              rfl
            intro v' Wv hown hgrow hnil hat
            have HS3 : Hid (STl w3 w.heap.size bp N (.slice none 0 0) r.1 u9 (ot ++ [r.2]) v' Wv) := (HS2.out.below HKt.out).push r.2 hown hgrow (by
              rcases hat with h | h
              · exact Or.inl h
              · exact Or.inr ⟨_, h, by simp⟩)
            clear hown hgrow hnil hat HKt HE HBt hi hz0 hz1 hz2 HS2
            go_wp2_with fail
            try rw [hw.out]
            refine ⟨⟨ii + 1, k + 1, rfl, ⟨by have := HQ.out; push_cast; omega, by omega⟩, ?_⟩, hs.out⟩
            rw [HNx.out]
            exact HS3.out


        · have hkm2 : k = n := by have := HQ.out; omega
          rw [hkm2] at HS
          have HM0 : Hid (Met ws S (tellsRun ws xs n []).1) := (Met.tells HKo.out (met := []) ⟨List.nodup_nil, fun a ha => by cases ha⟩ HX.out n (by rw [HXn.out]; exact Nat.le_refl _)).1
          have HB4 : Hid (Below w.heap.size w wr) := HBw.out.trans ⟨HS.out.frm.os, HS.out.frm.tape, HS.out.frm.output, HS.out.frm.size, fun q hq => HS.out.frm.block q (by have := HBw.out.size; omega) (by omega) (by omega) (by simp [Value.ownBlock])⟩
          have HA5 := hid ((HS.out.frm.block w.heap.size (by omega) (by omega) (by omega) (by simp [Value.ownBlock])).trans HA4.out)
          have hw4 : bp < wr.heap.size := by have := HS.out.frm.size; omega
          obtain ⟨M, hM⟩ : ∃ M, (tellsRun ws xs n []).1 = M := ⟨_, rfl⟩
          obtain ⟨T, hT⟩ : ∃ T, (tellsRun ws xs n []).2 = T := ⟨_, rfl⟩
          rw [hM, hT] at HS
          rw [hM] at HM0
          have HMe := hid hM
          have HTe := hid hT
          generalize u9 = v9 at *
          generalize u10 = v10 at *
          rename World => w4
          have HTo := hid HS.out
          have HN9 : Hid (v9.ownBlock ≠ some w.heap.size) := fun e => by
            rcases HS.out.mv with h | ⟨q, h, hl⟩
            · rw [e] at h
              simp [Value.ownBlock] at h
            · rw [e] at h
              cases h
              omega
          have HS30 : Hid (SG3 w4 w.heap.size bp N v9 M v9 [] (fun _ => .slice none 0 0) (.slice none 0 0) w4) := ⟨HS.out.gr, World.ownsRow_nil _ _ _ _, fun i hi => (by cases hi), fun i hi => (by cases hi), fun q e => (by simp [Value.ownBlock] at e), fun q e => (by simp [Value.ownBlock] at e), hw4, Or.inl rfl, FrmG.refl _ _ _ _⟩
          have HMg : Hid (∀ k, (∀ j, j < k → j < (graphRun ws j M).1.length) → Met ws S (graphRun ws k M).1 ∧ (graphRun ws k M).2.length = k) := fun k hk => ⟨(Met.graph HKo.out HM0.out k hk).1, (Met.graph HKo.out HM0.out k hk).2.2⟩
          clear hM hT HS HQ
          go_wp2_with fail
          go_loopw [9, 14, 15] (fun vm vo i wr => ∃ (ii : Int) (k : Nat) (vs : Nat → Value), i = .int .i64 ii ∧ Hid (ii = (k : Int) ∧ ∀ j, j < k → j < (graphRun ws j M).1.length) ∧ Hid (SG3 w4 w.heap.size bp N v9 (graphRun ws k M).1 vm (graphRun ws k M).2 vs vo wr)) (fun _ _ i _ => N - (intOf i).toNat)
          case atStart => exact ⟨0, 0, fun _ => .slice none 0 0, rfl, ⟨rfl, fun j hj => by omega⟩, HS30.out⟩
          case round =>
            clear HS30 HS1
            obtain ⟨i3, k3, vs, rfl, HQ, HS⟩ := hrel
            have HMk := hid (HMg.out k3 HQ.out.2)
            have HNx : Hid (graphRun ws (k3 + 1) M = ((tellsRun ws (fieldsAtZ ws ((graphRun ws k3 M).1.getD k3 0)) (fieldsAtZ ws ((graphRun ws k3 M).1.getD k3 0)).length (graphRun ws k3 M).1).1, (graphRun ws k3 M).2 ++ [(ws.getD ((graphRun ws k3 M).1.getD k3 0) 0 % 16, (tellsRun ws (fieldsAtZ ws ((graphRun ws k3 M).1.getD k3 0)) (fieldsAtZ ws ((graphRun ws k3 M).1.getD k3 0)).length (graphRun ws k3 M).1).2)])) := rfl
            have HLs : Hid (∀ j, j < k3 → j < (graphRun ws j M).1.length) := HQ.out.2
            have HQk : Hid (i3 = (k3 : Int)) := HQ.out.1
            obtain ⟨mt, hmt⟩ : ∃ mt, (graphRun ws k3 M).1 = mt := ⟨_, rfl⟩
            obtain ⟨ot, hot⟩ : ∃ ot, (graphRun ws k3 M).2 = ot := ⟨_, rfl⟩
            rw [hmt, hot] at HS HNx HMk
            have Hmt := hid hmt
            have Hot := hid hot
            clear hmt hot HQ
            obtain ⟨-, ad, cm, hvm⟩ := owns_at HS.out.gr.row
            subst hvm
            have HSh0 := hid (HMk.out.1.short HKo.out)
            by_cases hlt3 : i3 < (mt.length : Int)
            · have hkm3 : k3 < mt.length := by have := HQk.out; omega
              have hik : i3.toNat = k3 := by have := HQk.out; omega
              have hi03 : 0 ≤ i3 := by have := HQk.out; omega
              obtain ⟨gm, rfl⟩ : ∃ gm, ad = some ⟨gm, 0, none⟩ := by
                obtain ⟨-, ⟨e, h0⟩ | ⟨g, cap', cur, e, -⟩⟩ := HS.out.gr.row
                · omega
                · cases e
                  exact ⟨g, rfl⟩
              have hnode : Node ws S (mt.getD k3 0) := HMk.out.1.nodes _ (by simp [List.getD, hkm3])
              obtain ⟨h36, haN, hfl⟩ := node_at HKo.out hnode
              have qm : wr.cell? ⟨gm, k3, none⟩ = some (.int .i64 ((mt.getD k3 0 : Nat) : Int)) := by
                have e := HS.out.gr.row.cells (g := gm) (by simp [Value.ownBlock]) k3 (.int .i64 ((mt.getD k3 0 : Nat) : Int)) (by unfold metCells; simp [List.getD, hkm3])
                rw [show (⟨gm, 0, none⟩ : Addr).add k3 = ⟨gm, k3, none⟩ from by unfold Addr.add; split <;> simp_all] at e
                exact e
              have hgl : gm < wr.heap.size := (HS.out.gr.own_lt (by simp [Value.ownBlock])).2
              have hfl' := fieldsAtZ_len ws (mt.getD k3 0)
              have HFz := hid (fun i (hi : i < (fieldsAtZ ws (mt.getD k3 0)).length) => show Leads ws S ((fieldsAtZ ws (mt.getD k3 0)).getD i 0) from by
                rw [hfl'] at hi
                rw [fieldsAtZ_get hi]
                exact hfl i hi)
              have HFg := hid (fun i (hi : i < (fieldsAtZ ws (mt.getD k3 0)).length) => show (fieldsAtZ ws (mt.getD k3 0)).getD i 0 = ws.getD (mt.getD k3 0 + 1 + i) 0 from by
                rw [hfl'] at hi
                exact fieldsAtZ_get hi)
              have HDr : Hid (Wds b off N ws wr) := HS.out.frm.wds (HD.out.below HB4.out) HD.out.lt (by omega) (by omega) (fun q e => (HTo.out.gr.own_lt e).1)
              have HLen := hid HD.out.len
              have Hgk : Hid (mt.getD k3 0 = mt.getD k3 0) := rfl
              obtain ⟨a, ha⟩ : ∃ a, mt.getD k3 0 = a := ⟨_, rfl⟩
              have Ha := hid ha
              rw [ha] at qm HFz HFg h36 haN hfl' HNx
              obtain ⟨fz, hfz⟩ : ∃ fz, fieldsAtZ ws a = fz := ⟨_, rfl⟩
              rw [hfz] at HFz HFg hfl' HNx
              have haN' : a < N := by have := HLen.out; omega
              have qw := HDr.out.cells a haN'
              obtain ⟨x, hxv⟩ : ∃ x, ws.getD a 0 = x := ⟨_, rfl⟩
              rw [hxv] at h36 haN hfl' HNx qw
              obtain ⟨m, hm⟩ : ∃ m, fz.length = m := ⟨_, rfl⟩
              rw [hm] at hfl' HNx HFz HFg
              have Hm := hid hm
              obtain ⟨ai, hai⟩ : ∃ ai : Int, (a : Int) = ai := ⟨_, rfl⟩
              rw [hai] at qm
              have Hai := hid hai
              obtain ⟨si, hsi⟩ : ∃ si, x / 16 = si := ⟨_, rfl⟩
              have Hsi : Hid (si = (m : Int) + 1 ∧ (m = 2 ∨ m = 5) ∧ a + (m + 1) ≤ N) := ⟨by omega, by omega, by have := HLen.out; omega⟩
              have hb15 := and15 x
              obtain ⟨kd, hkd⟩ : ∃ kd, x % 16 = kd := ⟨_, rfl⟩
              rw [hkd] at hb15 HNx
              have hat : ai.toNat = a := by omega
              have ha0 : 0 ≤ ai := by omega
              have hal : ai < (N : Int) := by omega
              have hAw := (HS.out.frm.block w.heap.size (by omega) (by omega) (by omega) (fun e => by have := (HTo.out.gr.own_lt e); exact absurd e (HN9.out))).trans HA5.out
              have l0 : ∀ y : Later wr.heap.size wr, y.w.cell? ⟨w.heap.size, 0, none⟩ = some (.slice (some ⟨b, off, none⟩) N cap) := fun y => y.cell (heap_lt hAw) (HeapBlk.cells (h := ⟨g1, g2, g3, g4, g5, g6, g7, g8, g9⟩) hAw).1
              have l1 : ∀ y : Later wr.heap.size wr, y.w.cell? ⟨gm, k3, none⟩ = some (.int .i64 ai) := fun y => y.cell hgl qm
              have l2 : ∀ y : Later wr.heap.size wr, y.w.cell? ⟨b, off + a, none⟩ = some (.int .i64 x) := fun y => y.cell HDr.out.lt qw
              have HAw : Hid (HeapBlk wr w.heap.size (.slice (some ⟨b, off, none⟩) N cap) ⟨g1, g2, g3, g4, g5, g6, g7, g8, g9⟩) := hAw
              clear hnode h36 haN hfl hfl' hfz hxv hm hai ha haN' hkd hAw qm qw Hgk
              go_wp2_with fail
              refine wp_region_calm wr.heap.size (by kernel_rfl) (by kernel_rfl) ?_
              repeat (go_big_quiet_step (fail))
              refine wpQuiet_nil ?_
              rintro w6 ⟨y, rfl⟩
              have HS1 := hid (HS.out.below y.h)
              have HD1 := hid (HDr.out.below y.h)
              have HA1 := hid (HAw.out.below y.h)
              generalize y.w = X1 at *
              clear y l0 l1 l2 HDr HAw HS
              have hK2 := (Below.refl X1.heap.size X1).alloc (Nat.le_refl _) (.cells #[.int .i64 kd, .slice none 0 0] 81)
              have hE2 : (X1.alloc (.cells #[.int .i64 kd, .slice none 0 0] 81)).heap[X1.heap.size]? = some (.cells #[.int .i64 kd, .slice none 0 0] 81) := (MapKept.heap_alloc X1 _).1
              have HT2 : Hid (STl X1 w.heap.size bp N (.slice (some ⟨gm, 0, none⟩) mt.length cm) mt (.slice (some ⟨gm, 0, none⟩) mt.length cm) [] (.slice none 0 0) (X1.alloc (.cells #[.int .i64 kd, .slice none 0 0] 81))) := ⟨HS1.out.gr.keep hK2, World.ownsRow_nil _ _ _ _, fun q e => (by simp [Value.ownBlock] at e), fun q e => (by simp [Value.ownBlock] at e), HS1.out.gr.places.lt, Or.inl rfl, FrmG.of_below hK2 _ _ _⟩
              have HE2 := hid hE2
              have HN1 : Hid ((Value.slice (some ⟨gm, 0, none⟩) mt.length cm).ownBlock ≠ some w.heap.size) := fun e => by
                rcases HS1.out.mv with h | ⟨q, h, hl⟩
                · exact HN9.out (h.symm.trans e)
                · rw [e] at h
                  cases h
                  omega
              clear hK2 hE2
              go_wp2_with fail
              generalize X1.alloc (.cells #[.int .i64 kd, .slice none 0 0] 81) = X2 at *
              go_loopw [9, 18] (fun vm i wr => ∃ (jj : Int) (j : Nat) (vt : Value), i = .int .i64 jj ∧ Hid (jj = (j : Int) + 1 ∧ j ≤ m) ∧ Hid (STl X1 w.heap.size bp N (.slice (some ⟨gm, 0, none⟩) mt.length cm) (tellsRun ws fz j mt).1 vm (tellsRun ws fz j mt).2 vt wr) ∧ Hid (wr.heap[X1.heap.size]? = some (.cells #[.int .i64 kd, vt] 81)) ∧ Hid (vm.ownBlock ≠ some X1.heap.size ∧ vt.ownBlock ≠ some X1.heap.size)) (fun _ i _ => m + 1 - (intOf i).toNat)
              case atStart => exact ⟨1, 0, .slice none 0 0, rfl, ⟨rfl, by omega⟩, HT2.out, HE2.out, ⟨by have := (HS1.out.gr.own_lt (k := gm) (by simp [Value.ownBlock])).2; simp [Value.ownBlock]; omega, by simp [Value.ownBlock]⟩⟩
              case round =>
                clear HT2 HE2
                obtain ⟨jj, j, vt, rfl, HQ4, HT, HE, HNo⟩ := hrel
                have hj0 : 0 ≤ jj := by have := HQ4.out; omega
                have HM4 := hid (Met.tells HKo.out HMk.out.1 (xs := fz) (fun i hi => HFz.out i (by have := Hm.out; omega)) j (by have := HQ4.out; have := Hm.out; omega))
                by_cases hlt4 : jj < si
                · have hjm : j < m := by have := HQ4.out; have := Hsi.out; omega
                  have HNx4 : Hid (tellsRun ws fz (j + 1) mt = ((tellZ ws (tellsRun ws fz j mt).1 (fz.getD j 0)).1, (tellsRun ws fz j mt).2 ++ [(tellZ ws (tellsRun ws fz j mt).1 (fz.getD j 0)).2])) := rfl
                  have HLd := hid (HFz.out j hjm)
                  have hfg := HFg.out j hjm
                  have HDr : Hid (Wds b off N ws wr) := HT.out.frm.wds HD1.out HD.out.lt (by omega) (by omega) (fun q e => (HS1.out.gr.own_lt e).1)
                  have HA4' := hid ((HT.out.frm.block w.heap.size (heap_lt HA1.out) (by omega) (by omega) (by have := HN1.out; exact this)).trans HA1.out)
                  have hpN : a + 1 + j < N := by have := Hsi.out; omega
                  have qx := HDr.out.cells (a + 1 + j) hpN
                  rw [← hfg] at qx
                  obtain ⟨r0, hr0⟩ := HM4.out.2.1
                  have hkl : k3 < (tellsRun ws fz j mt).1.length := by rw [hr0, List.length_append]; omega
                  have hkv : (tellsRun ws fz j mt).1.getD k3 0 = a := by rw [hr0, ← Ha.out]; simp [List.getD, List.getElem?_append_left hkm3]
                  have HMm := hid HM4.out.1
                  have HLk := hid HM4.out.2.2
                  obtain ⟨x4, hx4⟩ : ∃ x4, fz.getD j 0 = x4 := ⟨_, rfl⟩
                  obtain ⟨m4, hm4⟩ : ∃ m4, (tellsRun ws fz j mt).1 = m4 := ⟨_, rfl⟩
                  obtain ⟨o4, ho4⟩ : ∃ o4, (tellsRun ws fz j mt).2 = o4 := ⟨_, rfl⟩
                  rw [hx4] at HNx4 HLd qx
                  rw [hm4, ho4] at HNx4 HT
                  rw [hm4] at HMm hkl hkv
                  rw [ho4] at HLk
                  obtain ⟨r, hr⟩ : ∃ r, tellZ ws m4 x4 = r := ⟨_, rfl⟩
                  rw [hr] at HNx4
                  have HrE := hid hr
                  obtain ⟨-, ad4, c4m, hvm4⟩ := owns_at HT.out.gr.row
                  subst hvm4
                  obtain ⟨g4m, rfl⟩ : ∃ gm, ad4 = some ⟨gm, 0, none⟩ := by
                    obtain ⟨-, ⟨e, h0⟩ | ⟨g, cap', cur, e, -⟩⟩ := HT.out.gr.row
                    · omega
                    · cases e
                      exact ⟨g, rfl⟩
                  have qm4 : wr.cell? ⟨g4m, k3, none⟩ = some (.int .i64 ai) := by
                    have e := HT.out.gr.row.cells (g := g4m) (by simp [Value.ownBlock]) k3 (.int .i64 ((m4.getD k3 0 : Nat) : Int)) (by unfold metCells; simp [List.getD, hkl])
                    rw [show (⟨g4m, 0, none⟩ : Addr).add k3 = ⟨g4m, k3, none⟩ from by unfold Addr.add; split <;> simp_all] at e
                    rw [hkv, Hai.out] at e
                    exact e
                  have hgl4 : g4m < wr.heap.size := (HT.out.gr.own_lt (by simp [Value.ownBlock])).2
                  have HSh : Hid (m4.length ≤ 8000) := by have e := HMm.out.short HKo.out; have := HLen.out; show _ ≤ _; omega
                  have hik4 : i3 < (m4.length : Int) := by have := HQk.out; omega
                  have hw4i : wrap64 (ai + jj) = ai + jj := by have := Hai.out; have := HQ4.out; unfold wrap64; omega
                  have hti4 : (ai + jj).toNat = a + 1 + j := by have := Hai.out; have := HQ4.out; omega
                  have hlo4 : 0 ≤ ai + jj := by omega
                  have hhi4 : ai + jj < (N : Int) := by have := Hai.out; have := HQ4.out; omega
                  have l0 : ∀ y : Later wr.heap.size wr, y.w.cell? ⟨w.heap.size, 0, none⟩ = some (.slice (some ⟨b, off, none⟩) N cap) := fun y => y.cell (heap_lt HA4'.out) (HeapBlk.cells (h := ⟨g1, g2, g3, g4, g5, g6, g7, g8, g9⟩) HA4'.out).1
                  have l1 : ∀ y : Later wr.heap.size wr, y.w.cell? ⟨g4m, k3, none⟩ = some (.int .i64 ai) := fun y => y.cell hgl4 qm4
                  have l2 : ∀ y : Later wr.heap.size wr, y.w.cell? ⟨b, off + (a + 1 + j), none⟩ = some (.int .i64 x4) := fun y => y.cell HDr.out.lt qx
                  clear hfg hkl hkv hr0 hx4 hm4 ho4 hr qx qm4 hpN
                  go_wp2_with fail
                  refine wp_region_calm wr.heap.size (by kernel_rfl) (by kernel_rfl) ?_
                  repeat (go_big_quiet_step (fail))
                  refine wpQuiet_nil ?_
                  rintro w6 ⟨y, rfl⟩
                  have HT3 := hid (HT.out.below y.h)
                  have HD3 := hid (HDr.out.below y.h)
                  have HA3' := hid (HeapBlk.below (h := ⟨g1, g2, g3, g4, g5, g6, g7, g8, g9⟩) HA4'.out y.h)
                  have HE3' := hid ((y.h.block _ (heap_lt HE.out)).trans HE.out)
                  generalize y.w = X3 at *
                  clear y l0 l1 l2 HDr HA4' HT HE hgl4
                  have HDr := HD3
                  have HSg := hid HT3.out.gr
                  obtain ⟨h0, h1, h2, h3, h4, h5, h6, h7, h8, h9⟩ := HeapBlk.cells (h := ⟨g1, g2, g3, g4, g5, g6, g7, g8, g9⟩) HA3'.out
                  dsimp only at h0 h1 h2 h3 h4 h5 h6 h7 h8 h9
                  go_wp2_with fail
                  refine (HTg.out _ _).mono ?_
                  rintro e Wt ⟨rfl, rfl⟩
                  go_upto_if 122 with fail
                  go_cut [9, 19, 20] from 104 to 150 (fun vm' tw _ wx => tw = .int .i64 r.2 ∧ Hid (SGr w.heap.size bp N r.1 vm' wx) ∧ Hid (FrmG X3 bp bp (.slice (some ⟨g4m, 0, none⟩) m4.length c4m) wx) ∧ Hid (MovedTo X3 (.slice (some ⟨g4m, 0, none⟩) m4.length c4m) vm'))
                  case first =>
                    by_cases hx8 : x4 % 8 = 0
                    case neg =>
                      have hne : ((x4 % 8 : Int) == 0) = false := by simpa using hx8
                      have hre : (m4, x4) = r := by rw [← HrE.out]; unfold tellZ; rw [if_neg hx8]
                      go_wp2_with fail
                      go_meet
                      case rel => exact ⟨by rw [← hre], by rw [← hre]; exact HSg.out, FrmG.refl _ _ _ _, Or.inl rfl⟩
                    obtain ⟨y0, y1, hyS⟩ := HLd.out hx8
                    have hnode := now_node HKo.out HLd.out hx8
                    have hnn := HKo.out.noted.2 _ hnode.here
                    have HNw := hid (HNow.out x4 X3 HDr.out HLd.out hx8)
                    obtain ⟨c, hc⟩ : ∃ c, nowZ ws (x4 / 8).toNat = c := ⟨_, rfl⟩
                    rw [hc] at hnn HNw
                    have hcN : c < N := by rw [← HDr.out.len]; exact hnn.1
                    have hre : (if c ∈ m4 then (m4, 8 * ((m4).idxOf c : Int)) else (m4 ++ [c], 8 * ((m4).length : Int))) = r := by rw [← HrE.out]; unfold tellZ; rw [if_pos hx8, hc]
                    have HRe := hid hre
                    obtain ⟨ci, hci⟩ : ∃ ci : Int, (c : Int) = ci := ⟨_, rfl⟩
                    rw [hci] at HNw
                    have Hci := hid hci
                    have hx8b : ((x4 % 8 : Int) == 0) = true := by simpa using hx8
                    clear hnode hnn hc hre hci y0 y1 hyS
                    go_wp2_with fail
                    refine HNw.out.mono ?_
                    rintro e Wn ⟨rfl, hbn⟩
                    have HG2 := hid (HSg.out.keep hbn)
                    have HF2 := hid (FrmG.of_below hbn bp bp (.slice (some ⟨g4m, 0, none⟩) m4.length c4m))
                    clear hbn HNw
                    have q0 := HG2.out.places.cell (i := c) hcN
                    have hct : ci.toNat = c := by have := Hci.out; omega
                    have hc0 : 0 ≤ ci := by have := Hci.out; omega
                    have hcl : ci < (N : Int) := by have := Hci.out; omega
                    have hpr := placeZ_range (met := m4) (a := c)
                    obtain ⟨p1, hp1⟩ : ∃ p1, placeZ m4 c = p1 := ⟨_, rfl⟩
                    rw [hp1] at q0
                    have Hp1 := hid hp1
                    by_cases hin : c ∈ m4
                    · have hix := List.idxOf_lt_length_of_mem hin
                      have hpv : p1 = (((m4).idxOf c : Nat) : Int) := by rw [← hp1]; unfold placeZ; rw [if_pos hin]
                      have hnl : ¬ p1 < 0 := by omega
                      have HMk := hid (fun w => specMake_calls 0 p1 w)
                      have HMv : Hid (makeZ 0 p1 = 8 * ((m4).idxOf c : Int)) := by
                        have := HSh.out
                        show _ = _
                        rw [hpv]
                        unfold makeZ wrap64
                        simp
                        omega
                      rw [HMv.out] at HMk
                      have HRi : Hid ((m4, 8 * ((m4).idxOf c : Int)) = r) := by show _ = _; rw [← HRe.out, if_pos hin]
                      clear hix hpv hpr hp1 HMv
                      go_wp2_with fail
                      refine (HMk.out _).mono ?_
                      rintro e Wm ⟨rfl, rfl⟩
                      go_wp2_with fail
                      go_meet
                      case rel => exact ⟨by rw [← HRi.out], by rw [← HRi.out]; exact HG2.out, HF2.out, Or.inl rfl⟩
                    · have hpz : p1 < 0 := by rw [← hp1]; exact placeZ_neg.2 hin
                      have HRi : Hid ((m4 ++ [c], 8 * ((m4).length : Int)) = r) := by show _ = _; rw [← HRe.out, if_neg hin]
                      have HPn := hid (fun a => placeZ_new (met := m4) hin a)
                      clear hpr hp1
                      skip
                      skip
                      obtain ⟨_, _, hrow, _, _⟩ := HG2.out.places
                      have fq := hrow.frozen c hcN
                      have q5 := row_set' HG2.out.places c (.int .i64 ((m4).length : Int))
                      have HP5 : Hid (CellRow 3 (Wn.setCell ⟨bp, c, none⟩ (.int .i64 ((m4).length : Int))) bp N (fun a => .int .i64 (placeZ (m4 ++ [c]) a))) := by
                        refine q5.congr (fun j hj => ?_)
                        rw [HPn.out]
                        by_cases h : j = c
                        · rw [if_pos h, if_pos h]
                        · rw [if_neg h, if_neg h]
                      have HO5 : Hid (∀ g, g ≠ bp → (Wn.setCell ⟨bp, c, none⟩ (.int .i64 ((m4).length : Int))).heap[g]? = Wn.heap[g]?) := fun g hg => Below.heap_setCell Wn ⟨bp, c, none⟩ _ g hg
                      have HZ5 : Hid (Wn.heap.size = (Wn.setCell ⟨bp, c, none⟩ (.int .i64 ((m4).length : Int))).heap.size) := by show _ = _; simp [World.setCell]
                      have HT5 : Hid ((Wn.setCell ⟨bp, c, none⟩ (.int .i64 ((m4).length : Int))).os = Wn.os ∧ (Wn.setCell ⟨bp, c, none⟩ (.int .i64 ((m4).length : Int))).tape = Wn.tape ∧ (Wn.setCell ⟨bp, c, none⟩ (.int .i64 ((m4).length : Int))).output = Wn.output) := ⟨rfl, rfl, rfl⟩
                      obtain ⟨X, hX⟩ : ∃ X, Wn.setCell ⟨bp, c, none⟩ (.int .i64 ((m4).length : Int)) = X := ⟨_, rfl⟩
                      rw [hX] at HP5 HO5 HZ5 HT5
                      have HRX : Hid (X.ownsRow w.heap.size 3 1 (.slice (some ⟨g4m, 0, none⟩) (m4).length c4m) (m4).length (metCells m4)) := owns_of_block HG2.out.row (fun g e => HO5.out g (fun e' => HG2.out.n2 (e' ▸ e)))
                      have hKX := (Below.refl X.heap.size X).alloc (Nat.le_refl _) (.cells #[.int .i64 ci] 3)
                      have hE : (X.alloc (.cells #[.int .i64 ci] 3)).heap[X.heap.size]? = some (.cells #[.int .i64 ci] 3) := (MapKept.heap_alloc X _).1
                      have hsX : (X.alloc (.cells #[.int .i64 ci] 3)).heap.size = X.heap.size + 1 := by simp
                      have HKX := hid hKX
                      have HE := hid hE
                      have HsX := hid hsX
                      obtain ⟨i0, hi, hz0, hz1, hz2⟩ := info_parts info_int
                      have hlen8 := HSh.out
                      have HB2 : Hid (w.heap.size ≤ (X.alloc (.cells #[.int .i64 ci] 3)).heap.size) := by have h1 := HsX.out; have h2 := HG2.out.b2; have h3 := HG2.out.places.lt; have h4 := HZ5.out; show _ ≤ _; omega
                      clear q5 hrow hKX hE hsX
                      go_wp2_with (first
                        | (at_builtin; refine wpList_append_own_at _ rfl _ _ 22 rfl w.heap.size 3 i0 (.int .i64 0) 1 8 Try.underlying22 hi hz0 hz1 hz2 rfl (by decide) (.slice (some ⟨g4m, 0, none⟩) (m4).length c4m) (m4).length (metCells m4) rfl (kept_owns HRX.out HKX.out) ⟨X.heap.size, 0, none⟩ 1 1 [.int .i64 ci] rfl rfl (fun j u hu => ?_) (fun u hu => ?_) (by unfold maxLen; omega) (by omega) HB2.out ?_))
                      · cases j with
                        | zero =>
                          simp at hu
                          subst hu
                          exact (cell_of_heap HE.out 0)
                        | succ j => simp at hu
                      · simp at hu
                        subst hu
                        rfl
                      intro v' Wv hown hgrow hnil hat
                      obtain ⟨gos, gtape, gout, gsz, gblk⟩ := hgrow
                      rw [HsX.out] at gsz gblk
                      have hnb := HG2.out.n2
                      have hbpl : bp < Wn.heap.size := HG2.out.places.lt
                      have hzx := HZ5.out
                      have hzf := HF2.out.size
                      have HPv : Hid (CellRow 3 Wv bp N (fun a => .int .i64 (placeZ (m4 ++ [c]) a))) := HP5.out.of_block ((gblk bp (by omega) (Ne.symm hnb)).trans (HKX.out.block bp (by omega)))
                      have HFv : Hid (FrmG X3 bp bp (.slice (some ⟨g4m, 0, none⟩) (m4).length c4m) Wv) := HF2.out.trans (Or.inl rfl) ⟨gos.trans (HKX.out.os.trans HT5.out.1), gtape.trans (HKX.out.tape.trans HT5.out.2.1), gout.trans (HKX.out.output.trans HT5.out.2.2), by omega, fun q hq h1 _ h2 => (gblk q (by omega) (Ne.symm h2)).trans ((HKX.out.block q (by omega)).trans (HO5.out q h1))⟩
                      have HMv : Hid (MovedTo X3 (.slice (some ⟨g4m, 0, none⟩) (m4).length c4m) v') := by
                        rcases hat with h | h
                        · exact Or.inl h
                        · exact Or.inr ⟨_, h, by omega⟩
                      have HSv : Hid (SGr w.heap.size bp N (m4 ++ [c]) v' Wv) := by
                        refine ⟨HPv.out, ?_, fun e => ?_, HG2.out.b2⟩
                        · unfold metCells at hown ⊢
                          rw [List.length_append, List.map_append]
                          rw [← Hci.out] at hown
                          exact hown
                        · rcases hat with h | h
                          · exact hnb (h.symm.trans e)
                          · rw [e] at h
                            cases h
                            omega
                      have q6 := HPv.out.cell (i := c) hcN
                      have hpl : placeZ (m4 ++ [c]) c = ((m4).length : Int) := by rw [HPn.out, if_pos rfl]
                      rw [hpl] at q6
                      have HMk := hid (fun w => specMake_calls 0 ((m4).length : Int) w)
                      have HMv2 : Hid (makeZ 0 ((m4).length : Int) = 8 * ((m4).length : Int)) := by
                        have := HSh.out
                        show _ = _
                        unfold makeZ wrap64
                        simp
                        omega
                      rw [HMv2.out] at HMk
                      clear hown hat gos gtape gout gsz gblk hnil hpl hX HKX HE HsX HB2 HRX HP5 HO5 HZ5 HT5 q0 fq hi hz0 hz1 hz2 HMv2
                      go_wp2_with fail
                      refine (HMk.out _).mono ?_
                      rintro e Wm ⟨rfl, rfl⟩
                      go_wp2_with fail
                      go_meet
                      case rel => exact ⟨by rw [← HRi.out], by rw [← HRi.out]; exact HSv.out, HFv.out, HMv.out⟩
                  case rest =>
                    obtain ⟨rfl, HSx, HFx, HMx⟩ := hcut
                    have hbX : bp < X1.heap.size := HS1.out.gr.places.lt
                    have HS2 := hid (HT3.out.tell HSx.out HFx.out HMx.out)
                    have HE5 := hid ((HFx.out.block X1.heap.size (heap_lt HE3'.out) (by omega) (by omega) HNo.out.1).trans HE3'.out)
                    have HN5 : Hid (u9.ownBlock ≠ some X1.heap.size) := by
                      intro e
                      rcases HMx.out with h | ⟨q, h, hl⟩
                      · exact HNo.out.1 (h.symm.trans e)
                      · rw [e] at h
                        cases h
                        have := heap_lt HE3'.out
                        omega
                    have hKt := (Below.refl wc.heap.size wc).alloc (Nat.le_refl _) (.cells #[.int .i64 r.2] 3)
                    have hE : (wc.alloc (.cells #[.int .i64 r.2] 3)).heap[wc.heap.size]? = some (.cells #[.int .i64 r.2] 3) := (MapKept.heap_alloc wc _).1
                    have hsz5 : (wc.alloc (.cells #[.int .i64 r.2] 3)).heap.size = wc.heap.size + 1 := by simp
                    have HKt := hid hKt
                    have HEn := hid hE
                    have Hsz5 := hid hsz5
                    have HBt : Hid (w.heap.size ≤ (wc.alloc (.cells #[.int .i64 r.2] 3)).heap.size) := by have h1 := hKt.size; have h2 := HS2.out.gr.b2; have h3 := HS2.out.gr.places.lt; show _ ≤ _; omega
                    have d1 : wc.cell? ⟨X1.heap.size, 1, none⟩ = some vt := by rw [cell_of_heap HE5.out]; rfl
                    have hlX : X1.heap.size < wc.heap.size := heap_lt HE5.out
                    obtain ⟨i0, hi, hz0, hz1, hz2⟩ := info_parts info_int
                    have hol : o4.length ≤ 20 := by have := HLk.out; have := Hsi.out; omega
                    have hs : Hid (m + 1 - (intOf (.int .i64 (jj + 1))).toNat < m + 1 - (intOf (.int .i64 jj)).toNat) := by show _ < _; have := HQ4.out; simp only [intOf]; omega
                    have hw : Hid (wrap64 (jj + 1) = jj + 1) := by show _ = _; have := HQ4.out; have := Hsi.out; unfold wrap64; omega
                    clear hKt hE hsz5 HSx HFx HMx HT3 HSg h0 h1 h2 h3 h4 h5 h6 h7 h8 h9
                    go_wp2_with (first
                      | (at_builtin; refine wpList_append_own_at _ rfl _ _ 22 rfl w.heap.size 3 i0 (.int .i64 0) 1 8 Try.underlying22 hi hz0 hz1 hz2 rfl (by decide) vt o4.length (wordCells o4) rfl (kept_owns HS2.out.row HKt.out) ⟨wc.heap.size, 0, none⟩ 1 1 [.int .i64 r.2] rfl rfl (fun jq u hu => ?_) (fun u hu => ?_) (by unfold maxLen; omega) (by omega) HBt.out ?_))
                    · cases jq with
                      | zero =>
                        simp at hu
                        subst hu
                        exact (cell_of_heap HEn.out 0)
                      | succ jq => simp at hu
                    · simp at hu
                      subst hu
                      rfl
                    intro v' Wv hown hgrow hnil hat'
                    obtain ⟨-, ad', cm', hv'⟩ := owns_at hown
                    subst hv'
                    have eV := (hgrow.block X1.heap.size (by have := Hsz5.out; omega) (Ne.symm HNo.out.2)).trans ((HKt.out.block X1.heap.size hlX).trans HE5.out)
                    have HS3 : Hid (STl X1 w.heap.size bp N (.slice (some ⟨gm, 0, none⟩) mt.length cm) r.1 u9 (o4 ++ [r.2]) (.slice ad' (o4.length + 1) cm') Wv) := (HS2.out.below HKt.out).push r.2 hown hgrow (by
                      rcases hat' with h | h
                      · exact Or.inl h
                      · exact Or.inr ⟨_, h, by simp⟩)
                    have HN6 : Hid ((Value.slice ad' (o4.length + 1) cm').ownBlock ≠ some X1.heap.size) := by
                      intro e
                      rcases hat' with h | h
                      · exact HNo.out.2 (h.symm.trans e)
                      · rw [e] at h
                        have := Option.some.inj h
                        omega
                    have d2 : Wv.cell? ⟨X1.heap.size, 1, none⟩ = some vt := by rw [cell_of_heap eV]; rfl
                    have f2 := frozen_of_heap eV 1
                    have HS4 := hid (HS3.out.set (Nat.le_refl _) HN5.out HN6.out 1 (.slice ad' (o4.length + 1) cm'))
                    have HE6 : Hid ((Wv.setCell ⟨X1.heap.size, 1, none⟩ (.slice ad' (o4.length + 1) cm')).heap[X1.heap.size]? = some (.cells #[.int .i64 kd, (.slice ad' (o4.length + 1) cm')] 81)) := by simpa [Hid] using set_cells eV 1 (.slice ad' (o4.length + 1) cm')
                    clear hown hgrow hnil hat' HKt HEn HBt hi hz0 hz1 hz2 HS2 eV HS3
                    go_wp2_with fail
                    try rw [hw.out]
                    refine ⟨⟨jj + 1, j + 1, (.slice ad' (o4.length + 1) cm'), rfl, ⟨by have := HQ4.out; push_cast; omega, by omega⟩, ?_, HE6.out, ⟨HN5.out, HN6.out⟩⟩, hs.out⟩
                    rw [HNx4.out]
                    exact HS4.out

                · have hjm : j = m := by have := HQ4.out; have := Hsi.out; omega
                  rw [hjm] at HT
                  obtain ⟨R, hR⟩ : ∃ R, tellsRun ws fz m mt = R := ⟨_, rfl⟩
                  rw [hR] at HT HNx
                  have HRl : Hid (R.2.length = m) := by
                    have e := HM4.out.2.2
                    rw [hjm, hR] at e
                    exact e
                  have HS4 := hid (HS1.out.tells HT.out.gr HT.out.frm HT.out.mv)
                  have d0 : wr.cell? ⟨X1.heap.size, 0, none⟩ = some (.int .i64 kd) := by rw [cell_of_heap HE.out]; rfl
                  have d1 : wr.cell? ⟨X1.heap.size, 1, none⟩ = some vt := by rw [cell_of_heap HE.out]; rfl
                  obtain ⟨tad, tc, hvt⟩ := (owns_at HT.out.row).2
                  subst hvt
                  have hE3 : (wr.alloc (.cells #[.int .i64 kd, .slice tad R.2.length tc] 81)).heap[wr.heap.size]? = some (.cells #[.int .i64 kd, .slice tad R.2.length tc] 81) := (MapKept.heap_alloc wr _).1
                  have hK3 := (Below.refl wr.heap.size wr).alloc (Nat.le_refl _) (.cells #[.int .i64 kd, .slice tad R.2.length tc] 81)
                  have HS5 := hid (HS4.out.below hK3)
                  have HR5 := hid (kept_owns HT.out.row hK3)
                  have HE3 := hid hE3
                  have hsz3 : (wr.alloc (.cells #[.int .i64 kd, .slice tad R.2.length tc] 81)).heap.size = wr.heap.size + 1 := by simp
                  obtain ⟨i0, hi, hz0, hz1, hz2⟩ := info_parts info_obj
                  have hol : ot.length ≤ 8000 := by have := HMk.out.2; have := HSh0.out; have := HLen.out; omega
                  have HB5 : Hid (w.heap.size ≤ (wr.alloc (.cells #[.int .i64 kd, .slice tad R.2.length tc] 81)).heap.size) := by have h1 := HS5.out.gr.b2; have h2 := HS5.out.gr.places.lt; show _ ≤ _; omega
                  have HV5 : Hid (∀ q, (Value.slice tad R.2.length tc).ownBlock = some q → w4.heap.size ≤ q ∧ u9.ownBlock ≠ some q ∧ u14.ownBlock ≠ some q) := fun q e => ⟨Nat.le_trans HS1.out.frm.size (HT.out.o2 q e), HT.out.ap q e, fun e' => by have h1 := ((owns_at' HS1.out.row).1 q e').2; have h2 := HT.out.o2 q e; omega⟩
                  have hs : Hid (N - (intOf (.int .i64 (i3 + 1))).toNat < N - (intOf (.int .i64 i3)).toNat) := by have := HSh0.out; have := HLen.out; show _ < _; simp only [intOf]; omega
                  have hw : Hid (wrap64 (i3 + 1) = i3 + 1) := by show _ = _; have := HSh0.out; have := HLen.out; unfold wrap64; omega
                  clear hK3 hE3 HT HE HNo HS4 hR
                  go_wp2_with (first
                    | (at_builtin; refine wpList_append_own_at _ rfl _ _ 47 rfl w.heap.size 81 i0 (.agg #[.int .i64 0, .slice none 0 0]) 2 32 Try.underlying47 hi hz0 hz1 hz2 rfl (by decide) u14 ot.length (sobjCells ot vs) rfl HS5.out.row ⟨wr.heap.size, 0, none⟩ 1 1 [.int .i64 kd, .slice tad R.2.length tc] rfl rfl (fun jq u hu => ?_) (fun u hu => ?_) (by unfold maxLen; omega) (by omega) HB5.out ?_))
                  · simp at hu
                    rcases hu with rfl | rfl <;> rfl
                  intro v' Wv hown hgrow hnil hat'
                  have HS6 : Hid (SG3 w4 w.heap.size bp N v9 R.1 u9 (ot ++ [(kd, R.2)]) (fun i => if i = ot.length then .slice tad R.2.length tc else vs i) v' Wv) := HS5.out.push (kd, R.2) _ HR5.out HV5.out hown hgrow (by
                    rcases hat' with h | h
                    · exact Or.inl h
                    · exact Or.inr ⟨_, h, by simp⟩)
                  clear hown hgrow hnil hat' HS5 HR5 HE3 HB5 HV5 hi hz0 hz1 hz2 d0 d1
                  go_wp2_with fail
                  try rw [hw.out]
                  refine ⟨⟨i3 + 1, k3 + 1, fun i => if i = ot.length then .slice tad R.2.length tc else vs i, rfl, ⟨by have := HQk.out; push_cast; omega, fun j hj => ?_⟩, ?_⟩, hs.out⟩
                  · rcases Nat.lt_or_ge j k3 with h | h
                    · exact HLs.out j h
                    · have e : j = k3 := by omega
                      rw [e, Hmt.out]
                      exact hkm3
                  · rw [HNx.out]
                    exact HS6.out
            · have hk3 : mt.length ≤ k3 := by have := HQk.out; omega
              have hfz : w4.heap.size ≤ wr.heap.size := HS.out.frm.size
              have HBr : Hid (Below w.heap.size w wr) := HB4.out.trans ⟨HS.out.frm.os, HS.out.frm.tape, HS.out.frm.output, HS.out.frm.size, fun q hq => HS.out.frm.block q (by have := HB4.out.size; omega) (by omega) (by omega) (fun e => by have := (HTo.out.gr.own_lt e).1; omega)⟩
              have HTr : Hid (wr.ownsRow w.heap.size 3 1 v10 T.length (wordCells T)) := owns_of_block HTo.out.row (fun q e => HS.out.frm.block q ((owns_at HTo.out.row).1 q e).2 (by have := HTo.out.o2 q e; omega) (by have := HTo.out.o2 q e; omega) (HTo.out.ap q e))
              have HTl : Hid (T.length = n) := by
                have e := (Met.tells HKo.out (met := []) ⟨List.nodup_nil, fun a ha => by cases ha⟩ HX.out n (by rw [HXn.out]; exact Nat.le_refl _)).2.2
                rw [HTe.out] at e
                exact e
              go_wp2_with fail
              refine bodyPost_ret (v := .tuple #[u14, v10, .bool true]) (by simp [results, Try.results28, go_sem]) rfl ?_
              have hn := HXn.out
              subst hn
              refine ⟨k3, u14, v10, vs, ?_⟩
              rw [HMe.out, HTe.out, Hmt.out, Hot.out]
              refine ⟨HLs.out, hk3, rfl, HS.out.row, HS.out.fld, ?_, HBr.out⟩
              have e := HTr.out
              rw [HTl.out] at e
              exact e
end Go.Proofs.Ytnoobonlmfgfhaa
