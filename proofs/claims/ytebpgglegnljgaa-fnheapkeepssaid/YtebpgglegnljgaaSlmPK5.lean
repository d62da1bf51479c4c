import Derived.Test.YtebpgglegnljgaaSlmPK4
import Derived.Test.YtebpgglegnljgaaSlmPK1
import Derived.Test.YtebpgglegnljgaaSlmPK0
import Derived.Test.YtebpgglegnljgaaSlmPK2
import Derived.Test.YtebpgglegnljgaaSlmPK3
import Derived.Test.YtebpgglegnljgaaRows
import Derived.WalkKit
import Derived.ProofKit
import Derived.Laws.Bits64
import Derived.OwnWalk
import Derived.Deep.RegionHeld
namespace Go.Proofs.Ytebpgglegnljgaa
open Go.RowKit

def SGraphTold (w : World) (ws xs : List Int) (e : Ending) (w' : World) : Prop :=
  ∃ (K : Nat) (vo vt : Value) (vs : Nat → Value), (∀ j, j < K → j < (graphRun ws j (tellsRun ws xs xs.length []).1).1.length) ∧ (graphRun ws K (tellsRun ws xs xs.length []).1).1.length ≤ K ∧
    e = .returned (.tuple #[vo, vt, .bool true]) ∧
    w'.ownsRow w.heap.size 45 2 vo (graphRun ws K (tellsRun ws xs xs.length []).1).2.length ((List.range (graphRun ws K (tellsRun ws xs xs.length []).1).2.length).flatMap (fun i => [.int .i64 ((graphRun ws K (tellsRun ws xs xs.length []).1).2.getD i (0, [])).1, vs i])) ∧
    (∀ i, i < (graphRun ws K (tellsRun ws xs xs.length []).1).2.length → w'.ownsRow w.heap.size 3 1 (vs i) ((graphRun ws K (tellsRun ws xs xs.length []).1).2.getD i (0, [])).2.length (((graphRun ws K (tellsRun ws xs xs.length []).1).2.getD i (0, [])).2.map (fun x => Value.int .i64 x))) ∧
    w'.ownsRow w.heap.size 3 1 vt xs.length ((tellsRun ws xs xs.length []).2.map (fun x => Value.int .i64 x)) ∧ Below w.heap.size w w'

set_option maxHeartbeats 8000000 in
set_option maxRecDepth 100000 in
theorem sGraph_good (b off cap N : Nat) (h : HpN) (rg n rc : Nat) (w : World) (ws S xs : List Int) (ok : OkHeap ws S h) (d : Wds b off N ws w) (hN : N ≤ 8000) (hl : ListAt rg 0 xs w) (hxn : xs.length = n) (hn : n ≤ 20) (hx : ∀ i, i < xs.length → Leads ws S (xs.getD i 0))
    (HOk : Hid (∀ X, Below w.heap.size w X → Calls Try.prog 35 #[heapV (.slice (some ⟨b, off, none⟩) N cap) h] X fun e w' => e = .returned (.bool true) ∧ Below X.heap.size X w'))
    (HRt : Hid (∀ X, Below w.heap.size w X → Calls Try.prog 36 #[heapV (.slice (some ⟨b, off, none⟩) N cap) h, .slice (some ⟨rg, 0, none⟩) n rc] X fun e w' => e = .returned (.bool true) ∧ Below X.heap.size X w')) :
    Calls Try.prog 9 #[heapV (.slice (some ⟨b, off, none⟩) N cap) h, .slice (some ⟨rg, 0, none⟩) n rc] w (SGraphTold w ws xs) := by
  have HKo := hid ok
  have HD := hid d
  have HL := hid hl
  have HX := hid hx
  have HXn := hid hxn
  have HN20 := hid hn
  have HNow := hid (fun x X (d : Wds b off N ws X) (hx : Leads ws S x) (hx8 : x % 8 = 0) => sNow_calls (cap := cap) ok x X d hN hx hx8)
  have hn20 : ¬ (20 : Int) < (n : Int) := by omega
  clear ok d hl hx hxn hn
  obtain ⟨g1, g2, g3, g4, g5, g6, g7, g8, g9⟩ := h
  unfold heapV at *
  dsimp only at *
  obtain ⟨W0, hW0, hA, k2⟩ := one_new w (.slice (some ⟨b, off, none⟩) N cap) ⟨g1, g2, g3, g4, g5, g6, g7, g8, g9⟩
  dsimp only at hW0
  have HW0 := hid hW0
  have HK2 := hid k2
  have HA := hid hA
  clear hW0 hA k2
  go_enter Try.func9, Try.ntmps9
  go_wp2_with fail
  rw [HW0.out]
  refine (HOk.out _ HK2.out).mono ?_
  rintro e W1 ⟨rfl, hb1⟩
  have HB1 := hid (HK2.out.trans (hb1.mono HK2.out.size))
  have HA1 := hid (HA.out.below hb1)
  obtain ⟨c0, c1, c2, c3, c4, c5, c6, c7, c8, c9⟩ := HA1.out.cells
  dsimp only at c0 c1 c2 c3 c4 c5 c6 c7 c8 c9
  clear hb1 HW0 HK2 HOk HA
  go_wp2_with fail
  refine (HRt.out _ HB1.out).mono ?_
  rintro e W2 ⟨rfl, hb2⟩
  have HB2 := hid (HB1.out.trans (hb2.mono HB1.out.size))
  have HA2 := hid (HA1.out.below hb2)
  clear hb2 HB1 HRt c0 c1 c2 c3 c4 c5 c6 c7 c8 c9 HA1
  have c0 := HA2.out.cells.1
  obtain ⟨c, hcs, hmk⟩ := made_ints N (by omega) W2
  have hrow := World.rowIs_alloc W2 c 3 (fun i => c.getD i undef) (fun i hi => by simp [hi])
  rw [hcs] at hrow
  have hK := (Below.refl W2.heap.size W2).alloc (Nat.le_refl _) (.cells c 3)
  have hsz : (W2.alloc (.cells c 3)).heap.size = W2.heap.size + 1 := by simp
  have HK := hid hK
  have HSz := hid hsz
  have HA3 := hid (HA2.out.below hK)
  have HB3 := hid (HB2.out.trans (hK.mono HB2.out.size))
  have hBz := HB2.out.size
  have hAl : w.heap.size < W2.heap.size := heap_lt HA2.out
  clear hK hsz HA2
  go_wp2_with fail
  clear hmk c0
  generalize W2.alloc (.cells c 3) = W3 at *
  have HRw := hid (rw_of_row hrow N)
  clear hrow hcs
  obtain ⟨bp, hbp⟩ : ∃ bp, W2.heap.size = bp := ⟨_, rfl⟩
  rw [hbp] at HRw HSz hBz hAl HK ⊢
  go_loopw [8] (fun i wr => ∃ (ii : Int) (k : Nat) (f : Nat → Value), i = .int .i64 ii ∧ Hid (ii = (k : Int) ∧ k ≤ N) ∧ Hid (Rw wr bp 3 N f N) ∧ Hid (∀ j, j < k → f j = .int .i64 (-1)) ∧ Hid (Below bp W3 wr)) (fun i _ => N - (intOf i).toNat)
  case atStart => exact ⟨0, 0, _, rfl, ⟨rfl, by omega⟩, HRw.out, fun j hj => by omega, Below.refl _ _⟩
  case round =>
    obtain ⟨ii, k, f, rfl, HQ, HRo, HF, HBl⟩ := hrel
    have hi0 : 0 ≤ ii := by have := HQ.out; omega
    clear HRw
    by_cases hlt : ii < (N : Int)
    · have hkm : k < N := by have := HQ.out; omega
      have hik : ii.toNat = k := by have := HQ.out; omega
      have q1 := HRo.out.cell (i := k) hkm
      have z1 := HRo.out.frozen k hkm
      have hs : Hid (N - (intOf (.int .i64 (ii + 1))).toNat < N - (intOf (.int .i64 ii)).toNat) := by show _ < _; simp only [intOf]; omega
      have hw : Hid (wrap64 (ii + 1) = ii + 1) := by show _ = _; unfold wrap64; omega
      go_wp2_with fail
      try rw [hw.out]
      refine ⟨⟨ii + 1, k + 1, _, rfl, ⟨by have := HQ.out; push_cast; omega, by omega⟩, HRo.out.set k _, ?_, HBl.out.setCell (by show bp ≤ bp; omega) _⟩, hs.out⟩
      intro j hj
      by_cases hjk : j = k
      · rw [if_pos hjk]
      · rw [if_neg hjk]
        exact HF.out j (by omega)
    · have hkm : k = N := by have := HQ.out; omega
      have HS0 : Hid (SGr w.heap.size bp N [] (.slice none 0 0) wr) := ⟨⟨N, f, HRo.out, Nat.le_refl _, fun j hj => by rw [HF.out j (by omega)]; simp [placeZ]⟩, World.ownsRow_nil _ _ _ _, by simp [Value.ownBlock], by omega⟩
      have HBw : Hid (Below w.heap.size w wr) := HB3.out.trans (HBl.out.mono (by omega))
      have HA4 := hid ((HBl.out.block w.heap.size hAl).trans HA3.out)
      have hW3 : bp < wr.heap.size := by have := HBl.out.size; have := HSz.out; omega
      have HA4 := hid ((HBl.out.block w.heap.size hAl).trans HA3.out)
      have hW3 : bp < wr.heap.size := by have := HBl.out.size; have := HSz.out; omega
      have HA4 := hid ((HBl.out.block w.heap.size hAl).trans HA3.out)
      have hW3 : bp < wr.heap.size := by have := HBl.out.size; have := HSz.out; omega
      have HA4 := hid ((HBl.out.block w.heap.size hAl).trans HA3.out)
      have hW3 : bp < wr.heap.size := by have := HBl.out.size; have := HSz.out; omega
      have HA4 := hid ((HBl.out.block w.heap.size hAl).trans HA3.out)
      have hW3 : bp < wr.heap.size := by have := HBl.out.size; have := HSz.out; omega
      have HA4 := hid ((HBl.out.block w.heap.size hAl).trans HA3.out)
      have hW3 : bp < wr.heap.size := by have := HBl.out.size; have := HSz.out; omega
      have HA4 := hid ((HBl.out.block w.heap.size hAl).trans HA3.out)
      have hW3 : bp < wr.heap.size := by have := HBl.out.size; have := HSz.out; omega
      have HA4 := hid ((HBl.out.block w.heap.size hAl).trans HA3.out)
      have hW3 : bp < wr.heap.size := by have := HBl.out.size; have := HSz.out; omega
      have HA4 := hid ((HBl.out.block w.heap.size hAl).trans HA3.out)
      have hW3 : bp < wr.heap.size := by have := HBl.out.size; have := HSz.out; omega
      have HA4 := hid ((HBl.out.block w.heap.size hAl).trans HA3.out)
      have hW3 : bp < wr.heap.size := by have := HBl.out.size; have := HSz.out; omega
      have HA4 := hid ((HBl.out.block w.heap.size hAl).trans HA3.out)
      have hW3 : bp < wr.heap.size := by have := HBl.out.size; have := HSz.out; omega
      have HA4 := hid ((HBl.out.block w.heap.size hAl).trans HA3.out)
      have hW3 : bp < wr.heap.size := by have := HBl.out.size; have := HSz.out; omega
      have HA4 := hid ((HBl.out.block w.heap.size hAl).trans HA3.out)
      have hW3 : bp < wr.heap.size := by have := HBl.out.size; have := HSz.out; omega
      rename World => w3
      have HS1 : Hid (STl w3 w.heap.size bp N (.slice none 0 0) [] (.slice none 0 0) [] (.slice none 0 0) w3) := ⟨HS0.out, World.ownsRow_nil _ _ _ _, fun q e => by simp [Value.ownBlock] at e, fun q e => by simp [Value.ownBlock] at e, hW3, Or.inl rfl, FrmG.refl _ _ _ _⟩
      have HTg := hid (fun x w => specTag_calls x w)
      unfold tagZ at HTg
      clear HS0 HRo HF HBl HB2 HK HSz HA3 HB3 HQ
      go_wp2_with fail
      go_loopw [9, 10, 11] (fun vm vt i wr => ∃ (ii : Int) (k : Nat), i = .int .i64 ii ∧ Hid (ii = (k : Int) ∧ k ≤ n) ∧ Hid (STl w3 w.heap.size bp N (.slice none 0 0) (tellsRun ws xs k []).1 vm (tellsRun ws xs k []).2 vt wr)) (fun _ _ i _ => n - (intOf i).toNat)
      case atStart => exact ⟨0, 0, rfl, ⟨rfl, by omega⟩, HS1.out⟩
      case round =>
        obtain ⟨ii, k, rfl, HQ, HS⟩ := hrel
        have hi0' : 0 ≤ ii := by have := HQ.out; omega
        by_cases hlt2 : ii < (n : Int)
        · have hkm2 : k < n := by have := HQ.out; omega
          have hik : ii.toNat = k := by have := HQ.out; omega
          have hkx : k < xs.length := by have := HXn.out; omega
          have HOld : Hid (∀ q, q < w3.heap.size → q ≠ bp → wr.heap[q]? = w3.heap[q]?) := fun q hq hne => HS.out.frm.block q hq hne hne (by simp [Value.ownBlock])
          have q0 : wr.cell? ⟨rg, k, none⟩ = some (.int .i64 (xs.getD k 0)) := by
            have hrg : rg < w.heap.size := HL.out.1 (Nat.lt_of_le_of_lt (Nat.zero_le _) hkx)
            have hrl : rg < w3.heap.size := Nat.lt_of_lt_of_le hrg HBw.out.size
            have e := (World.cell?_of_block (w := w3) (a := ⟨rg, 0 + k, none⟩) (HOld.out rg hrl (by omega))).trans ((HBw.out.cell (p := ⟨rg, 0 + k, none⟩) hrg).trans (HL.out.2 k hkx))
            rw [Nat.zero_add] at e
            exact e
          have HDr : Hid (Wds b off N ws wr) := HS.out.frm.wds (HD.out.below HBw.out) HD.out.lt (by omega) (by omega) (fun q e => by simp [Value.ownBlock] at e)
          have HLd := hid (HX.out k hkx)
          have HMt := hid (Met.tells HKo.out (met := []) ⟨List.nodup_nil, fun a ha => by cases ha⟩ HX.out k (by omega)).1
          have HLk := hid (Met.tells HKo.out (met := []) ⟨List.nodup_nil, fun a ha => by cases ha⟩ HX.out k (by omega)).2.2
          have HNx : Hid (tellsRun ws xs (k + 1) [] = ((tellZ ws (tellsRun ws xs k []).1 (xs.getD k 0)).1, (tellsRun ws xs k []).2 ++ [(tellZ ws (tellsRun ws xs k []).1 (xs.getD k 0)).2])) := rfl
          obtain ⟨x, hxk⟩ : ∃ x, xs.getD k 0 = x := ⟨_, rfl⟩
          obtain ⟨mt, hmt⟩ : ∃ mt, (tellsRun ws xs k []).1 = mt := ⟨_, rfl⟩
          obtain ⟨ot, hot⟩ : ∃ ot, (tellsRun ws xs k []).2 = ot := ⟨_, rfl⟩
          rw [hxk] at q0 HLd HNx
          rw [hmt, hot] at HNx HS
          rw [hot] at HLk
          rw [hmt] at HMt
          obtain ⟨r, hr⟩ : ∃ r, tellZ ws mt x = r := ⟨_, rfl⟩
          rw [hr] at HNx
          have HrE := hid hr
          have HSg := hid HS.out.gr
          have HSh : Hid (mt.length ≤ 8000) := by have e := HMt.out.short HKo.out; have := HDr.out.len; show _ ≤ _; omega
          obtain ⟨h0, h1, h2, h3, h4, h5, h6, h7, h8, h9⟩ := HeapBlk.cells (h := ⟨g1, g2, g3, g4, g5, g6, g7, g8, g9⟩) ((HOld.out w.heap.size (by omega) (by omega)).trans HA4.out)
          dsimp only at h0 h1 h2 h3 h4 h5 h6 h7 h8 h9
          clear hxk hmt hot hr
          go_wp2_with fail
          refine (HTg.out _ _).mono ?_
          rintro e Wt ⟨rfl, rfl⟩
          go_upto_if 60 with fail
          go_cut [9, 12, 13] from 48 to 86 (fun vm' tw _ wx => tw = .int .i64 r.2 ∧ Hid (SGr w.heap.size bp N r.1 vm' wx) ∧ Hid (FrmG wr bp bp u9 wx) ∧ Hid (MovedTo wr u9 vm'))
          case first =>
            by_cases hx8 : x % 8 = 0
            case neg =>
              have hne : ((x % 8 : Int) == 0) = false := by simpa using hx8
              have hre : (mt, x) = r := by rw [← HrE.out]; unfold tellZ; rw [if_neg hx8]
              go_wp2_with fail
              go_meet
              case rel => exact ⟨by rw [← hre], by rw [← hre]; exact HSg.out, FrmG.refl _ _ _ _, Or.inl rfl⟩
            obtain ⟨y0, y1, hyS⟩ := HLd.out hx8
            have hnode := now_node HKo.out HLd.out hx8
            have hnn := HKo.out.noted.2 _ hnode.here
            have HNw := hid (HNow.out x wr HDr.out HLd.out hx8)
            obtain ⟨c, hc⟩ : ∃ c, nowZ ws (x / 8).toNat = c := ⟨_, rfl⟩
            rw [hc] at hnn HNw
            have hcN : c < N := by rw [← HDr.out.len]; exact hnn.1
            have hre : (if c ∈ mt then (mt, 8 * ((mt).idxOf c : Int)) else (mt ++ [c], 8 * ((mt).length : Int))) = r := by rw [← HrE.out]; unfold tellZ; rw [if_pos hx8, hc]
            have HRe := hid hre
            obtain ⟨ci, hci⟩ : ∃ ci : Int, (c : Int) = ci := ⟨_, rfl⟩
            rw [hci] at HNw
            have Hci := hid hci
            have hx8b : ((x % 8 : Int) == 0) = true := by simpa using hx8
            clear hnode hnn hc hre hci y0 y1 hyS
            go_wp2_with fail
            refine HNw.out.mono ?_
            rintro e Wn ⟨rfl, hbn⟩
            have HG2 := hid (HSg.out.keep hbn)
            have HF2 := hid (FrmG.of_below hbn bp bp u9)
            clear hbn HNw
            have q0 := HG2.out.places.cell (i := c) hcN
            have hct : ci.toNat = c := by have := Hci.out; omega
            have hc0 : 0 ≤ ci := by have := Hci.out; omega
            have hcl : ci < (N : Int) := by have := Hci.out; omega
            have hpr := placeZ_range (met := mt) (a := c)
            obtain ⟨p1, hp1⟩ : ∃ p1, placeZ mt c = p1 := ⟨_, rfl⟩
            rw [hp1] at q0
            have Hp1 := hid hp1
            by_cases hin : c ∈ mt
            · have hix := List.idxOf_lt_length_of_mem hin
              have hpv : p1 = (((mt).idxOf c : Nat) : Int) := by rw [← hp1]; unfold placeZ; rw [if_pos hin]
              have hnl : ¬ p1 < 0 := by omega
              have HMk := hid (fun w => specMake_calls 0 p1 w)
              have HMv : Hid (makeZ 0 p1 = 8 * ((mt).idxOf c : Int)) := by
                have := HSh.out
                show _ = _
                rw [hpv]
                unfold makeZ wrap64
                simp
                omega
              rw [HMv.out] at HMk
              have HRi : Hid ((mt, 8 * ((mt).idxOf c : Int)) = r) := by show _ = _; rw [← HRe.out, if_pos hin]
              clear hix hpv hpr hp1 HMv
              go_wp2_with fail
              refine (HMk.out _).mono ?_
              rintro e Wm ⟨rfl, rfl⟩
              go_wp2_with fail
              go_meet
              case rel => exact ⟨by rw [← HRi.out], by rw [← HRi.out]; exact HG2.out, HF2.out, Or.inl rfl⟩
            · have hpz : p1 < 0 := by rw [← hp1]; exact placeZ_neg.2 hin
              have HRi : Hid ((mt ++ [c], 8 * ((mt).length : Int)) = r) := by show _ = _; rw [← HRe.out, if_neg hin]
              have HPn := hid (fun a => placeZ_new (met := mt) hin a)
              clear hpr hp1
              obtain ⟨-, ad, cm, hvm⟩ := owns_at HG2.out.row
              subst hvm
              obtain ⟨_, _, hrow, _, _⟩ := HG2.out.places
              have fq := hrow.frozen c hcN
              have q5 := row_set' HG2.out.places c (.int .i64 ((mt).length : Int))
              have HP5 : Hid (CellRow 3 (Wn.setCell ⟨bp, c, none⟩ (.int .i64 ((mt).length : Int))) bp N (fun a => .int .i64 (placeZ (mt ++ [c]) a))) := by
                refine q5.congr (fun j hj => ?_)
                rw [HPn.out]
                by_cases h : j = c
                · rw [if_pos h, if_pos h]
                · rw [if_neg h, if_neg h]
              have HO5 : Hid (∀ g, g ≠ bp → (Wn.setCell ⟨bp, c, none⟩ (.int .i64 ((mt).length : Int))).heap[g]? = Wn.heap[g]?) := fun g hg => Below.heap_setCell Wn ⟨bp, c, none⟩ _ g hg
              have HZ5 : Hid (Wn.heap.size = (Wn.setCell ⟨bp, c, none⟩ (.int .i64 ((mt).length : Int))).heap.size) := by show _ = _; simp [World.setCell]
              have HT5 : Hid ((Wn.setCell ⟨bp, c, none⟩ (.int .i64 ((mt).length : Int))).os = Wn.os ∧ (Wn.setCell ⟨bp, c, none⟩ (.int .i64 ((mt).length : Int))).tape = Wn.tape ∧ (Wn.setCell ⟨bp, c, none⟩ (.int .i64 ((mt).length : Int))).output = Wn.output) := ⟨rfl, rfl, rfl⟩
              obtain ⟨X, hX⟩ : ∃ X, Wn.setCell ⟨bp, c, none⟩ (.int .i64 ((mt).length : Int)) = X := ⟨_, rfl⟩
              rw [hX] at HP5 HO5 HZ5 HT5
              have HRX : Hid (X.ownsRow w.heap.size 3 1 (.slice ad (mt).length cm) (mt).length (metCells mt)) := owns_of_block HG2.out.row (fun g e => HO5.out g (fun e' => HG2.out.n2 (e' ▸ e)))
              have hKX := (Below.refl X.heap.size X).alloc (Nat.le_refl _) (.cells #[.int .i64 ci] 3)
              have hE : (X.alloc (.cells #[.int .i64 ci] 3)).heap[X.heap.size]? = some (.cells #[.int .i64 ci] 3) := (MapKept.heap_alloc X _).1
              have hsX : (X.alloc (.cells #[.int .i64 ci] 3)).heap.size = X.heap.size + 1 := by simp
              have HKX := hid hKX
              have HE := hid hE
              have HsX := hid hsX
              obtain ⟨i0, hi, hz0, hz1, hz2⟩ := info_parts info_int
              have hlen8 := HSh.out
              have HB2 : Hid (w.heap.size ≤ (X.alloc (.cells #[.int .i64 ci] 3)).heap.size) := by have h1 := HsX.out; have h2 := HG2.out.b2; have h3 := HG2.out.places.lt; have h4 := HZ5.out; show _ ≤ _; omega
              clear q5 hrow hKX hE hsX
              go_wp2_with (first
                | (at_builtin; refine wpList_append_own_at _ rfl _ _ 23 rfl w.heap.size 3 i0 (.int .i64 0) 1 8 Try.underlying23 hi hz0 hz1 hz2 rfl (by decide) (.slice ad (mt).length cm) (mt).length (metCells mt) rfl (kept_owns HRX.out HKX.out) ⟨X.heap.size, 0, none⟩ 1 1 [.int .i64 ci] rfl rfl (fun j u hu => ?_) (fun u hu => ?_) (by unfold maxLen; omega) (by omega) HB2.out ?_))
              · cases j with
                | zero =>
                  simp at hu
                  subst hu
                  exact (cell_of_heap HE.out 0)
                | succ j => simp at hu
              · simp at hu
                subst hu
                rfl
              intro v' Wv hown hgrow hnil hat
              obtain ⟨gos, gtape, gout, gsz, gblk⟩ := hgrow
              rw [HsX.out] at gsz gblk
              have hnb := HG2.out.n2
              have hbpl : bp < Wn.heap.size := HG2.out.places.lt
              have hzx := HZ5.out
              have hzf := HF2.out.size
              have HPv : Hid (CellRow 3 Wv bp N (fun a => .int .i64 (placeZ (mt ++ [c]) a))) := HP5.out.of_block ((gblk bp (by omega) (Ne.symm hnb)).trans (HKX.out.block bp (by omega)))
              have HFv : Hid (FrmG wr bp bp (.slice ad (mt).length cm) Wv) := HF2.out.trans (Or.inl rfl) ⟨gos.trans (HKX.out.os.trans HT5.out.1), gtape.trans (HKX.out.tape.trans HT5.out.2.1), gout.trans (HKX.out.output.trans HT5.out.2.2), by omega, fun q hq h1 _ h2 => (gblk q (by omega) (Ne.symm h2)).trans ((HKX.out.block q (by omega)).trans (HO5.out q h1))⟩
              have HMv : Hid (MovedTo wr (.slice ad (mt).length cm) v') := by
                rcases hat with h | h
                · exact Or.inl h
                · exact Or.inr ⟨_, h, by omega⟩
              have HSv : Hid (SGr w.heap.size bp N (mt ++ [c]) v' Wv) := by
                refine ⟨HPv.out, ?_, fun e => ?_, HG2.out.b2⟩
                · unfold metCells at hown ⊢
                  rw [List.length_append, List.map_append]
                  rw [← Hci.out] at hown
                  exact hown
                · rcases hat with h | h
                  · exact hnb (h.symm.trans e)
                  · rw [e] at h
                    cases h
                    omega
              have q6 := HPv.out.cell (i := c) hcN
              have hpl : placeZ (mt ++ [c]) c = ((mt).length : Int) := by rw [HPn.out, if_pos rfl]
              rw [hpl] at q6
              have HMk := hid (fun w => specMake_calls 0 ((mt).length : Int) w)
              have HMv2 : Hid (makeZ 0 ((mt).length : Int) = 8 * ((mt).length : Int)) := by
                have := HSh.out
                show _ = _
                unfold makeZ wrap64
                simp
                omega
              rw [HMv2.out] at HMk
              clear hown hat gos gtape gout gsz gblk hnil hpl hX HKX HE HsX HB2 HRX HP5 HO5 HZ5 HT5 q0 fq hi hz0 hz1 hz2 HMv2
              go_wp2_with fail
              refine (HMk.out _).mono ?_
              rintro e Wm ⟨rfl, rfl⟩
              go_wp2_with fail
              go_meet
              case rel => exact ⟨by rw [← HRi.out], by rw [← HRi.out]; exact HSv.out, HFv.out, HMv.out⟩
          case rest =>
            obtain ⟨rfl, HSx, HFx, HMx⟩ := hcut
            have HS2 := hid (HS.out.tell HSx.out HFx.out HMx.out)
            have hKt := (Below.refl wc.heap.size wc).alloc (Nat.le_refl _) (.cells #[.int .i64 r.2] 3)
            have hE : (wc.alloc (.cells #[.int .i64 r.2] 3)).heap[wc.heap.size]? = some (.cells #[.int .i64 r.2] 3) := (MapKept.heap_alloc wc _).1
            have HKt := hid hKt
            have HE := hid hE
            have HBt : Hid (w.heap.size ≤ (wc.alloc (.cells #[.int .i64 r.2] 3)).heap.size) := by have h1 := hKt.size; have h2 := HS2.out.gr.b2; have h3 := HS2.out.gr.places.lt; show _ ≤ _; omega
            obtain ⟨i0, hi, hz0, hz1, hz2⟩ := info_parts info_int
            have hol : ot.length ≤ 20 := by have := HLk.out; have := HN20.out; omega
            have hs : Hid (n - (intOf (.int .i64 (ii + 1))).toNat < n - (intOf (.int .i64 ii)).toNat) := by show _ < _; simp only [intOf]; omega
            have hw : Hid (wrap64 (ii + 1) = ii + 1) := by show _ = _; have := HN20.out; unfold wrap64; omega
            clear hKt hE HSx HFx HMx HS HSg h0 h1 h2 h3 h4 h5 h6 h7 h8 h9 q0
            go_wp2_with (first
              | (at_builtin; refine wpList_append_own_at _ rfl _ _ 23 rfl w.heap.size 3 i0 (.int .i64 0) 1 8 Try.underlying23 hi hz0 hz1 hz2 rfl (by decide) u10 ot.length (wordCells ot) rfl (kept_owns HS2.out.row HKt.out) ⟨wc.heap.size, 0, none⟩ 1 1 [.int .i64 r.2] rfl rfl (fun j u hu => ?_) (fun u hu => ?_) (by unfold maxLen; omega) (by omega) HBt.out ?_))
            · cases j with
              | zero =>
                simp at hu
                subst hu
                exact (cell_of_heap HE.out 0)
              | succ j => simp at hu
            · simp at hu
              subst hu
              rfl
            intro v' Wv hown hgrow hnil hat
            have HS3 : Hid (STl w3 w.heap.size bp N (.slice none 0 0) r.1 u9 (ot ++ [r.2]) v' Wv) := (HS2.out.below HKt.out).push r.2 hown hgrow (by
              rcases hat with h | h
              · exact Or.inl h
              · exact Or.inr ⟨_, h, by simp⟩)
            clear hown hgrow hnil hat HKt HE HBt hi hz0 hz1 hz2 HS2
            go_wp2_with fail
            try rw [hw.out]
            refine ⟨⟨ii + 1, k + 1, rfl, ⟨by have := HQ.out; push_cast; omega, by omega⟩, ?_⟩, hs.out⟩
            rw [HNx.out]
            exact HS3.out


        · have hkm2 : k = n := by have := HQ.out; omega
          rw [hkm2] at HS
          have HM0 : Hid (Met ws S (tellsRun ws xs n []).1) := (Met.tells HKo.out (met := []) ⟨List.nodup_nil, fun a ha => by cases ha⟩ HX.out n (by rw [HXn.out]; exact Nat.le_refl _)).1
          have HB4 : Hid (Below w.heap.size w wr) := HBw.out.trans ⟨HS.out.frm.os, HS.out.frm.tape, HS.out.frm.output, HS.out.frm.size, fun q hq => HS.out.frm.block q (by have := HBw.out.size; omega) (by omega) (by omega) (by simp [Value.ownBlock])⟩
          have HA5 := hid ((HS.out.frm.block w.heap.size (by omega) (by omega) (by omega) (by simp [Value.ownBlock])).trans HA4.out)
          have hw4 : bp < wr.heap.size := by have := HS.out.frm.size; omega
          obtain ⟨M, hM⟩ : ∃ M, (tellsRun ws xs n []).1 = M := ⟨_, rfl⟩
          obtain ⟨T, hT⟩ : ∃ T, (tellsRun ws xs n []).2 = T := ⟨_, rfl⟩
          rw [hM, hT] at HS
          rw [hM] at HM0
          have HMe := hid hM
          have HTe := hid hT
          generalize u9 = v9 at *
          generalize u10 = v10 at *
          rename World => w4
          have HTo := hid HS.out
          have HN9 : Hid (v9.ownBlock ≠ some w.heap.size) := fun e => by
            rcases HS.out.mv with h | ⟨q, h, hl⟩
            · rw [e] at h
              simp [Value.ownBlock] at h
            · rw [e] at h
              cases h
              omega
          have HS30 : Hid (SG3 w4 w.heap.size bp N v9 M v9 [] (fun _ => .slice none 0 0) (.slice none 0 0) w4) := ⟨HS.out.gr, World.ownsRow_nil _ _ _ _, fun i hi => (by cases hi), fun i hi => (by cases hi), fun q e => (by simp [Value.ownBlock] at e), fun q e => (by simp [Value.ownBlock] at e), hw4, Or.inl rfl, FrmG.refl _ _ _ _⟩
          have HMg : Hid (∀ k, (∀ j, j < k → j < (graphRun ws j M).1.length) → Met ws S (graphRun ws k M).1 ∧ (graphRun ws k M).2.length = k) := fun k hk => ⟨(Met.graph HKo.out HM0.out k hk).1, (Met.graph HKo.out HM0.out k hk).2.2⟩
          clear hM hT HS HQ
          go_wp2_with fail
          go_loopw [9, 14, 15] (fun vm vo i wr => ∃ (ii : Int) (k : Nat) (vs : Nat → Value), i = .int .i64 ii ∧ Hid (ii = (k : Int) ∧ ∀ j, j < k → j < (graphRun ws j M).1.length) ∧ Hid (SG3 w4 w.heap.size bp N v9 (graphRun ws k M).1 vm (graphRun ws k M).2 vs vo wr)) (fun _ _ i _ => N - (intOf i).toNat)
          case atStart => exact ⟨0, 0, fun _ => .slice none 0 0, rfl, ⟨rfl, fun j hj => by omega⟩, HS30.out⟩
          case round =>
            clear HS30 HS1
            obtain ⟨i3, k3, vs, rfl, HQ, HS⟩ := hrel
            have HMk := hid (HMg.out k3 HQ.out.2)
            have HNx : Hid (graphRun ws (k3 + 1) M = ((tellsRun ws (fieldsAtZ ws ((graphRun ws k3 M).1.getD k3 0)) (fieldsAtZ ws ((graphRun ws k3 M).1.getD k3 0)).length (graphRun ws k3 M).1).1, (graphRun ws k3 M).2 ++ [(ws.getD ((graphRun ws k3 M).1.getD k3 0) 0 % 16, (tellsRun ws (fieldsAtZ ws ((graphRun ws k3 M).1.getD k3 0)) (fieldsAtZ ws ((graphRun ws k3 M).1.getD k3 0)).length (graphRun ws k3 M).1).2)])) := rfl
            have HLs : Hid (∀ j, j < k3 → j < (graphRun ws j M).1.length) := HQ.out.2
            have HQk : Hid (i3 = (k3 : Int)) := HQ.out.1
            obtain ⟨mt, hmt⟩ : ∃ mt, (graphRun ws k3 M).1 = mt := ⟨_, rfl⟩
            obtain ⟨ot, hot⟩ : ∃ ot, (graphRun ws k3 M).2 = ot := ⟨_, rfl⟩
            rw [hmt, hot] at HS HNx HMk
            have Hmt := hid hmt
            have Hot := hid hot
            clear hmt hot HQ
            obtain ⟨-, ad, cm, hvm⟩ := owns_at HS.out.gr.row
            subst hvm
            have HSh0 := hid (HMk.out.1.short HKo.out)
            by_cases hlt3 : i3 < (mt.length : Int)
            · have hkm3 : k3 < mt.length := by have := HQk.out; omega
              have hik : i3.toNat = k3 := by have := HQk.out; omega
              have hi03 : 0 ≤ i3 := by have := HQk.out; omega
              obtain ⟨gm, rfl⟩ : ∃ gm, ad = some ⟨gm, 0, none⟩ := by
                obtain ⟨-, ⟨e, h0⟩ | ⟨g, cap', cur, e, -⟩⟩ := HS.out.gr.row
                · omega
                · cases e
                  exact ⟨g, rfl⟩
              have hnode : Node ws S (mt.getD k3 0) := HMk.out.1.nodes _ (by simp [List.getD, hkm3])
              obtain ⟨h36, haN, hfl⟩ := node_at HKo.out hnode
              have qm : wr.cell? ⟨gm, k3, none⟩ = some (.int .i64 ((mt.getD k3 0 : Nat) : Int)) := by
                have e := HS.out.gr.row.cells (g := gm) (by simp [Value.ownBlock]) k3 (.int .i64 ((mt.getD k3 0 : Nat) : Int)) (by unfold metCells; simp [List.getD, hkm3])
                rw [show (⟨gm, 0, none⟩ : Addr).add k3 = ⟨gm, k3, none⟩ from by unfold Addr.add; split <;> simp_all] at e
                exact e
              have hgl : gm < wr.heap.size := (HS.out.gr.own_lt (by simp [Value.ownBlock])).2
              have hfl' := fieldsAtZ_len ws (mt.getD k3 0)
              have HFz := hid (fun i (hi : i < (fieldsAtZ ws (mt.getD k3 0)).length) => show Leads ws S ((fieldsAtZ ws (mt.getD k3 0)).getD i 0) from by
                rw [hfl'] at hi
                rw [fieldsAtZ_get hi]
                exact hfl i hi)
              have HFg := hid (fun i (hi : i < (fieldsAtZ ws (mt.getD k3 0)).length) => show (fieldsAtZ ws (mt.getD k3 0)).getD i 0 = ws.getD (mt.getD k3 0 + 1 + i) 0 from by
                rw [hfl'] at hi
                exact fieldsAtZ_get hi)
              have HDr : Hid (Wds b off N ws wr) := HS.out.frm.wds (HD.out.below HB4.out) HD.out.lt (by omega) (by omega) (fun q e => (HTo.out.gr.own_lt e).1)
              have HLen := hid HD.out.len
              have Hgk : Hid (mt.getD k3 0 = mt.getD k3 0) := rfl
              obtain ⟨a, ha⟩ : ∃ a, mt.getD k3 0 = a := ⟨_, rfl⟩
              have Ha := hid ha
              rw [ha] at qm HFz HFg h36 haN hfl' HNx
              obtain ⟨fz, hfz⟩ : ∃ fz, fieldsAtZ ws a = fz := ⟨_, rfl⟩
              rw [hfz] at HFz HFg hfl' HNx
              have haN' : a < N := by have := HLen.out; omega
              have qw := HDr.out.cells a haN'
              obtain ⟨x, hxv⟩ : ∃ x, ws.getD a 0 = x := ⟨_, rfl⟩
              rw [hxv] at h36 haN hfl' HNx qw
              obtain ⟨m, hm⟩ : ∃ m, fz.length = m := ⟨_, rfl⟩
              rw [hm] at hfl' HNx HFz HFg
              have Hm := hid hm
              obtain ⟨ai, hai⟩ : ∃ ai : Int, (a : Int) = ai := ⟨_, rfl⟩
              rw [hai] at qm
              have Hai := hid hai
              obtain ⟨si, hsi⟩ : ∃ si, x / 16 = si := ⟨_, rfl⟩
              have Hsi : Hid (si = (m : Int) + 1 ∧ (m = 2 ∨ m = 5) ∧ a + (m + 1) ≤ N) := ⟨by omega, by omega, by have := HLen.out; omega⟩
              have hb15 := and15 x
              obtain ⟨kd, hkd⟩ : ∃ kd, x % 16 = kd := ⟨_, rfl⟩
              rw [hkd] at hb15 HNx
              have hat : ai.toNat = a := by omega
              have ha0 : 0 ≤ ai := by omega
              have hal : ai < (N : Int) := by omega
              have hAw := (HS.out.frm.block w.heap.size (by omega) (by omega) (by omega) (fun e => by have := (HTo.out.gr.own_lt e); exact absurd e (HN9.out))).trans HA5.out
              have l0 : ∀ y : Later wr.heap.size wr, y.w.cell? ⟨w.heap.size, 0, none⟩ = some (.slice (some ⟨b, off, none⟩) N cap) := fun y => y.cell (heap_lt hAw) (HeapBlk.cells (h := ⟨g1, g2, g3, g4, g5, g6, g7, g8, g9⟩) hAw).1
              have l1 : ∀ y : Later wr.heap.size wr, y.w.cell? ⟨gm, k3, none⟩ = some (.int .i64 ai) := fun y => y.cell hgl qm
              have l2 : ∀ y : Later wr.heap.size wr, y.w.cell? ⟨b, off + a, none⟩ = some (.int .i64 x) := fun y => y.cell HDr.out.lt qw
              have HAw : Hid (HeapBlk wr w.heap.size (.slice (some ⟨b, off, none⟩) N cap) ⟨g1, g2, g3, g4, g5, g6, g7, g8, g9⟩) := hAw
              clear hnode h36 haN hfl hfl' hfz hxv hm hai ha haN' hkd hAw qm qw Hgk
              go_wp2_with fail
              refine wp_region_calm wr.heap.size (by kernel_rfl) (by kernel_rfl) ?_
              repeat (go_big_quiet_step (fail))
              refine wpQuiet_nil ?_
              rintro w6 ⟨y, rfl⟩
              have HS1 := hid (HS.out.below y.h)
              have HD1 := hid (HDr.out.below y.h)
              have HA1 := hid (HAw.out.below y.h)
              generalize y.w = X1 at *
              clear y l0 l1 l2 HDr HAw HS
              have hK2 := (Below.refl X1.heap.size X1).alloc (Nat.le_refl _) (.cells #[.int .i64 kd, .slice none 0 0] 45)
              have hE2 : (X1.alloc (.cells #[.int .i64 kd, .slice none 0 0] 45)).heap[X1.heap.size]? = some (.cells #[.int .i64 kd, .slice none 0 0] 45) := (MapKept.heap_alloc X1 _).1
              have HT2 : Hid (STl X1 w.heap.size bp N (.slice (some ⟨gm, 0, none⟩) mt.length cm) mt (.slice (some ⟨gm, 0, none⟩) mt.length cm) [] (.slice none 0 0) (X1.alloc (.cells #[.int .i64 kd, .slice none 0 0] 45))) := ⟨HS1.out.gr.keep hK2, World.ownsRow_nil _ _ _ _, fun q e => (by simp [Value.ownBlock] at e), fun q e => (by simp [Value.ownBlock] at e), HS1.out.gr.places.lt, Or.inl rfl, FrmG.of_below hK2 _ _ _⟩
              have HE2 := hid hE2
              have HN1 : Hid ((Value.slice (some ⟨gm, 0, none⟩) mt.length cm).ownBlock ≠ some w.heap.size) := fun e => by
                rcases HS1.out.mv with h | ⟨q, h, hl⟩
                · exact HN9.out (h.symm.trans e)
                · rw [e] at h
                  cases h
                  omega
              clear hK2 hE2
              go_wp2_with fail
              generalize X1.alloc (.cells #[.int .i64 kd, .slice none 0 0] 45) = X2 at *
              go_loopw [9, 18] (fun vm i wr => ∃ (jj : Int) (j : Nat) (vt : Value), i = .int .i64 jj ∧ Hid (jj = (j : Int) + 1 ∧ j ≤ m) ∧ Hid (STl X1 w.heap.size bp N (.slice (some ⟨gm, 0, none⟩) mt.length cm) (tellsRun ws fz j mt).1 vm (tellsRun ws fz j mt).2 vt wr) ∧ Hid (wr.heap[X1.heap.size]? = some (.cells #[.int .i64 kd, vt] 45)) ∧ Hid (vm.ownBlock ≠ some X1.heap.size ∧ vt.ownBlock ≠ some X1.heap.size)) (fun _ i _ => m + 1 - (intOf i).toNat)
              case atStart => exact ⟨1, 0, .slice none 0 0, rfl, ⟨rfl, by omega⟩, HT2.out, HE2.out, ⟨by have := (HS1.out.gr.own_lt (k := gm) (by simp [Value.ownBlock])).2; simp [Value.ownBlock]; omega, by simp [Value.ownBlock]⟩⟩
              case round =>
                clear HT2 HE2
                obtain ⟨jj, j, vt, rfl, HQ4, HT, HE, HNo⟩ := hrel
                have hj0 : 0 ≤ jj := by have := HQ4.out; omega
                have HM4 := hid (Met.tells HKo.out HMk.out.1 (xs := fz) (fun i hi => HFz.out i (by have := Hm.out; omega)) j (by have := HQ4.out; have := Hm.out; omega))
                by_cases hlt4 : jj < si
                · have hjm : j < m := by have := HQ4.out; have := Hsi.out; omega
                  have HNx4 : Hid (tellsRun ws fz (j + 1) mt = ((tellZ ws (tellsRun ws fz j mt).1 (fz.getD j 0)).1, (tellsRun ws fz j mt).2 ++ [(tellZ ws (tellsRun ws fz j mt).1 (fz.getD j 0)).2])) := rfl
                  have HLd := hid (HFz.out j hjm)
                  have hfg := HFg.out j hjm
                  have HDr : Hid (Wds b off N ws wr) := HT.out.frm.wds HD1.out HD.out.lt (by omega) (by omega) (fun q e => (HS1.out.gr.own_lt e).1)
                  have HA4' := hid ((HT.out.frm.block w.heap.size (heap_lt HA1.out) (by omega) (by omega) (by have := HN1.out; exact this)).trans HA1.out)
                  have hpN : a + 1 + j < N := by have := Hsi.out; omega
                  have qx := HDr.out.cells (a + 1 + j) hpN
                  rw [← hfg] at qx
                  obtain ⟨r0, hr0⟩ := HM4.out.2.1
                  have hkl : k3 < (tellsRun ws fz j mt).1.length := by rw [hr0, List.length_append]; omega
                  have hkv : (tellsRun ws fz j mt).1.getD k3 0 = a := by rw [hr0, ← Ha.out]; simp [List.getD, List.getElem?_append_left hkm3]
                  have HMm := hid HM4.out.1
                  have HLk := hid HM4.out.2.2
                  obtain ⟨x4, hx4⟩ : ∃ x4, fz.getD j 0 = x4 := ⟨_, rfl⟩
                  obtain ⟨m4, hm4⟩ : ∃ m4, (tellsRun ws fz j mt).1 = m4 := ⟨_, rfl⟩
                  obtain ⟨o4, ho4⟩ : ∃ o4, (tellsRun ws fz j mt).2 = o4 := ⟨_, rfl⟩
                  rw [hx4] at HNx4 HLd qx
                  rw [hm4, ho4] at HNx4 HT
                  rw [hm4] at HMm hkl hkv
                  rw [ho4] at HLk
                  obtain ⟨r, hr⟩ : ∃ r, tellZ ws m4 x4 = r := ⟨_, rfl⟩
                  rw [hr] at HNx4
                  have HrE := hid hr
                  obtain ⟨-, ad4, c4m, hvm4⟩ := owns_at HT.out.gr.row
                  subst hvm4
                  obtain ⟨g4m, rfl⟩ : ∃ gm, ad4 = some ⟨gm, 0, none⟩ := by
                    obtain ⟨-, ⟨e, h0⟩ | ⟨g, cap', cur, e, -⟩⟩ := HT.out.gr.row
                    · omega
                    · cases e
                      exact ⟨g, rfl⟩
                  have qm4 : wr.cell? ⟨g4m, k3, none⟩ = some (.int .i64 ai) := by
                    have e := HT.out.gr.row.cells (g := g4m) (by simp [Value.ownBlock]) k3 (.int .i64 ((m4.getD k3 0 : Nat) : Int)) (by unfold metCells; simp [List.getD, hkl])
                    rw [show (⟨g4m, 0, none⟩ : Addr).add k3 = ⟨g4m, k3, none⟩ from by unfold Addr.add; split <;> simp_all] at e
                    rw [hkv, Hai.out] at e
                    exact e
                  have hgl4 : g4m < wr.heap.size := (HT.out.gr.own_lt (by simp [Value.ownBlock])).2
                  have HSh : Hid (m4.length ≤ 8000) := by have e := HMm.out.short HKo.out; have := HLen.out; show _ ≤ _; omega
                  have hik4 : i3 < (m4.length : Int) := by have := HQk.out; omega
                  have hw4i : wrap64 (ai + jj) = ai + jj := by have := Hai.out; have := HQ4.out; unfold wrap64; omega
                  have hti4 : (ai + jj).toNat = a + 1 + j := by have := Hai.out; have := HQ4.out; omega
                  have hlo4 : 0 ≤ ai + jj := by omega
                  have hhi4 : ai + jj < (N : Int) := by have := Hai.out; have := HQ4.out; omega
                  have l0 : ∀ y : Later wr.heap.size wr, y.w.cell? ⟨w.heap.size, 0, none⟩ = some (.slice (some ⟨b, off, none⟩) N cap) := fun y => y.cell (heap_lt HA4'.out) (HeapBlk.cells (h := ⟨g1, g2, g3, g4, g5, g6, g7, g8, g9⟩) HA4'.out).1
                  have l1 : ∀ y : Later wr.heap.size wr, y.w.cell? ⟨g4m, k3, none⟩ = some (.int .i64 ai) := fun y => y.cell hgl4 qm4
                  have l2 : ∀ y : Later wr.heap.size wr, y.w.cell? ⟨b, off + (a + 1 + j), none⟩ = some (.int .i64 x4) := fun y => y.cell HDr.out.lt qx
                  clear hfg hkl hkv hr0 hx4 hm4 ho4 hr qx qm4 hpN
                  go_wp2_with fail
                  refine wp_region_calm wr.heap.size (by kernel_rfl) (by kernel_rfl) ?_
                  repeat (go_big_quiet_step (fail))
                  refine wpQuiet_nil ?_
                  rintro w6 ⟨y, rfl⟩
                  have HT3 := hid (HT.out.below y.h)
                  have HD3 := hid (HDr.out.below y.h)
                  have HA3' := hid (HeapBlk.below (h := ⟨g1, g2, g3, g4, g5, g6, g7, g8, g9⟩) HA4'.out y.h)
                  have HE3' := hid ((y.h.block _ (heap_lt HE.out)).trans HE.out)
                  generalize y.w = X3 at *
                  clear y l0 l1 l2 HDr HA4' HT HE hgl4
                  have HDr := HD3
                  have HSg := hid HT3.out.gr
                  obtain ⟨h0, h1, h2, h3, h4, h5, h6, h7, h8, h9⟩ := HeapBlk.cells (h := ⟨g1, g2, g3, g4, g5, g6, g7, g8, g9⟩) HA3'.out
                  dsimp only at h0 h1 h2 h3 h4 h5 h6 h7 h8 h9
                  go_wp2_with fail
                  refine (HTg.out _ _).mono ?_
                  rintro e Wt ⟨rfl, rfl⟩
                  go_upto_if 122 with fail
                  go_cut [9, 19, 20] from 104 to 150 (fun vm' tw _ wx => tw = .int .i64 r.2 ∧ Hid (SGr w.heap.size bp N r.1 vm' wx) ∧ Hid (FrmG X3 bp bp (.slice (some ⟨g4m, 0, none⟩) m4.length c4m) wx) ∧ Hid (MovedTo X3 (.slice (some ⟨g4m, 0, none⟩) m4.length c4m) vm'))
                  case first =>
                    by_cases hx8 : x4 % 8 = 0
                    case neg =>
                      have hne : ((x4 % 8 : Int) == 0) = false := by simpa using hx8
                      have hre : (m4, x4) = r := by rw [← HrE.out]; unfold tellZ; rw [if_neg hx8]
                      go_wp2_with fail
                      go_meet
                      case rel => exact ⟨by rw [← hre], by rw [← hre]; exact HSg.out, FrmG.refl _ _ _ _, Or.inl rfl⟩
                    obtain ⟨y0, y1, hyS⟩ := HLd.out hx8
                    have hnode := now_node HKo.out HLd.out hx8
                    have hnn := HKo.out.noted.2 _ hnode.here
                    have HNw := hid (HNow.out x4 X3 HDr.out HLd.out hx8)
                    obtain ⟨c, hc⟩ : ∃ c, nowZ ws (x4 / 8).toNat = c := ⟨_, rfl⟩
                    rw [hc] at hnn HNw
                    have hcN : c < N := by rw [← HDr.out.len]; exact hnn.1
                    have hre : (if c ∈ m4 then (m4, 8 * ((m4).idxOf c : Int)) else (m4 ++ [c], 8 * ((m4).length : Int))) = r := by rw [← HrE.out]; unfold tellZ; rw [if_pos hx8, hc]
                    have HRe := hid hre
                    obtain ⟨ci, hci⟩ : ∃ ci : Int, (c : Int) = ci := ⟨_, rfl⟩
                    rw [hci] at HNw
                    have Hci := hid hci
                    have hx8b : ((x4 % 8 : Int) == 0) = true := by simpa using hx8
                    clear hnode hnn hc hre hci y0 y1 hyS
                    go_wp2_with fail
                    refine HNw.out.mono ?_
                    rintro e Wn ⟨rfl, hbn⟩
                    have HG2 := hid (HSg.out.keep hbn)
                    have HF2 := hid (FrmG.of_below hbn bp bp (.slice (some ⟨g4m, 0, none⟩) m4.length c4m))
                    clear hbn HNw
                    have q0 := HG2.out.places.cell (i := c) hcN
                    have hct : ci.toNat = c := by have := Hci.out; omega
                    have hc0 : 0 ≤ ci := by have := Hci.out; omega
                    have hcl : ci < (N : Int) := by have := Hci.out; omega
                    have hpr := placeZ_range (met := m4) (a := c)
                    obtain ⟨p1, hp1⟩ : ∃ p1, placeZ m4 c = p1 := ⟨_, rfl⟩
                    rw [hp1] at q0
                    have Hp1 := hid hp1
                    by_cases hin : c ∈ m4
                    · have hix := List.idxOf_lt_length_of_mem hin
                      have hpv : p1 = (((m4).idxOf c : Nat) : Int) := by rw [← hp1]; unfold placeZ; rw [if_pos hin]
                      have hnl : ¬ p1 < 0 := by omega
                      have HMk := hid (fun w => specMake_calls 0 p1 w)
                      have HMv : Hid (makeZ 0 p1 = 8 * ((m4).idxOf c : Int)) := by
                        have := HSh.out
                        show _ = _
                        rw [hpv]
                        unfold makeZ wrap64
                        simp
                        omega
                      rw [HMv.out] at HMk
                      have HRi : Hid ((m4, 8 * ((m4).idxOf c : Int)) = r) := by show _ = _; rw [← HRe.out, if_pos hin]
                      clear hix hpv hpr hp1 HMv
                      go_wp2_with fail
                      refine (HMk.out _).mono ?_
                      rintro e Wm ⟨rfl, rfl⟩
                      go_wp2_with fail
                      go_meet
                      case rel => exact ⟨by rw [← HRi.out], by rw [← HRi.out]; exact HG2.out, HF2.out, Or.inl rfl⟩
                    · have hpz : p1 < 0 := by rw [← hp1]; exact placeZ_neg.2 hin
                      have HRi : Hid ((m4 ++ [c], 8 * ((m4).length : Int)) = r) := by show _ = _; rw [← HRe.out, if_neg hin]
                      have HPn := hid (fun a => placeZ_new (met := m4) hin a)
                      clear hpr hp1
                      skip
                      skip
                      obtain ⟨_, _, hrow, _, _⟩ := HG2.out.places
                      have fq := hrow.frozen c hcN
                      have q5 := row_set' HG2.out.places c (.int .i64 ((m4).length : Int))
                      have HP5 : Hid (CellRow 3 (Wn.setCell ⟨bp, c, none⟩ (.int .i64 ((m4).length : Int))) bp N (fun a => .int .i64 (placeZ (m4 ++ [c]) a))) := by
                        refine q5.congr (fun j hj => ?_)
                        rw [HPn.out]
                        by_cases h : j = c
                        · rw [if_pos h, if_pos h]
                        · rw [if_neg h, if_neg h]
                      have HO5 : Hid (∀ g, g ≠ bp → (Wn.setCell ⟨bp, c, none⟩ (.int .i64 ((m4).length : Int))).heap[g]? = Wn.heap[g]?) := fun g hg => Below.heap_setCell Wn ⟨bp, c, none⟩ _ g hg
                      have HZ5 : Hid (Wn.heap.size = (Wn.setCell ⟨bp, c, none⟩ (.int .i64 ((m4).length : Int))).heap.size) := by show _ = _; simp [World.setCell]
                      have HT5 : Hid ((Wn.setCell ⟨bp, c, none⟩ (.int .i64 ((m4).length : Int))).os = Wn.os ∧ (Wn.setCell ⟨bp, c, none⟩ (.int .i64 ((m4).length : Int))).tape = Wn.tape ∧ (Wn.setCell ⟨bp, c, none⟩ (.int .i64 ((m4).length : Int))).output = Wn.output) := ⟨rfl, rfl, rfl⟩
                      obtain ⟨X, hX⟩ : ∃ X, Wn.setCell ⟨bp, c, none⟩ (.int .i64 ((m4).length : Int)) = X := ⟨_, rfl⟩
                      rw [hX] at HP5 HO5 HZ5 HT5
                      have HRX : Hid (X.ownsRow w.heap.size 3 1 (.slice (some ⟨g4m, 0, none⟩) (m4).length c4m) (m4).length (metCells m4)) := owns_of_block HG2.out.row (fun g e => HO5.out g (fun e' => HG2.out.n2 (e' ▸ e)))
                      have hKX := (Below.refl X.heap.size X).alloc (Nat.le_refl _) (.cells #[.int .i64 ci] 3)
                      have hE : (X.alloc (.cells #[.int .i64 ci] 3)).heap[X.heap.size]? = some (.cells #[.int .i64 ci] 3) := (MapKept.heap_alloc X _).1
                      have hsX : (X.alloc (.cells #[.int .i64 ci] 3)).heap.size = X.heap.size + 1 := by simp
                      have HKX := hid hKX
                      have HE := hid hE
                      have HsX := hid hsX
                      obtain ⟨i0, hi, hz0, hz1, hz2⟩ := info_parts info_int
                      have hlen8 := HSh.out
                      have HB2 : Hid (w.heap.size ≤ (X.alloc (.cells #[.int .i64 ci] 3)).heap.size) := by have h1 := HsX.out; have h2 := HG2.out.b2; have h3 := HG2.out.places.lt; have h4 := HZ5.out; show _ ≤ _; omega
                      clear q5 hrow hKX hE hsX
                      go_wp2_with (first
                        | (at_builtin; refine wpList_append_own_at _ rfl _ _ 23 rfl w.heap.size 3 i0 (.int .i64 0) 1 8 Try.underlying23 hi hz0 hz1 hz2 rfl (by decide) (.slice (some ⟨g4m, 0, none⟩) (m4).length c4m) (m4).length (metCells m4) rfl (kept_owns HRX.out HKX.out) ⟨X.heap.size, 0, none⟩ 1 1 [.int .i64 ci] rfl rfl (fun j u hu => ?_) (fun u hu => ?_) (by unfold maxLen; omega) (by omega) HB2.out ?_))
                      · cases j with
                        | zero =>
                          simp at hu
                          subst hu
                          exact (cell_of_heap HE.out 0)
                        | succ j => simp at hu
                      · simp at hu
                        subst hu
                        rfl
                      intro v' Wv hown hgrow hnil hat
                      obtain ⟨gos, gtape, gout, gsz, gblk⟩ := hgrow
                      rw [HsX.out] at gsz gblk
                      have hnb := HG2.out.n2
                      have hbpl : bp < Wn.heap.size := HG2.out.places.lt
                      have hzx := HZ5.out
                      have hzf := HF2.out.size
                      have HPv : Hid (CellRow 3 Wv bp N (fun a => .int .i64 (placeZ (m4 ++ [c]) a))) := HP5.out.of_block ((gblk bp (by omega) (Ne.symm hnb)).trans (HKX.out.block bp (by omega)))
                      have HFv : Hid (FrmG X3 bp bp (.slice (some ⟨g4m, 0, none⟩) (m4).length c4m) Wv) := HF2.out.trans (Or.inl rfl) ⟨gos.trans (HKX.out.os.trans HT5.out.1), gtape.trans (HKX.out.tape.trans HT5.out.2.1), gout.trans (HKX.out.output.trans HT5.out.2.2), by omega, fun q hq h1 _ h2 => (gblk q (by omega) (Ne.symm h2)).trans ((HKX.out.block q (by omega)).trans (HO5.out q h1))⟩
                      have HMv : Hid (MovedTo X3 (.slice (some ⟨g4m, 0, none⟩) (m4).length c4m) v') := by
                        rcases hat with h | h
                        · exact Or.inl h
                        · exact Or.inr ⟨_, h, by omega⟩
                      have HSv : Hid (SGr w.heap.size bp N (m4 ++ [c]) v' Wv) := by
                        refine ⟨HPv.out, ?_, fun e => ?_, HG2.out.b2⟩
                        · unfold metCells at hown ⊢
                          rw [List.length_append, List.map_append]
                          rw [← Hci.out] at hown
                          exact hown
                        · rcases hat with h | h
                          · exact hnb (h.symm.trans e)
                          · rw [e] at h
                            cases h
                            omega
                      have q6 := HPv.out.cell (i := c) hcN
                      have hpl : placeZ (m4 ++ [c]) c = ((m4).length : Int) := by rw [HPn.out, if_pos rfl]
                      rw [hpl] at q6
                      have HMk := hid (fun w => specMake_calls 0 ((m4).length : Int) w)
                      have HMv2 : Hid (makeZ 0 ((m4).length : Int) = 8 * ((m4).length : Int)) := by
                        have := HSh.out
                        show _ = _
                        unfold makeZ wrap64
                        simp
                        omega
                      rw [HMv2.out] at HMk
                      clear hown hat gos gtape gout gsz gblk hnil hpl hX HKX HE HsX HB2 HRX HP5 HO5 HZ5 HT5 q0 fq hi hz0 hz1 hz2 HMv2
                      go_wp2_with fail
                      refine (HMk.out _).mono ?_
                      rintro e Wm ⟨rfl, rfl⟩
                      go_wp2_with fail
                      go_meet
                      case rel => exact ⟨by rw [← HRi.out], by rw [← HRi.out]; exact HSv.out, HFv.out, HMv.out⟩
                  case rest =>
                    obtain ⟨rfl, HSx, HFx, HMx⟩ := hcut
                    have hbX : bp < X1.heap.size := HS1.out.gr.places.lt
                    have HS2 := hid (HT3.out.tell HSx.out HFx.out HMx.out)
                    have HE5 := hid ((HFx.out.block X1.heap.size (heap_lt HE3'.out) (by omega) (by omega) HNo.out.1).trans HE3'.out)
                    have HN5 : Hid (u9.ownBlock ≠ some X1.heap.size) := by
                      intro e
                      rcases HMx.out with h | ⟨q, h, hl⟩
                      · exact HNo.out.1 (h.symm.trans e)
                      · rw [e] at h
                        cases h
                        have := heap_lt HE3'.out
                        omega
                    have hKt := (Below.refl wc.heap.size wc).alloc (Nat.le_refl _) (.cells #[.int .i64 r.2] 3)
                    have hE : (wc.alloc (.cells #[.int .i64 r.2] 3)).heap[wc.heap.size]? = some (.cells #[.int .i64 r.2] 3) := (MapKept.heap_alloc wc _).1
                    have hsz5 : (wc.alloc (.cells #[.int .i64 r.2] 3)).heap.size = wc.heap.size + 1 := by simp
                    have HKt := hid hKt
                    have HEn := hid hE
                    have Hsz5 := hid hsz5
                    have HBt : Hid (w.heap.size ≤ (wc.alloc (.cells #[.int .i64 r.2] 3)).heap.size) := by have h1 := hKt.size; have h2 := HS2.out.gr.b2; have h3 := HS2.out.gr.places.lt; show _ ≤ _; omega
                    have d1 : wc.cell? ⟨X1.heap.size, 1, none⟩ = some vt := by rw [cell_of_heap HE5.out]; rfl
                    have hlX : X1.heap.size < wc.heap.size := heap_lt HE5.out
                    obtain ⟨i0, hi, hz0, hz1, hz2⟩ := info_parts info_int
                    have hol : o4.length ≤ 20 := by have := HLk.out; have := Hsi.out; omega
                    have hs : Hid (m + 1 - (intOf (.int .i64 (jj + 1))).toNat < m + 1 - (intOf (.int .i64 jj)).toNat) := by show _ < _; have := HQ4.out; simp only [intOf]; omega
                    have hw : Hid (wrap64 (jj + 1) = jj + 1) := by show _ = _; have := HQ4.out; have := Hsi.out; unfold wrap64; omega
                    clear hKt hE hsz5 HSx HFx HMx HT3 HSg h0 h1 h2 h3 h4 h5 h6 h7 h8 h9
                    go_wp2_with (first
                      | (at_builtin; refine wpList_append_own_at _ rfl _ _ 23 rfl w.heap.size 3 i0 (.int .i64 0) 1 8 Try.underlying23 hi hz0 hz1 hz2 rfl (by decide) vt o4.length (wordCells o4) rfl (kept_owns HS2.out.row HKt.out) ⟨wc.heap.size, 0, none⟩ 1 1 [.int .i64 r.2] rfl rfl (fun jq u hu => ?_) (fun u hu => ?_) (by unfold maxLen; omega) (by omega) HBt.out ?_))
                    · cases jq with
                      | zero =>
                        simp at hu
                        subst hu
                        exact (cell_of_heap HEn.out 0)
                      | succ jq => simp at hu
                    · simp at hu
                      subst hu
                      rfl
                    intro v' Wv hown hgrow hnil hat'
                    obtain ⟨-, ad', cm', hv'⟩ := owns_at hown
                    subst hv'
                    have eV := (hgrow.block X1.heap.size (by have := Hsz5.out; omega) (Ne.symm HNo.out.2)).trans ((HKt.out.block X1.heap.size hlX).trans HE5.out)
                    have HS3 : Hid (STl X1 w.heap.size bp N (.slice (some ⟨gm, 0, none⟩) mt.length cm) r.1 u9 (o4 ++ [r.2]) (.slice ad' (o4.length + 1) cm') Wv) := (HS2.out.below HKt.out).push r.2 hown hgrow (by
                      rcases hat' with h | h
                      · exact Or.inl h
                      · exact Or.inr ⟨_, h, by simp⟩)
                    have HN6 : Hid ((Value.slice ad' (o4.length + 1) cm').ownBlock ≠ some X1.heap.size) := by
                      intro e
                      rcases hat' with h | h
                      · exact HNo.out.2 (h.symm.trans e)
                      · rw [e] at h
                        have := Option.some.inj h
                        omega
                    have d2 : Wv.cell? ⟨X1.heap.size, 1, none⟩ = some vt := by rw [cell_of_heap eV]; rfl
                    have f2 := frozen_of_heap eV 1
                    have HS4 := hid (HS3.out.set (Nat.le_refl _) HN5.out HN6.out 1 (.slice ad' (o4.length + 1) cm'))
                    have HE6 : Hid ((Wv.setCell ⟨X1.heap.size, 1, none⟩ (.slice ad' (o4.length + 1) cm')).heap[X1.heap.size]? = some (.cells #[.int .i64 kd, (.slice ad' (o4.length + 1) cm')] 45)) := by simpa [Hid] using set_cells eV 1 (.slice ad' (o4.length + 1) cm')
                    clear hown hgrow hnil hat' HKt HEn HBt hi hz0 hz1 hz2 HS2 eV HS3
                    go_wp2_with fail
                    try rw [hw.out]
                    refine ⟨⟨jj + 1, j + 1, (.slice ad' (o4.length + 1) cm'), rfl, ⟨by have := HQ4.out; push_cast; omega, by omega⟩, ?_, HE6.out, ⟨HN5.out, HN6.out⟩⟩, hs.out⟩
                    rw [HNx4.out]
                    exact HS4.out

                · have hjm : j = m := by have := HQ4.out; have := Hsi.out; omega
                  rw [hjm] at HT
                  obtain ⟨R, hR⟩ : ∃ R, tellsRun ws fz m mt = R := ⟨_, rfl⟩
                  rw [hR] at HT HNx
                  have HRl : Hid (R.2.length = m) := by
                    have e := HM4.out.2.2
                    rw [hjm, hR] at e
                    exact e
                  have HS4 := hid (HS1.out.tells HT.out.gr HT.out.frm HT.out.mv)
                  have d0 : wr.cell? ⟨X1.heap.size, 0, none⟩ = some (.int .i64 kd) := by rw [cell_of_heap HE.out]; rfl
                  have d1 : wr.cell? ⟨X1.heap.size, 1, none⟩ = some vt := by rw [cell_of_heap HE.out]; rfl
                  obtain ⟨tad, tc, hvt⟩ := (owns_at HT.out.row).2
                  subst hvt
                  have hE3 : (wr.alloc (.cells #[.int .i64 kd, .slice tad R.2.length tc] 45)).heap[wr.heap.size]? = some (.cells #[.int .i64 kd, .slice tad R.2.length tc] 45) := (MapKept.heap_alloc wr _).1
                  have hK3 := (Below.refl wr.heap.size wr).alloc (Nat.le_refl _) (.cells #[.int .i64 kd, .slice tad R.2.length tc] 45)
                  have HS5 := hid (HS4.out.below hK3)
                  have HR5 := hid (kept_owns HT.out.row hK3)
                  have HE3 := hid hE3
                  have hsz3 : (wr.alloc (.cells #[.int .i64 kd, .slice tad R.2.length tc] 45)).heap.size = wr.heap.size + 1 := by simp
                  obtain ⟨i0, hi, hz0, hz1, hz2⟩ := info_parts info_obj
                  have hol : ot.length ≤ 8000 := by have := HMk.out.2; have := HSh0.out; have := HLen.out; omega
                  have HB5 : Hid (w.heap.size ≤ (wr.alloc (.cells #[.int .i64 kd, .slice tad R.2.length tc] 45)).heap.size) := by have h1 := HS5.out.gr.b2; have h2 := HS5.out.gr.places.lt; show _ ≤ _; omega
                  have HV5 : Hid (∀ q, (Value.slice tad R.2.length tc).ownBlock = some q → w4.heap.size ≤ q ∧ u9.ownBlock ≠ some q ∧ u14.ownBlock ≠ some q) := fun q e => ⟨Nat.le_trans HS1.out.frm.size (HT.out.o2 q e), HT.out.ap q e, fun e' => by have h1 := ((owns_at' HS1.out.row).1 q e').2; have h2 := HT.out.o2 q e; omega⟩
                  have hs : Hid (N - (intOf (.int .i64 (i3 + 1))).toNat < N - (intOf (.int .i64 i3)).toNat) := by have := HSh0.out; have := HLen.out; show _ < _; simp only [intOf]; omega
                  have hw : Hid (wrap64 (i3 + 1) = i3 + 1) := by show _ = _; have := HSh0.out; have := HLen.out; unfold wrap64; omega
                  clear hK3 hE3 HT HE HNo HS4 hR
                  go_wp2_with (first
                    | (at_builtin; refine wpList_append_own_at _ rfl _ _ 28 rfl w.heap.size 45 i0 (.agg #[.int .i64 0, .slice none 0 0]) 2 32 Try.underlying28 hi hz0 hz1 hz2 rfl (by decide) u14 ot.length (sobjCells ot vs) rfl HS5.out.row ⟨wr.heap.size, 0, none⟩ 1 1 [.int .i64 kd, .slice tad R.2.length tc] rfl rfl (fun jq u hu => ?_) (fun u hu => ?_) (by unfold maxLen; omega) (by omega) HB5.out ?_))
                  · simp at hu
                    rcases hu with rfl | rfl <;> rfl
                  intro v' Wv hown hgrow hnil hat'
                  have HS6 : Hid (SG3 w4 w.heap.size bp N v9 R.1 u9 (ot ++ [(kd, R.2)]) (fun i => if i = ot.length then .slice tad R.2.length tc else vs i) v' Wv) := HS5.out.push (kd, R.2) _ HR5.out HV5.out hown hgrow (by
                    rcases hat' with h | h
                    · exact Or.inl h
                    · exact Or.inr ⟨_, h, by simp⟩)
                  clear hown hgrow hnil hat' HS5 HR5 HE3 HB5 HV5 hi hz0 hz1 hz2 d0 d1
                  go_wp2_with fail
                  try rw [hw.out]
                  refine ⟨⟨i3 + 1, k3 + 1, fun i => if i = ot.length then .slice tad R.2.length tc else vs i, rfl, ⟨by have := HQk.out; push_cast; omega, fun j hj => ?_⟩, ?_⟩, hs.out⟩
                  · rcases Nat.lt_or_ge j k3 with h | h
                    · exact HLs.out j h
                    · have e : j = k3 := by omega
                      rw [e, Hmt.out]
                      exact hkm3
                  · rw [HNx.out]
                    exact HS6.out
            · have hk3 : mt.length ≤ k3 := by have := HQk.out; omega
              have hfz : w4.heap.size ≤ wr.heap.size := HS.out.frm.size
              have HBr : Hid (Below w.heap.size w wr) := HB4.out.trans ⟨HS.out.frm.os, HS.out.frm.tape, HS.out.frm.output, HS.out.frm.size, fun q hq => HS.out.frm.block q (by have := HB4.out.size; omega) (by omega) (by omega) (fun e => by have := (HTo.out.gr.own_lt e).1; omega)⟩
              have HTr : Hid (wr.ownsRow w.heap.size 3 1 v10 T.length (wordCells T)) := owns_of_block HTo.out.row (fun q e => HS.out.frm.block q ((owns_at HTo.out.row).1 q e).2 (by have := HTo.out.o2 q e; omega) (by have := HTo.out.o2 q e; omega) (HTo.out.ap q e))
              have HTl : Hid (T.length = n) := by
                have e := (Met.tells HKo.out (met := []) ⟨List.nodup_nil, fun a ha => by cases ha⟩ HX.out n (by rw [HXn.out]; exact Nat.le_refl _)).2.2
                rw [HTe.out] at e
                exact e
              go_wp2_with fail
              refine bodyPost_ret (v := .tuple #[u14, v10, .bool true]) (by simp [results, Try.results9, go_sem]) rfl ?_
              have hn := HXn.out
              subst hn
              refine ⟨k3, u14, v10, vs, ?_⟩
              rw [HMe.out, HTe.out, Hmt.out, Hot.out]
              refine ⟨HLs.out, hk3, rfl, HS.out.row, HS.out.fld, ?_, HBr.out⟩
              have e := HTr.out
              rw [HTl.out] at e
              exact e
end Go.Proofs.Ytebpgglegnljgaa

namespace Go.Proofs.Ytebpgglegnljgaa
open Go.RowKit

def specRoots (ws S : List Int) (h : HpN) (xs : List Int) : Bool := (List.range xs.length).all (fun k => specLeads ws S h (xs.getD k 0) false)

theorem roots_upto {P : Nat → Bool} {m : Nat} (H : ∀ k, k < m → P k = true) : (List.range m).all P = true := by
  rw [List.all_eq_true]
  exact fun k hk => H k (List.mem_range.1 hk)

theorem roots_not {P : Nat → Bool} {m j : Nat} (hj : j < m) (hf : P j = false) : (List.range m).all P = false := by
  rw [List.all_eq_false]
  exact ⟨j, List.mem_range.2 hj, by simp [hf]⟩

set_option maxHeartbeats 2000000 in
set_option maxRecDepth 100000 in
theorem specRoots_calls (b off cap N : Nat) (ws S : List Int) (h : HpN) (v : Value) (xs : List Int) (w : World) (hN : ws.length = N) (ho : Ordered h N) (hS : specLay ws h = some S)
    (hb : b < w.heap.size) (hw : ∀ k, k < N → w.cell? ⟨b, off + k, none⟩ = some (.int .i64 (ws.getD k 0))) (hv : IntSlice w v xs) (hx : xs.length ≤ 20) :
    Calls Try.prog 36 #[heapV (.slice (some ⟨b, off, none⟩) N cap) h, v] w fun e w' => e = .returned (.bool (specRoots ws S h xs)) ∧ Below w.heap.size w w' := by
  have HBg := hid (fun (X : World) (hX : Below w.heap.size w X) => specBegins_calls b off cap N ws h X hN ho (Nat.lt_of_lt_of_le hb hX.size) (fun k hk => (hX.cell (p := ⟨b, off + k, none⟩) hb).trans (hw k hk)))
  rw [hS] at HBg
  have HO := hid ho
  have HW := hid hw
  have HV := hid hv
  have HNN := hid hN
  obtain ⟨ad, c, rfl, -⟩ := hv
  clear hw hS ho hN
  obtain ⟨g1, g2, g3, g4, g5, g6, g7, g8, g9⟩ := h
  unfold heapV at *
  dsimp only at *
  generalize hR : specRoots ws S ⟨g1, g2, g3, g4, g5, g6, g7, g8, g9⟩ xs = R
  have HR := hid hR
  clear hR
  go_enter Try.func36, Try.ntmps36
  go_wp2_with fail
  have k0 := (Below.refl w.heap.size w).alloc (Nat.le_refl _) (.cells #[.slice (some ⟨b, off, none⟩) N cap, .int .i64 g1, .int .i64 g2, .int .i64 g3, .int .i64 g4, .int .i64 g5, .int .i64 g6, .int .i64 g7, .int .i64 g8, .int .i64 g9] 25)
  refine (HBg.out _ k0).mono ?_
  rintro e W1 ⟨⟨gb, gcap, ok, rfl, hlow, hlt, hh⟩, hb0⟩
  have hH := (HeapBlk.new w (.slice (some ⟨b, off, none⟩) N cap) ⟨g1, g2, g3, g4, g5, g6, g7, g8, g9⟩).below hb0
  have hb1 := k0.trans (hb0.mono k0.size)
  clear hb0 k0
  obtain ⟨S', hS', rfl, hl, hr⟩ := hh.resolve_left (by simp)
  obtain rfl := Option.some.inj hS'
  clear hh hS' HBg
  have HH := hid hH
  have HLd := hid (fun (X : World) (hX : Below W1.heap.size W1 X) (x : Int) => by
    have e := specLeads_calls b off cap gb gcap ws S ⟨g1, g2, g3, g4, g5, g6, g7, g8, g9⟩ x false X (by rw [HNN.out]; exact HO.out) (by rw [HNN.out]; exact hl) (Nat.lt_of_lt_of_le hb (Nat.le_trans hb1.size hX.size)) (fun k hk => (hX.cell (p := ⟨b, off + k, none⟩) (Nat.lt_of_lt_of_le hb hb1.size)).trans ((hb1.cell (p := ⟨b, off + k, none⟩) hb).trans (HW.out k (by rw [← HNN.out]; exact hk)))) (Nat.lt_of_lt_of_le hlt hX.size) (fun k hk => (hX.cell (p := ⟨gb, k, none⟩) hlt).trans (hr.cell (by rw [← hl]; exact hk)))
    rw [HNN.out, hl] at e
    exact e)
  unfold heapV at HLd
  dsimp only at HLd
  have HB1 := hid hb1
  clear hb1 hr hlow hl hH
  go_wp2_with fail
  go_loopw [7] (fun i wr => ∃ k : Nat, i = .int .i64 k ∧ k ≤ xs.length ∧ Hid (∀ j, j < k → specLeads ws S ⟨g1, g2, g3, g4, g5, g6, g7, g8, g9⟩ (xs.getD j 0) false = true) ∧ Hid (Below W1.heap.size W1 wr)) (fun i _ => xs.length - (intOf i).toNat)
  case atStart => exact ⟨0, rfl, Nat.zero_le _, fun j hj => by omega, Below.refl _ _⟩
  case round =>
    obtain ⟨k, rfl, hk, HJ, HB⟩ := hrel
    by_cases hlt2 : (k : Int) < (xs.length : Int)
    · obtain ⟨ad', c', e, hh⟩ := HV.out
      cases e
      obtain ⟨b', o', rfl, hb', hc⟩ := hh.resolve_left (by rintro rfl; simp at hlt2; omega)
      clear hh
      have q0 := (HB.out.cell (p := ⟨b', o' + k, none⟩) (Nat.lt_of_lt_of_le hb' HB1.out.size)).trans ((HB1.out.cell (p := ⟨b', o' + k, none⟩) hb').trans (hc k (by omega)))
      clear hc hb'
      have hH3 := HH.out.below HB.out
      obtain ⟨v0, v1, v2, v3, v4, v5, v6, v7, v8, v9⟩ := hH3.later (B := wr.heap.size) (heap_lt hH3)
      dsimp only at v0 v1 v2 v3 v4 v5 v6 v7 v8 v9
      have q1 : ∀ x : Later wr.heap.size wr, x.w.cell? ⟨b', o' + k, none⟩ = some (.int .i64 (xs.getD k 0)) := fun x => x.cell (block_in q0) q0
      have HL := hid (fun x : Later wr.heap.size wr => HLd.out x.w (HB.out.trans (x.h.mono HB.out.size)) (xs.getD k 0))
      have HX : Hid (∃ y, specLeads ws S ⟨g1, g2, g3, g4, g5, g6, g7, g8, g9⟩ (xs.getD k 0) false = y) := ⟨_, rfl⟩
      clear q0 hH3
      obtain ⟨y, hy⟩ := HX.out
      rw [hy] at HL
      have HY := hid hy
      clear hy HX
      go_wp2_with fail
      refine wp_region_calm wr.heap.size (by kernel_rfl) (by kernel_rfl) ?_
      repeat (go_big_quiet_step (first | (rename_i x; go_at_call 66; refine (HL.out x).mono ?_; rintro e w5 ⟨rfl, hb5⟩; exact ⟨rfl, ⟨w5, x.h.trans (hb5.mono x.h.size)⟩, rfl⟩)))
      refine wpQuiet_nil ?_
      rintro w5 ⟨x, rfl⟩
      have HB3 := hid (HB.out.trans (x.h.mono HB.out.size))
      clear HL q1 v0 v1 v2 v3 v4 v5 v6 v7 v8 v9
      generalize x.w = W3 at *
      cases y with
      | false =>
        go_wp2_with fail
        go_ret
        refine ⟨?_, HB1.out.trans (HB3.out.mono HB1.out.size)⟩
        rw [← HR.out]
        unfold specRoots
        rw [roots_not (j := k) (by omega) HY.out]
        rfl
      | true =>
        go_wp2_with fail
        have hs : xs.length - (intOf (.int .i64 ((k : Int) + 1))).toNat < xs.length - (intOf (.int .i64 (k : Int))).toNat := by simp only [intOf, Int.toNat_natCast]; omega
        refine ⟨⟨k + 1, by push_cast; rfl, by omega, fun j hj => ?_, HB3.out⟩, hs⟩
        by_cases hjk : j = k
        · rw [hjk]
          exact HY.out
        · exact HJ.out j (by omega)
    · obtain rfl : k = xs.length := by omega
      go_wp2_with fail
      go_ret
      refine ⟨?_, HB1.out.trans (HB.out.mono HB1.out.size)⟩
      rw [← HR.out]
      unfold specRoots
      rw [roots_upto HJ.out]
      rfl
end Go.Proofs.Ytebpgglegnljgaa

namespace Go.Proofs.Ytebpgglegnljgaa
open Go.RowKit

theorem touch_same (t r q : Int) : wrap64 (wrap64 (t + r) + q) = wrap64 (t + (r + q)) := by
  unfold wrap64
  omega

theorem clone_row (rg n rc : Nat) (xs : List Int) (X : World) (hl : xs.length = n) (hn : n ≤ 20) (hc : ∀ k, k < n → X.cell? ⟨rg, 0 + k, none⟩ = some (.int .i64 (xs.getD k 0))) :
    Calls Try.prog 43 #[.slice (some ⟨rg, 0, none⟩) n rc] X fun e w' => ∃ g c, e = .returned (.slice (some ⟨g, 0, none⟩) n c) ∧ Hid (CellRow 3 w' g n (intCells xs)) ∧ X.heap.size ≤ g ∧ Below X.heap.size X w' := by
  refine (Try.slices_Clone_int rg 0 n rc xs X (by omega) (by omega) (fun j hj => hc j (by omega))).mono ?_
  rintro e w' ⟨v', rfl, how, hv0, hb⟩
  rw [List.take_of_length_le (by omega)] at how
  obtain ⟨-, hh | ⟨g, cp, cur, rfl, hg, -⟩⟩ := id how
  · exact absurd hh.1 hv0
  obtain ⟨hrow, hlow⟩ := row_of_owns hl how
  exact ⟨g, cp, rfl, hrow, hlow, hb⟩
end Go.Proofs.Ytebpgglegnljgaa

namespace Go.Proofs.Ytebpgglegnljgaa
open Go.RowKit

def objF (ks : Nat → Int) (fv : Nat → Value) (c : Nat) : Value := if c % 2 = 0 then .int .i64 (ks (c / 2)) else fv (c / 2)

theorem objF_kind (ks : Nat → Int) (fv : Nat → Value) (k : Nat) : objF ks fv (k * 2) = .int .i64 (ks k) := by
  unfold objF
  rw [if_pos (by omega), show k * 2 / 2 = k by omega]

theorem objF_fields (ks : Nat → Int) (fv : Nat → Value) (k : Nat) : objF ks fv (k * 2 + 1) = fv k := by
  unfold objF
  rw [if_neg (by omega), show (k * 2 + 1) / 2 = k by omega]

structure ObR (B : Nat) (W : World) (v : Value) (n : Nat) (ks : Nat → Int) (fv : Nat → Value) (ln : Nat → Nat) (F : Nat → Nat → Value) : Prop where
  row : SliceR 45 2 B W v n (objF ks fv)
  fld : ∀ i, i < n → SliceR 3 1 B W (fv i) (ln i) (F i)

theorem ObR.below {B : Nat} {W W' : World} {v : Value} {n : Nat} {ks : Nat → Int} {fv : Nat → Value} {ln : Nat → Nat} {F : Nat → Nat → Value} (o : ObR B W v n ks fv ln F) (h : Below W.heap.size W W') : ObR B W' v n ks fv ln F :=
  ⟨o.row.below h, fun i hi => (o.fld i hi).below h⟩

structure ObA (v : Value) (n : Nat) (fv : Nat → Value) (ln : Nat → Nat) : Prop where
  own : ∀ i, i < n → ln i ≠ 0 → (fv i).ownBlock ≠ v.ownBlock
  two : ∀ i j, i < n → j < n → i ≠ j → ln i ≠ 0 → ln j ≠ 0 → (fv i).ownBlock ≠ (fv j).ownBlock

def ObB (v : Value) (n : Nat) (fv : Nat → Value) (ln : Nat → Nat) (q : Nat) : Prop := (n ≠ 0 ∧ v.ownBlock = some q) ∨ ∃ i, i < n ∧ ln i ≠ 0 ∧ (fv i).ownBlock = some q

theorem ObR.lo {B : Nat} {W : World} {v : Value} {n : Nat} {ks : Nat → Int} {fv : Nat → Value} {ln : Nat → Nat} {F : Nat → Nat → Value} (o : ObR B W v n ks fv ln F) {q : Nat} (h : ObB v n fv ln q) : B ≤ q ∧ q < W.heap.size := by
  rcases h with ⟨h0, e⟩ | ⟨i, hi, h0, e⟩
  · obtain ⟨g, e1, h1, h2⟩ := o.row.block h0
    rw [e1] at e
    cases e
    exact ⟨h1, h2⟩
  · obtain ⟨g, e1, h1, h2⟩ := (o.fld i hi).block h0
    rw [e1] at e
    cases e
    exact ⟨h1, h2⟩

end Go.Proofs.Ytebpgglegnljgaa

namespace Go.Proofs.Ytebpgglegnljgaa
open Go.RowKit

theorem SliceR.congr {t : TypeId} {sz B : Nat} {w : World} {v : Value} {n : Nat} {F G : Nat → Value} (h : SliceR t sz B w v n F) (e : ∀ i, i < n * sz → F i = G i) : SliceR t sz B w v n G := by
  obtain ⟨ad, cap, hv, h⟩ := h
  exact ⟨ad, cap, hv, h.imp id (fun ⟨g, h1, h2, h3⟩ => ⟨g, h1, h2, h3.congr e⟩)⟩

theorem pairs_len (a b : Nat → Value) : ∀ n, ((List.range n).flatMap (fun i => [a i, b i])).length = n * 2
  | 0 => rfl
  | n + 1 => by
    rw [List.range_succ, List.flatMap_append, List.length_append, pairs_len a b n]
    simp
    omega

theorem pairs_at (a b : Nat → Value) : ∀ n c, c < n * 2 → ((List.range n).flatMap (fun i => [a i, b i])).getD c undef = if c % 2 = 0 then a (c / 2) else b (c / 2)
  | 0, c, h => by omega
  | n + 1, c, h => by
    have hl := pairs_len a b n
    rw [List.range_succ, List.flatMap_append, List.getD_eq_getElem?_getD]
    by_cases hc : c < n * 2
    · rw [List.getElem?_append_left (by omega), ← List.getD_eq_getElem?_getD]
      exact pairs_at a b n c hc
    · rw [List.getElem?_append_right (by omega), hl]
      have h2 : c = n * 2 ∨ c = n * 2 + 1 := by omega
      rcases h2 with rfl | rfl
      · rw [if_pos (by omega), show n * 2 - n * 2 = 0 by omega, show n * 2 / 2 = n by omega]
        simp
      · rw [if_neg (by omega), show n * 2 + 1 - n * 2 = 1 by omega, show (n * 2 + 1) / 2 = n by omega]
        simp

theorem words_at (ys : List Int) : ∀ i, i < ys.length → (ys.map (fun x => Value.int .i64 x)).getD i undef = intCells ys i := by
  intro i hi
  unfold intCells
  simp [List.getD, hi]

def kindOf (os : List (Int × List Int)) (i : Nat) : Int := (os.getD i (0, [])).1
def fieldsOf (os : List (Int × List Int)) (i : Nat) : List Int := (os.getD i (0, [])).2

def ToldG (W : World) (os : List (Int × List Int)) (ys : List Int) (ok : Bool) (e : Ending) (w' : World) : Prop :=
  (∃ v u fv, e = .returned (.tuple #[v, u, .bool ok]) ∧ ObR W.heap.size w' v os.length (kindOf os) fv (fun i => (fieldsOf os i).length) (fun i => intCells (fieldsOf os i)) ∧ SliceR 3 1 W.heap.size w' u ys.length (intCells ys)) ∧ Below W.heap.size W w'

def ToldGI (W : World) (os : List (Int × List Int)) (ys : List Int) (ok : Bool) (e : Ending) (w' : World) : Prop :=
  (∃ v u fv, e = .returned (.tuple #[v, u, .bool ok]) ∧ ObR W.heap.size w' v os.length (kindOf os) fv (fun i => (fieldsOf os i).length) (fun i => intCells (fieldsOf os i)) ∧ SliceR 3 1 W.heap.size w' u ys.length (intCells ys) ∧ ObA v os.length fv (fun i => (fieldsOf os i).length) ∧ (∀ q, ObB v os.length fv (fun i => (fieldsOf os i).length) q → ys.length ≠ 0 → u.ownBlock ≠ some q)) ∧ Below W.heap.size W w'

theorem toldG_none {W w' : World} {e : Ending} (h : e = .returned (.tuple #[.slice none 0 0, .slice none 0 0, .bool false]) ∧ Below W.heap.size W w') : ToldG W [] [] false e w' :=
  ⟨⟨_, _, fun _ => .slice none 0 0, h.1, ⟨⟨none, 0, rfl, Or.inl rfl⟩, fun i hi => absurd hi (by simp)⟩, ⟨none, 0, rfl, Or.inl rfl⟩⟩, h.2⟩

theorem toldGI_none {W w' : World} {e : Ending} (h : e = .returned (.tuple #[.slice none 0 0, .slice none 0 0, .bool false]) ∧ Below W.heap.size W w') : ToldGI W [] [] false e w' :=
  ⟨⟨_, _, fun _ => .slice none 0 0, h.1, ⟨⟨none, 0, rfl, Or.inl rfl⟩, fun i hi => absurd hi (by simp)⟩, ⟨none, 0, rfl, Or.inl rfl⟩, ⟨fun i hi => absurd hi (by simp), fun i j hi => absurd hi (by simp)⟩, fun q _ h => absurd rfl h⟩, h.2⟩

def Ends (ws xs : List Int) (K : Nat) : Prop := (∀ j, j < K → j < (graphRun ws j (tellsRun ws xs xs.length []).1).1.length) ∧ (graphRun ws K (tellsRun ws xs xs.length []).1).1.length ≤ K

theorem Ends.one {ws xs : List Int} {K K' : Nat} (h : Ends ws xs K) (h' : Ends ws xs K') : K = K' := by
  rcases Nat.lt_trichotomy K K' with hlt | rfl | hlt
  · have := h'.1 K hlt
    have := h.2
    omega
  · rfl
  · have := h.1 K' hlt
    have := h'.2
    omega

theorem ends_some {ws S xs : List Int} {h : HpN} (ok : OkHeap ws S h) (hx : ∀ i, i < xs.length → Leads ws S (xs.getD i 0)) : ∃ K, Ends ws xs K := by
  have hm := (Met.tells ok (met := []) ⟨List.nodup_nil, fun a ha => by cases ha⟩ hx xs.length (Nat.le_refl _)).1
  have hall : ∀ k, (∀ j, j < k → j < (graphRun ws j (tellsRun ws xs xs.length []).1).1.length) ∨ ∃ K, Ends ws xs K := by
    intro k
    induction k with
    | zero => exact Or.inl (fun j hj => by omega)
    | succ k ih =>
      rcases ih with ih | ih
      · by_cases hk : k < (graphRun ws k (tellsRun ws xs xs.length []).1).1.length
        · refine Or.inl (fun j hj => ?_)
          by_cases hjk : j = k
          · subst hjk
            exact hk
          · exact ih j (by omega)
        · exact Or.inr ⟨k, ih, by omega⟩
      · exact Or.inr ih
  rcases hall (ws.length + 1) with h1 | h1
  · exfalso
    have h2 := (hm.graph ok ws.length (fun j hj => h1 j (by omega))).1.short ok
    have h3 := h1 ws.length (by omega)
    omega
  · exact h1

theorem graph_small {ws S : List Int} {h : HpN} {met : List Nat} (ok : OkHeap ws S h) (m : Met ws S met) : ∀ k, (∀ j, j < k → j < (graphRun ws j met).1.length) → ∀ i, i < k → (fieldsOf (graphRun ws k met).2 i).length ≤ 5
  | 0, _, i, hi => by omega
  | k + 1, hj, i, hi => by
    obtain ⟨h1, -, h3⟩ := m.graph ok k (fun j h => hj j (by omega))
    have hk := hj k (by omega)
    have hn : Node ws S ((graphRun ws k met).1.getD k 0) := h1.nodes _ (by simp [List.getD, hk])
    obtain ⟨hsz, -, hf⟩ := node_at ok hn
    obtain ⟨-, -, h6⟩ := h1.tells ok (xs := fieldsAtZ ws ((graphRun ws k met).1.getD k 0)) (fun i hi => by
      rw [fieldsAtZ_len] at hi
      rw [fieldsAtZ_get hi]
      exact hf i hi) _ (Nat.le_refl _)
    unfold fieldsOf graphRun
    dsimp only
    rw [List.getD_eq_getElem?_getD]
    by_cases hik : i < k
    · rw [List.getElem?_append_left (by omega), ← List.getD_eq_getElem?_getD]
      exact graph_small ok m k (fun j h => hj j (by omega)) i hik
    · rw [List.getElem?_append_right (by omega), show i - (graphRun ws k met).2.length = 0 by omega]
      simp only [List.getElem?_cons_zero, Option.getD_some]
      rw [h6, fieldsAtZ_len]
      omega

theorem toldG_some {ws xs : List Int} {K : Nat} (hK : Ends ws xs K) (hyl : (tellsRun ws xs xs.length []).2.length = xs.length) {W w' : World} {e : Ending} (h : SGraphTold W ws xs e w') : ToldG W (graphRun ws K (tellsRun ws xs xs.length []).1).2 (tellsRun ws xs xs.length []).2 true e w' := by
  obtain ⟨K', vo, vt, vs, h1, h2, rfl, hr, hf, ht, hb⟩ := h
  obtain rfl := hK.one ⟨h1, h2⟩
  generalize (graphRun ws K (tellsRun ws xs xs.length []).1).2 = os at *
  generalize (tellsRun ws xs xs.length []).2 = ys at *
  refine ⟨⟨vo, vt, vs, rfl, ⟨(sliceR_of_owns hr).congr (fun c hc => ?_), fun i hi => (sliceR_of_owns (hf i hi)).congr (fun c hc => ?_)⟩, ?_⟩, hb⟩
  · rw [pairs_at (fun i => .int .i64 (os.getD i (0, [])).1) vs os.length c hc]
    rfl
  · exact words_at _ c (by rw [Nat.mul_one] at hc; exact hc)
  · rw [hyl]
    exact (sliceR_of_owns ht).congr (fun c hc => words_at _ c (by omega))

theorem toldGI_some {ws xs : List Int} {K : Nat} (hK : Ends ws xs K) (hyl : (tellsRun ws xs xs.length []).2.length = xs.length) {W w' : World} {e : Ending} (h : GraphTold W ws xs e w') : ToldGI W (graphRun ws K (tellsRun ws xs xs.length []).1).2 (tellsRun ws xs xs.length []).2 true e w' := by
  obtain ⟨K', vo, gs, gt, h1, h2, rfl, hr, hf, hg, ht, hlt, hne, hb⟩ := h
  obtain rfl := hK.one ⟨h1, h2⟩
  generalize (graphRun ws K (tellsRun ws xs xs.length []).1).2 = os at *
  generalize (tellsRun ws xs xs.length []).2 = ys at *
  refine ⟨⟨vo, _, fun i => .slice (some ⟨gs i, 0, none⟩) (os.getD i (0, [])).2.length (os.getD i (0, [])).2.length, rfl, ⟨(sliceR_of_owns hr).congr (fun c hc => ?_), fun i hi => ?_⟩, ?_, ⟨fun i hi h0 e => ?_, fun i j hi hj hij h0 h0' e => ?_⟩, fun q hq h0 e => ?_⟩, hb⟩
  · unfold objCells
    rw [pairs_at (fun i => .int .i64 (os.getD i (0, [])).1) (fun i => .slice (some ⟨gs i, 0, none⟩) (os.getD i (0, [])).2.length (os.getD i (0, [])).2.length) os.length c hc]
    rfl
  · obtain ⟨f1, f2, -, -⟩ := hf i hi
    exact ⟨_, _, rfl, Or.inr ⟨gs i, rfl, f2, by rw [Nat.mul_one]; exact f1⟩⟩
  · rw [hyl]
    exact ⟨_, _, rfl, Or.inr ⟨gt, rfl, hlt, by rw [Nat.mul_one]; exact ht⟩⟩
  · obtain ⟨-, -, f3, -⟩ := hf i hi
    exact f3 e.symm
  · have e1 : gs i = gs j := Option.some.inj e
    rcases Nat.lt_or_gt_of_ne hij with hlt2 | hlt2
    · exact hg i j hlt2 hj e1
    · exact hg j i hlt2 hi e1.symm
  · have e1 : gt = q := Option.some.inj e
    subst e1
    rcases hq with ⟨-, h3⟩ | ⟨i, hi, -, h3⟩
    · exact hne h3
    · exact (hf i hi).2.2.2 (Option.some.inj h3)

end Go.Proofs.Ytebpgglegnljgaa

namespace Go.Proofs.Ytebpgglegnljgaa
open Go.RowKit

def SameG (ws xs ws' xs' : List Int) : Prop := xs'.length = xs.length ∧ ∃ (P : Nat → Prop) (f : Nat → Nat), Iso P ws ws' f ∧ ∀ i, i < xs.length → WordR P ws ws' f (xs.getD i 0) (xs'.getD i 0)

theorem SameG.told {ws xs ws' xs' : List Int} (h : SameG ws xs ws' xs') : (tellsRun ws' xs' xs'.length []).2 = (tellsRun ws xs xs.length []).2 ∧ ∀ K, Ends ws xs K → Ends ws' xs' K ∧ (graphRun ws' K (tellsRun ws' xs' xs'.length []).1).2 = (graphRun ws K (tellsRun ws xs xs.length []).1).2 := by
  obtain ⟨hl, P, f, iso, hw⟩ := h
  obtain ⟨t1, t2⟩ := tells_same (xs := xs) (xs' := xs') iso (met := []) (fun a ha => by cases ha) xs.length hw
  rw [List.map_nil] at t1
  rw [hl, t1]
  refine ⟨rfl, fun K hK => ?_⟩
  have g := fun k hk => graph_same iso t2 k hk
  refine ⟨⟨fun j hj => ?_, ?_⟩, ?_⟩
  · rw [hl, t1]
    dsimp only
    rw [(g j (fun i hi => hK.1 i (by omega))).1]
    dsimp only
    rw [List.length_map]
    exact hK.1 j hj
  · rw [hl, t1]
    dsimp only
    rw [(g K hK.1).1]
    dsimp only
    rw [List.length_map]
    exact hK.2
  · dsimp only
    rw [(g K hK.1).1]

theorem used_iff {ws S : List Int} {h : HpN} (ok : OkHeap ws S h) (x : Int) : wordOkZ S h x = true ↔ Led S h ws.length False x := by
  rw [used_same ok]
  constructor
  · intro e
    refine ⟨fun hx => ?_, fun hx => ?_⟩
    · unfold specLeads at e
      rw [if_pos hx] at e
      exact of_decide_eq_true e
    · obtain ⟨a1, a2, a3, a4⟩ := specLeads_at hx e
      rcases a4 with ⟨a4, -⟩ | ⟨-, a4⟩
      · exact ⟨a1, a2, a3, Or.inl (ins_iff.2 (by rw [Int.toNat_of_nonneg a1]; exact a4))⟩
      · cases a4
  · intro l
    by_cases hx : x % 8 = 0
    · obtain ⟨l1, l2, l3, l4⟩ := l.2 hx
      have hi := l4.resolve_right id
      refine specLeads_mk hx l1 l2 l3 (Or.inl ⟨?_, used_stays ok l3 (ins_iff.1 hi)⟩)
      have := ins_iff.1 hi
      rw [Int.toNat_of_nonneg l1] at this
      exact this
    · unfold specLeads
      rw [if_pos hx]
      exact decide_eq_true (l.1 hx)

theorem dyn_norm {c : Prop} {S ws : List Int} {h : HpN} (d : Dyn c S ws h) : ∃ S', Dyn (h.scan < h.bottom) S' ws h ∧ (∀ N x, Led S h N False x → Led S' h N False x) ∧ ∀ a, InS h a → S'.getD a 0 = S.getD a 0 := by
  by_cases hb : h.scan < h.bottom
  · exact ⟨S, d.of_iff ⟨fun _ => hb, fun _ => (d.scan hb).2⟩, fun _ _ l => l, fun _ _ => rfl⟩
  · exact ⟨dropS S h, (dyn_drop d hb).of_iff ⟨fun k => k.elim, fun k => hb k⟩, fun _ _ l => l.drop, fun _ hi => dropS_in hi⟩

structure Phase (S ws : List Int) (h : HpN) (c : Prop) (S1 ws1 : List Int) (h1 : HpN) (f : Nat → Nat) : Prop where
  dyn : Dyn c S1 ws1 h1
  len : ws1.length = ws.length
  iso : Iso (Node ws S) ws ws1 f
  node : ∀ a, Node ws S a → Node ws1 S1 (f a)
  word : ∀ x, Pts S ws.length x → WordR (Node ws S) ws ws1 f x x
  num : h1 = { h with bottom := h1.bottom, scan := h1.scan }
  ext : ∀ a : Nat, S.getD a 0 ≠ 0 → S1.getD a 0 = S.getD a 0

theorem Step.phase {S ws : List Int} {h : HpN} {S' ws' : List Int} {h' : HpN} {f : Nat → Nat} (s : Step S ws h S' ws' h' f) : Phase S ws h True S' ws' h' f := ⟨s.dyn, s.len, s.iso, s.node, s.word, s.num, s.ext⟩

theorem phase_same {c : Prop} {S ws : List Int} {h : HpN} (d : Dyn c S ws h) : Phase S ws h c S ws h id := by
  refine ⟨d, rfl, ⟨fun _ _ => rfl, fun a ha i h1 h2 => ?_, fun _ _ _ _ e => e⟩, fun _ ha => ha, fun x hx => d.same hx, rfl, fun _ _ => rfl⟩
  have e := d.head ha.here
  exact d.same (d.flds a ha.here ha.kind i h1 (by omega)).pts

theorem Phase.led {S ws : List Int} {h : HpN} {c : Prop} {S1 ws1 : List Int} {h1 : HpN} {f : Nat → Nat} (p : Phase S ws h c S1 ws1 h1 f) {x : Int} (l : Led S h ws.length False x) : Led S1 h1 ws1.length False x := by
  rw [p.len]
  refine l.mono (fun a ha => by rw [p.ext a ha]; exact ha) (fun a ha => ha.imp (fun k => ?_) id)
  rw [p.num]
  exact k

theorem phase_scans {ws S : List Int} {h : HpN} (ok : OkHeap ws S h) {m : Nat} {s1 : CN} (he : scanRun m ⟨ws, h, 0, 0⟩ = some s1) : ∃ c S1 f, Phase S ws h c S1 s1.ws s1.h f := by
  by_cases hb : h.scan < h.bottom
  · obtain ⟨S1, f, t⟩ := dyn_scans (s := ⟨ws, h, 0, 0⟩) ((dyn_of_ok ok).of_iff ⟨fun _ => trivial, fun _ => hb⟩) m s1 he
    exact ⟨True, S1, f, t.phase⟩
  · have o := ok.ord
    obtain ⟨o1, o2, o3, o4, o5, o6, o7, o8, -⟩ := o
    have e := scanRun_end (s := ⟨ws, h, 0, 0⟩) (k := 0) rfl (by dsimp only; omega) m
    rw [Nat.zero_add, he] at e
    cases e
    exact ⟨_, S, id, phase_same (dyn_of_ok ok)⟩

structure StillOk (ws xs ws' xs' : List Int) (S' : List Int) (h' : HpN) : Prop where
  len : ws'.length = ws.length
  same : SameG ws xs ws' xs'
  ok : OkHeap ws' S' h'
  roots : ∀ i, i < xs'.length → wordOkZ S' h' (xs'.getD i 0) = true

theorem keep_scan {ws S xs : List Int} {h : HpN} (ok : OkHeap ws S h) (hx : ∀ i, i < xs.length → wordOkZ S h (xs.getD i 0) = true) {m : Nat} {s1 : CN} (he : scanRun m ⟨ws, h, 0, 0⟩ = some s1) {t : Int} (ht : 0 ≤ t) : ∃ S', StillOk ws xs s1.ws xs S' { s1.h with touched := t } := by
  obtain ⟨c, S1, f, p⟩ := phase_scans ok he
  obtain ⟨S2, d2, l2, -⟩ := dyn_norm (p.dyn.touch ht)
  have ok2 := ok_of_dyn d2
  refine ⟨S2, p.len, ⟨rfl, _, f, p.iso, fun i hi => p.word _ ((used_iff ok _).1 (hx i hi)).pts⟩, ok2, fun i hi => ?_⟩
  rw [used_iff ok2]
  exact l2 _ _ (p.led ((used_iff ok _).1 (hx i hi)))

theorem flip_moves {ws S : List Int} {h : HpN} {c : Prop} (d : Dyn c S ws h) (hb : ¬ h.scan < h.bottom) (hf : h.flips < 4000000000) {xs : List Int} (hx : ∀ i, i < xs.length → Led S h ws.length False (xs.getD i 0)) {r t : Int} {ys : List Int} {s' : CN} (he : movesRun xs xs.length ⟨ws, flipH h, r, t⟩ = some (ys, s')) : ∃ S' f, MovesT (dropS S h) ⟨ws, flipH h, r, t⟩ xs xs.length ys S' s' f :=
  dyn_moves (s := ⟨ws, flipH h, r, t⟩) (dyn_flip d hb hf) (fun i hi => (hx i hi).drop.pts) xs.length (Nat.le_refl _) ys s' he

theorem keep_flip {ws S xs : List Int} {h : HpN} (ok : OkHeap ws S h) (hx : ∀ i, i < xs.length → wordOkZ S h (xs.getD i 0) = true) (hb : h.scan = h.bottom) (hf : h.flips < 4000000000) {r t : Int} {ys : List Int} {s' : CN} (he : movesRun xs xs.length ⟨ws, flipH h, r, t⟩ = some (ys, s')) {t' : Int} (ht : 0 ≤ t') : ∃ S', StillOk ws xs s'.ws ys S' { s'.h with touched := t' } ∧ s'.h.flips = h.flips + 1 := by
  have d := dyn_of_ok ok
  have o := ok.ord
  obtain ⟨o1, o2, o3, o4, o5, -⟩ := o
  obtain ⟨S1, f, m⟩ := flip_moves d (by omega) hf (fun i hi => (used_iff ok _).1 (hx i hi)) he
  have m1 := m.step
  have m2 := m.done
  dsimp only at m1 m2
  obtain ⟨S2, d2, l2, -⟩ := dyn_norm (m1.dyn.touch ht)
  have ok2 := ok_of_dyn d2
  refine ⟨S2, ⟨m1.len, ⟨m.len, _, f, m1.iso, fun i hi => (m2 i hi).2⟩, ok2, fun i hi => ?_⟩, ?_⟩
  · rw [used_iff ok2, m1.len]
    exact l2 _ _ ((m2 i (by rw [← m.len]; exact hi)).1.mono (fun _ k => k) (fun _ k => k))
  · rw [m1.num]
    unfold flipH
    dsimp only
    unfold wrap64
    omega

structure Made (ws xs : List Int) (h : HpN) (n : Nat) (ys : List Int) (s' : CN) (t : Int) (S' : List Int) : Prop where
  still : StillOk ws xs s'.ws ys S' { s'.h with touched := t }
  word : wordOkZ S' { s'.h with touched := t } (8 * s'.h.top) = true
  size : S'.getD s'.h.top.toNat 0 = n
  flips : s'.h.flips ≤ h.flips + 1

theorem put_made {ws xs S S1 : List Int} {h : HpN} {c : Prop} {s1 s' : CN} {n : Nat} {ys : List Int} {P : Nat → Prop} {f : Nat → Nat} {t : Int} (hn : n ≠ 0) (ht : 0 ≤ t) (hl : s1.ws.length = ws.length) (hy : ys.length = xs.length) (p : PutT c S1 s1 n S s') (iso : Iso P ws s1.ws f) (hp : ∀ a, P a → Node s1.ws S1 (f a)) (hw : ∀ i, i < xs.length → Led S1 s1.h s1.ws.length False (ys.getD i 0) ∧ WordR P ws s1.ws f (xs.getD i 0) (ys.getD i 0)) (hf : s1.h.flips ≤ h.flips + 1) : ∃ S', Made ws xs h n ys s' t S' := by
  obtain ⟨S2, d2, l2, g2⟩ := dyn_norm (p.dyn.touch ht)
  have ok2 := ok_of_dyn d2
  have hlen : s'.ws.length = ws.length := p.len.trans hl
  obtain ⟨o1, o2, o3, o4, o5, o6, o7, o8, o9, o10, o11, o12, o13⟩ := id p.dyn.ord
  have hS : S.getD s'.h.top.toNat 0 ≠ 0 := by rw [p.new]; omega
  have hbe := p.dyn.below hS
  have h3 := p.dyn.three hS
  have hin : InS s'.h s'.h.top.toNat := p.inn
  have led : ∀ x, Led S1 s1.h s1.ws.length False x → Led S2 { s'.h with touched := t } s'.ws.length False x := fun x l => by
    refine l2 _ _ ?_
    rw [p.len]
    refine l.mono (fun a ha => by rw [p.ext a ha]; exact ha) (fun a ha => ha.imp (fun k => ?_) id)
    rw [p.num]
    exact k
  refine ⟨S2, ⟨⟨hlen, ⟨hy, P, _, iso.comp p.iso hp, fun i hi => (hw i hi).2.comp (p.word _ (hw i hi).1.pts)⟩, ok2, fun i hi => ?_⟩, ?_, ?_, ?_⟩⟩
  · rw [used_iff ok2]
    exact led _ (hw i (by omega)).1
  · rw [used_iff ok2]
    refine l2 _ _ ⟨fun k => absurd (by omega) k, fun _ => ?_⟩
    rw [show 8 * s'.h.top / 8 = s'.h.top by omega]
    exact ⟨by omega, by omega, hS, Or.inl hin⟩
  · rw [g2 _ hin]
    exact p.new
  · rw [p.num]
    exact hf

set_option maxHeartbeats 1000000 in
theorem keep_make {ws S xs fs : List Int} {h : HpN} (ok : OkHeap ws S h) (hx : ∀ i, i < xs.length → wordOkZ S h (xs.getD i 0) = true) (hfs : ∀ i, i < fs.length → wordOkZ S h (fs.getD i 0) = true) {kind : Int} (hk : fieldsZ kind = fs.length) (hn : fs.length = 2 ∨ fs.length = 5) (h0 : 0 ≤ kind) (h15 : kind < 15) (hf : h.flips < 4000000000) {m : Nat} {ys : List Int} {s' : CN} (he : makeRun xs fs kind m ⟨ws, h, 0, 0⟩ = some (ys, s')) {t : Int} (ht : 0 ≤ t) : ∃ S', Made ws xs h (1 + fs.length) ys s' t S' := by
  unfold makeRun at he
  have lx := fun i hi => (used_iff ok _).1 (hx i hi)
  have lf := fun i hi => (used_iff ok _).1 (hfs i hi)
  cases h1 : scanRun m ⟨ws, h, 0, 0⟩ with
  | none => rw [h1] at he; cases he
  | some s1 =>
    rw [h1] at he
    dsimp only at he
    obtain ⟨c, S1, f, p⟩ := phase_scans ok h1
    have hfl : s1.h.flips = h.flips := by rw [p.num]
    by_cases hr : s1.h.top - s1.h.bottom < (1 + fs.length : Nat)
    · rw [if_pos hr] at he
      by_cases hb : s1.h.scan = s1.h.bottom
      · rw [if_pos hb] at he
        cases h2 : movesRun xs xs.length { s1 with h := flipH s1.h } with
        | none => rw [h2] at he; cases he
        | some q =>
          obtain ⟨ys', s2⟩ := q
          rw [h2] at he
          dsimp only at he
          cases h3 : movesRun fs fs.length s2 with
          | none => rw [h3] at he; cases he
          | some q3 =>
            obtain ⟨fs', s3⟩ := q3
            rw [h3] at he
            dsimp only at he
            by_cases hr2 : s3.h.top - s3.h.bottom < (1 + fs.length : Nat)
            · rw [if_pos hr2] at he
              cases he
            · rw [if_neg hr2] at he
              cases he
              obtain ⟨S2, f2, m2⟩ := flip_moves p.dyn (by omega) (by omega) (fun i hi => p.led (lx i hi)) h2
              have m2s := m2.step
              have m2d := m2.done
              dsimp only at m2s m2d
              have pf : ∀ i, i < fs.length → Pts S2 s2.ws.length (fs.getD i 0) := fun i hi => by
                rw [m2s.len]
                exact m2s.pts (p.led (lf i hi)).drop.pts
              obtain ⟨S3, f3, m3⟩ := dyn_moves m2s.dyn pf fs.length (Nat.le_refl _) fs' s3 h3
              have hfl' := m3.len
              obtain ⟨S4, pt⟩ := dyn_put (fs := fs') (kind := kind) m3.step.dyn (by rw [hfl']; exact hk) (by rw [hfl']; exact hn) h0 h15 (by rw [hfl']; exact hr2) (fun i hi => by rw [m3.step.len]; exact (m3.done i (by omega)).1)
              rw [hfl'] at pt
              have hnb : ¬ s1.h.scan < s1.h.bottom := by omega
              have cut := p.iso.cut (drop_closed p.dyn hnb)
              refine put_made (by omega) ht (m3.step.len.trans (m2s.len.trans p.len)) m2.len pt ((cut.comp m2s.iso (fun a ha => ha.2)).comp m3.step.iso (fun a ha => m2s.node _ ha.2)) (fun a ha => m3.step.node _ (m2s.node _ ha.2)) (fun i hi => ?_) ?_
              · obtain ⟨l2, w2⟩ := m2d i hi
                refine ⟨by rw [m3.step.len, m2s.len]; exact m3.step.led l2, ?_⟩
                have w1 := p.word _ (lx i hi).pts
                have w1' : WordR (fun a => Node ws S a ∧ Node s1.ws (dropS S1 s1.h) (f a)) ws s1.ws f (xs.getD i 0) (xs.getD i 0) := by
                  refine ⟨w1.1, fun hx8 => ?_⟩
                  obtain ⟨a1, a2, a3⟩ := w1.2 hx8
                  refine ⟨a1, ⟨a2, ?_⟩, a3⟩
                  rw [← a3]
                  exact (dyn_drop p.dyn hnb).now (((p.led (lx i hi)).drop.2 hx8).2.2.1)
                exact (w1'.comp w2).comp (m3.step.word _ (by rw [m2s.len]; exact l2.pts))
              · have e3 : s3.h.flips = s2.h.flips := by rw [m3.step.num]
                have e2 : s2.h.flips = wrap64 (s1.h.flips + 1) := by
                  rw [m2s.num]
                  rfl
                have o := ok.ord
                obtain ⟨o1, o2, o3, o4, o5, -⟩ := o
                have ew : wrap64 (s1.h.flips + 1) = s1.h.flips + 1 := by unfold wrap64; omega
                omega
      · rw [if_neg hb] at he
        cases he
    · rw [if_neg hr] at he
      cases he
      obtain ⟨S4, pt⟩ := dyn_put (fs := fs) (kind := kind) p.dyn hk hn h0 h15 hr (fun i hi => p.led (lf i hi))
      refine put_made (by omega) ht p.len rfl pt p.iso p.node (fun i hi => ⟨p.led (lx i hi), p.word _ (lx i hi).pts⟩) (by omega)

structure ReadT (ws xs : List Int) (q : Nat) (y : Int) (s' : CN) (t : Int) (S' : List Int) : Prop where
  still : StillOk ws xs s'.ws xs S' { s'.h with touched := t }
  word : wordOkZ S' { s'.h with touched := t } y = true
  at_ : s'.ws.getD q 0 = y
  plain : y % 8 ≠ 0 → ws.getD q 0 = y

theorem keep_field {ws S xs : List Int} {h : HpN} (ok : OkHeap ws S h) (hx : ∀ i, i < xs.length → wordOkZ S h (xs.getD i 0) = true) {p i : Nat} (hp : S.getD p 0 ≠ 0) (hi : InS h p) (h1 : 1 ≤ i) (h2 : (i : Int) < S.getD p 0) {y : Int} {s' : CN} (he : fieldZ ⟨ws, h, 0, 0⟩ (p + i) = (some y, s')) {t : Int} (ht : 0 ≤ t) : ∃ S', ReadT ws xs (p + i) y s' t S' ∧ s'.h.flips = h.flips := by
  have lx := fun i hi => (used_iff ok _).1 (hx i hi)
  by_cases hb : h.scan < h.bottom
  · have d : Dyn True S ws h := (dyn_of_ok ok).of_iff ⟨fun _ => trivial, fun _ => hb⟩
    obtain ⟨S1, f, T⟩ := dyn_field (s := ⟨ws, h, 0, 0⟩) d hp hi h1 h2 he
    have t1 := T.step
    have t2 := T.led
    have t3 := T.word
    dsimp only at t1 t2 t3
    have ph := t1.phase
    obtain ⟨S2, d2, l2, -⟩ := dyn_norm (t1.dyn.touch ht)
    have ok2 := ok_of_dyn d2
    refine ⟨S2, ⟨⟨t1.len, ⟨rfl, _, f, t1.iso, fun i hi => t1.word _ (lx i hi).pts⟩, ok2, fun i hi => ?_⟩, ?_, T.at_, fun hy => ?_⟩, ?_⟩
    · rw [used_iff ok2]
      exact l2 _ _ (ph.led (lx i hi))
    · rw [used_iff ok2, t1.len]
      exact l2 _ _ (t2.mono (fun _ k => k) (fun _ k => k))
    · by_cases hw : ws.getD (p + i) 0 % 8 = 0
      · exact absurd (t3.2 hw).1 hy
      · exact (t3.1 hw).symm
    · rw [t1.num]
  · have d := dyn_of_ok ok
    have li := d.inner hb hp hi h1 h2
    have hl : lateZ h (ws.getD (p + i) 0) = false := by
      unfold lateZ
      by_cases hx8 : ws.getD (p + i) 0 % 8 = 0
      · obtain ⟨l1, l2, l3, l4⟩ := li.2 hx8
        have hin := l4.resolve_right id
        unfold InS at hin
        have o := ok.ord
        obtain ⟨o1, o2, o3, o4, -⟩ := o
        rw [decide_eq_true hx8, Bool.true_and, decide_eq_false_iff_not]
        omega
      · rw [decide_eq_false hx8]
        rfl
    unfold fieldZ at he
    dsimp only at he
    rw [if_pos hl] at he
    cases he
    obtain ⟨S2, d2, l2, -⟩ := dyn_norm (d.touch ht)
    have ok2 := ok_of_dyn d2
    refine ⟨S2, ⟨⟨rfl, ⟨rfl, _, id, (phase_same d).iso, fun i hi => (phase_same d).word _ (lx i hi).pts⟩, ok2, fun i hi => ?_⟩, ?_, rfl, fun _ => rfl⟩, rfl⟩
    · rw [used_iff ok2]
      exact l2 _ _ (lx i hi)
    · rw [used_iff ok2]
      exact l2 _ _ li
end Go.Proofs.Ytebpgglegnljgaa

namespace Go.Proofs.Ytebpgglegnljgaa
open Go.RowKit

structure Picked (B : Nat) (p : Nat) (w w' : World) : Prop where
  cell0 : w'.cell? ⟨B, 0, none⟩ = w.cell? ⟨B, 0, none⟩
  cell1 : w'.cell? ⟨B, 1, none⟩ = some (.int .i64 ((p : Int) + 1))
  frozen : w'.frozen? ⟨B, 1, none⟩ = w.frozen? ⟨B, 1, none⟩
  other : ∀ a : Addr, a.block ≠ B → w'.cell? a = w.cell? a
  below : ∀ n, n ≤ B → Below n w w'
  how : w' = w.setCell ⟨B, 1, none⟩ (.int .i64 ((p : Int) + 1)) ∨ w' = (w.setCell ⟨B, 1, none⟩ (.int .i64 ((p : Int) + 1))).drew

theorem picked_set (B p : Nat) (w : World) (h1 : w.cell? ⟨B, 1, none⟩ = some (.int .i64 p)) : Picked B p w (w.setCell ⟨B, 1, none⟩ (.int .i64 ((p : Int) + 1))) where
  cell0 := by simp [go_sem]
  cell1 := World.cell?_setCell_same' _ _ _ (by rw [h1]; rfl)
  frozen := by simp
  other := fun a ha => World.cell?_of_block (w := w) (Below.heap_setCell w _ _ a.block ha)
  below := fun n hn => (Below.refl n w).setCell hn _
  how := Or.inl rfl

theorem picked_drew (B p : Nat) (w : World) (h1 : w.cell? ⟨B, 1, none⟩ = some (.int .i64 p)) : Picked B p w (w.setCell ⟨B, 1, none⟩ (.int .i64 ((p : Int) + 1))).drew where
  cell0 := (picked_set B p w h1).cell0
  cell1 := (picked_set B p w h1).cell1
  frozen := (picked_set B p w h1).frozen
  other := (picked_set B p w h1).other
  below := fun n hn => ((picked_set B p w h1).below n hn).drew
  how := Or.inr rfl

theorem xor_i64 (a b : Nat) (ha : a < 4611686018427387904) (hb : b < 4611686018427387904) :
    bits .xor .i64 (a : Int) (b : Int) = ((a ^^^ b : Nat) : Int) := by
  have hx : a ^^^ b < 2 ^ 62 := Nat.xor_lt_two_pow (by omega) (by omega)
  have h1 : (BitVec.ofInt 64 (a : Int)).toNat = a := by
    rw [BitVec.ofInt_natCast, BitVec.toNat_ofNat]; exact Nat.mod_eq_of_lt (by omega)
  have h2 : (BitVec.ofInt 64 (b : Int)).toNat = b := by
    rw [BitVec.ofInt_natCast, BitVec.toNat_ofNat]; exact Nat.mod_eq_of_lt (by omega)
  show IntKind.i64.wrap ((BitVec.ofInt 64 (a : Int) ^^^ BitVec.ofInt 64 (b : Int)).toNat : Int) = _
  rw [BitVec.toNat_xor, h1, h2, IntKind.wrap_i64]
  omega

def PickPost (B p : Nat) (n : Int) (w : World) (e : Ending) (w' : World) : Prop :=
  (∃ r, e = .returned (.int .i64 r) ∧ 0 ≤ r ∧ (0 < n → r < n)) ∧ Picked B p w w'

set_option maxRecDepth 100000 in
theorem pick_none (B : Nat) (a0 : Option Addr) (len cap : Nat) (p : Nat) (n : Int) (w : World)
    (h0 : w.cell? ⟨B, 0, none⟩ = some (.slice a0 len cap)) (h1 : w.cell? ⟨B, 1, none⟩ = some (.int .i64 p))
    (hfz : w.frozen? ⟨B, 1, none⟩ = false) (hp : p ≤ 1000000) (hn : n < 1 ∨ len = 0) :
    Calls Try.prog 28 #[.pointer (some ⟨B, 0, none⟩), .int .i64 n] w (PickPost B p n w) := by
  have hn' : n < 1 ∨ ((len : Int) == 0) = true := by
    rcases hn with h | h
    · exact Or.inl h
    · exact Or.inr (by simp [h])
  rcases hn' with hn' | hn'
  all_goals
    go_enter Try.func28, Try.ntmps28
    go_wp2
    all_goals
      go_ret
      exact ⟨⟨0, rfl, Int.le_refl _, fun h => h⟩, picked_set B p w h1⟩

set_option maxRecDepth 100000 in
theorem pick_near (B b off : Nat) (len cap : Nat) (p : Nat) (z n : Int) (w : World)
    (h0 : w.cell? ⟨B, 0, none⟩ = some (.slice (some ⟨b, off, none⟩) len cap)) (h1 : w.cell? ⟨B, 1, none⟩ = some (.int .i64 p))
    (hfz : w.frozen? ⟨B, 1, none⟩ = false) (hp : p ≤ 1000000) (hn : 1 ≤ n) (hlt : p < len) (hbB : b ≠ B)
    (hz : w.cell? ⟨b, off + p, none⟩ = some (.int .u8 z)) (hz0 : 0 ≤ z) (hz1 : z ≤ 255) :
    Calls Try.prog 28 #[.pointer (some ⟨B, 0, none⟩), .int .i64 n] w (PickPost B p n w) := by
  have hl : ((len : Int) == 0) = false := by simp; omega
  go_enter Try.func28, Try.ntmps28
  go_wp2
  go_ret
  exact ⟨⟨z % n, rfl, Int.emod_nonneg _ (by omega), fun h => Int.emod_lt_of_pos _ h⟩, picked_set B p w h1⟩

theorem far_sum (z y : Int) (p len : Nat) (hp : p ≤ 1000000) (hz0 : 0 ≤ z) (hz1 : z ≤ 255) (hy0 : 0 ≤ y) (hy1 : y ≤ 255) :
    ∃ x : Nat, x ≤ 1000000000000 ∧ wrap64 (z * 131 + y * 1117 + (p : Int) * 29 + wrap64 (wrap64 ((p : Int) / (len : Int)) * 53)) = (x : Int) := by
  have hq : ((p : Int) / (len : Int)) = ((p / len : Nat) : Int) := by omega
  have hq2 : p / len ≤ p := Nat.div_le_self _ _
  rw [hq]
  generalize p / len = q at hq2
  rw [IntWalk.wrap64_in (q : Int) ⟨by omega, by omega⟩, IntWalk.wrap64_in ((q : Int) * 53) ⟨by omega, by omega⟩, IntWalk.wrap64_in _ ⟨by omega, by omega⟩]
  exact ⟨(z * 131 + y * 1117 + (p : Int) * 29 + (q : Int) * 53).toNat, by omega, by omega⟩

theorem far_nat (x : Nat) (hx : x ≤ 1000000000000) : bits .xor .i64 (x : Int) (wrap64 ((x : Int) / 64)) = ((x ^^^ (x / 64) : Nat) : Int) := by
  rw [show ((x : Int) / 64) = ((x / 64 : Nat) : Int) by omega, IntWalk.wrap64_in _ ⟨by omega, by omega⟩]
  exact xor_i64 _ _ (by omega) (by omega)

theorem far_low (x : Nat) (hx : x ≤ 1000000000000) (n : Int) : 0 ≤ (bits .xor .i64 (x : Int) (wrap64 ((x : Int) / 64))).tmod n := by
  rw [far_nat x hx]
  exact Int.tmod_nonneg _ (Int.natCast_nonneg _)

theorem far_high (x : Nat) (hx : x ≤ 1000000000000) (n : Int) (hn : 0 < n) : (bits .xor .i64 (x : Int) (wrap64 ((x : Int) / 64))).tmod n < n := by
  rw [far_nat x hx]
  exact Int.tmod_lt_of_pos _ hn

set_option maxRecDepth 100000 in
theorem pick_far (B b off : Nat) (len cap : Nat) (p : Nat) (z y n : Int) (w : World)
    (h0 : w.cell? ⟨B, 0, none⟩ = some (.slice (some ⟨b, off, none⟩) len cap)) (h1 : w.cell? ⟨B, 1, none⟩ = some (.int .i64 p))
    (hfz : w.frozen? ⟨B, 1, none⟩ = false) (hp : p ≤ 1000000) (hn : 1 ≤ n) (hl1 : 1 ≤ len) (hlt : len ≤ p) (hbB : b ≠ B)
    (i j : Nat) (hi : ((p : Int)) % (len : Int) = i) (hj : ((p : Int) * 7 + 3) % (len : Int) = j) (hil : i < len) (hjl : j < len)
    (hz : w.cell? ⟨b, off + i, none⟩ = some (.int .u8 z)) (hz0 : 0 ≤ z) (hz1 : z ≤ 255)
    (hy : w.cell? ⟨b, off + j, none⟩ = some (.int .u8 y)) (hy0 : 0 ≤ y) (hy1 : y ≤ 255) :
    Calls Try.prog 28 #[.pointer (some ⟨B, 0, none⟩), .int .i64 n] w (PickPost B p n w) := by
  have hl : ((len : Int) == 0) = false := by simp; omega
  obtain ⟨x, hx, ex⟩ := far_sum z y p len hp hz0 hz1 hy0 hy1
  have hx' : Hid (x ≤ 1000000000000) := hx
  have ex' : Hid (wrap64 (z * 131 + y * 1117 + (p : Int) * 29 + wrap64 (wrap64 ((p : Int) / (len : Int)) * 53)) = (x : Int)) := ex
  clear ex hx
  go_enter Try.func28, Try.ntmps28
  go_wp2
  go_region
  rw [ex'.out]
  go_wp2
  go_ret
  refine ⟨⟨_, rfl, ?_, ?_⟩, picked_drew B p w h1⟩
  · exact far_low x hx'.out n
  · exact far_high x hx'.out n

theorem pick_calls (B : Nat) (a0 : Option Addr) (len cap : Nat) (p : Nat) (n : Int) (w : World)
    (h0 : w.cell? ⟨B, 0, none⟩ = some (.slice a0 len cap)) (h1 : w.cell? ⟨B, 1, none⟩ = some (.int .i64 p))
    (hfz : w.frozen? ⟨B, 1, none⟩ = false) (hp : p ≤ 1000000)
    (hc : 0 < len → ∃ b off, a0 = some ⟨b, off, none⟩ ∧ b ≠ B ∧ ∀ i, i < len → ∃ z, w.cell? ⟨b, off + i, none⟩ = some (.int .u8 z) ∧ 0 ≤ z ∧ z ≤ 255) :
    Calls Try.prog 28 #[.pointer (some ⟨B, 0, none⟩), .int .i64 n] w (PickPost B p n w) := by
  by_cases hn : n < 1 ∨ len = 0
  · exact pick_none B a0 len cap p n w h0 h1 hfz hp hn
  · have hl : 0 < len := by omega
    obtain ⟨b, off, rfl, hbB, hz⟩ := hc hl
    by_cases hlt : p < len
    · obtain ⟨z, hz, hz0, hz1⟩ := hz p hlt
      exact pick_near B b off len cap p z n w h0 h1 hfz hp (by omega) hlt hbB hz hz0 hz1
    · obtain ⟨z, hzc, hz0, hz1⟩ := hz (p % len) (Nat.mod_lt _ hl)
      obtain ⟨y, hyc, hy0, hy1⟩ := hz ((p * 7 + 3) % len) (Nat.mod_lt _ hl)
      exact pick_far B b off len cap p z y n w h0 h1 hfz hp (by omega) hl (by omega) hbB (p % len) ((p * 7 + 3) % len) (by omega) (by first | (push_cast; rfl) | simp)
        (Nat.mod_lt _ hl) (Nat.mod_lt _ hl) hzc hz0 hz1 hyc hy0 hy1
end Go.Proofs.Ytebpgglegnljgaa

namespace Go.Proofs.Ytebpgglegnljgaa
open Go.RowKit

def BytesAt (w : World) (a0 : Option Addr) (len : Nat) : Prop :=
  0 < len → ∃ b off, a0 = some ⟨b, off, none⟩ ∧ b < w.heap.size ∧ ∀ i, i < len → ∃ z, w.cell? ⟨b, off + i, none⟩ = some (.int .u8 z) ∧ 0 ≤ z ∧ z ≤ 255

set_option maxRecDepth 100000 in
theorem ropen_calls (a0 : Option Addr) (len cap : Nat) (w : World) (hlen : len ≤ 1000000000) (hb : len ≤ cap) :
    Calls Try.prog 26 #[.slice a0 len cap] w fun e w' => e = .returned (.pointer (some ⟨w.heap.size, 0, none⟩)) ∧
      ∃ n : Nat, n ≤ len ∧ w' = w.alloc (.cells #[.slice a0 n cap, .int .i64 0] 88) := by
  by_cases h : (2000 : Int) < (len : Int)
  · go_enter Try.func26, Try.ntmps26
    go_wp2
    go_ret
    exact ⟨rfl, 2000, by omega, rfl⟩
  · go_enter Try.func26, Try.ntmps26
    go_wp2
    go_ret
    exact ⟨rfl, len, Nat.le_refl _, rfl⟩

end Go.Proofs.Ytebpgglegnljgaa

namespace Go.Proofs.Ytebpgglegnljgaa
open Go.RowKit

def newHeap (s : Int) : HpN := ⟨s, 0, 0, s, 0, s, 2 * s, 0, 0⟩

def NewHPost (s : Nat) (w : World) (e : Ending) (w' : World) : Prop :=
  (∃ v, e = .returned (.tuple #[heapV v (newHeap s), .bool true]) ∧ SliceR 3 1 w.heap.size w' v (List.replicate (2 * s) (0 : Int)).length (intCells (List.replicate (2 * s) 0))) ∧ Below w.heap.size w w'

theorem zeros_at (n i : Nat) (h : i < n) : (madeCells #[.int .i64 0] n)[i]? = some (intCells (List.replicate n 0) i) := by
  simp [madeCells, h, Nat.mod_one, intCells, List.getD]

theorem new_post (s : Nat) (w : World) (o : Obj) :
    NewHPost s w (.returned (.tuple #[heapV (.slice (some ⟨w.heap.size + 1, 0, none⟩) (2 * s) (2 * s)) (newHeap s), .bool true])) ((w.alloc o).alloc (.cells (madeCells #[.int .i64 0] (2 * s)) 3)) := by
  have hrow := World.rowIs_alloc (w.alloc o) (madeCells #[.int .i64 0] (2 * s)) 3 (intCells (List.replicate (2 * s) 0)) (fun i hi => zeros_at _ _ (by simpa [size_madeCells] using hi))
  have hsz : (madeCells #[(.int .i64 0 : Value)] (2 * s)).size = 2 * s := by rw [size_madeCells]
  rw [hsz] at hrow
  have e1 : (w.alloc o).heap.size = w.heap.size + 1 := by simp
  rw [e1] at hrow
  refine ⟨⟨_, rfl, ?_⟩, ((Below.refl _ _).alloc (Nat.le_refl _) _).alloc (by simp) _⟩
  rw [List.length_replicate]
  exact ⟨_, _, rfl, Or.inr ⟨_, rfl, by omega, _, _, rw_of_row hrow _, by omega, fun i _ => rfl⟩⟩

set_option maxRecDepth 100000 in
theorem specNew_ok (s : Nat) (w : World) (h0 : 20 ≤ s) (h1 : s ≤ 4000) :
    Calls Try.prog 83 #[.int .i64 s] w (NewHPost s w) := by
  have hmk := run_make_row' (P := Try.prog) 23 3 (.int .i64 0) 8 Try.underlying23 info_int rfl .i64 .i64 (2 * s) (by omega) (by omega)
  rw [show ((2 * s : Nat) : Int) = 2 * (s : Int) by omega] at hmk
  go_enter Try.func83, Try.ntmps83
  go_wp2_with fail
  exact bodyPost_ret (v := .tuple #[heapV (.slice (some ⟨w.heap.size + 1, 0, none⟩) (2 * s) (2 * s)) (newHeap s), .bool true]) (by simp [results, Try.results83, go_sem, newHeap, heapV]) rfl (new_post s w _)
end Go.Proofs.Ytebpgglegnljgaa

namespace Go.Proofs.Ytebpgglegnljgaa
open Go.RowKit

structure Rd (B : Nat) (a0 : Option Addr) (n cap q : Nat) (W : World) : Prop where
  blk : W.heap[B]? = some (.cells #[.slice a0 n cap, .int .i64 (q : Int)] 88)
  bytes : 0 < n → ∃ b off, a0 = some ⟨b, off, none⟩ ∧ b < B ∧ ∀ i, i < n → ∃ z, W.cell? ⟨b, off + i, none⟩ = some (.int .u8 z) ∧ 0 ≤ z ∧ z ≤ 255

structure Only (B : Nat) (W W' : World) : Prop where
  os : W'.os = W.os
  tape : W'.tape = W.tape
  output : W'.output = W.output
  size : W'.heap.size = W.heap.size
  block : ∀ k, k ≠ B → W'.heap[k]? = W.heap[k]?

theorem Only.below {B m : Nat} {W W' : World} (o : Only B W W') (h : m ≤ B) : Below m W W' := ⟨o.os, o.tape, o.output, Nat.le_of_eq o.size.symm, fun k hk => o.block k (by omega)⟩

structure Grw (B : Nat) (w W : World) : Prop where
  os : W.os = w.os
  tape : W.tape = w.tape
  output : W.output = w.output
  size : w.heap.size ≤ W.heap.size
  block : ∀ k, k < w.heap.size → k ≠ B → W.heap[k]? = w.heap[k]?

theorem Grw.refl (B : Nat) (w : World) : Grw B w w := ⟨rfl, rfl, rfl, Nat.le_refl _, fun _ _ _ => rfl⟩

theorem Grw.step {B : Nat} {w W W' : World} (g : Grw B w W) (h : Below w.heap.size W W') : Grw B w W' := ⟨h.os.trans g.os, h.tape.trans g.tape, h.output.trans g.output, Nat.le_trans g.size h.size, fun k hk hB => (h.block k hk).trans (g.block k hk hB)⟩

theorem Grw.keep {B : Nat} {w W W' : World} (g : Grw B w W) (h : Below W.heap.size W W') : Grw B w W' := g.step (h.mono g.size)

theorem Grw.only {B : Nat} {w W W' : World} (g : Grw B w W) (o : Only B W W') : Grw B w W' := ⟨o.os.trans g.os, o.tape.trans g.tape, o.output.trans g.output, by rw [o.size]; exact g.size, fun k hk hB => (o.block k hB).trans (g.block k hk hB)⟩

theorem Grw.trans {B : Nat} {w W W' : World} (g : Grw B w W) (h : Grw B W W') : Grw B w W' := ⟨h.os.trans g.os, h.tape.trans g.tape, h.output.trans g.output, Nat.le_trans g.size h.size, fun k hk hB => (h.block k (Nat.lt_of_lt_of_le hk g.size) hB).trans (g.block k hk hB)⟩

theorem Grw.below {B m : Nat} {w W : World} (g : Grw B w W) (h : m ≤ B) (h2 : m ≤ w.heap.size) : Below m w W := ⟨g.os, g.tape, g.output, g.size, fun k hk => g.block k (by omega) (by omega)⟩

theorem Rd.same {B : Nat} {a0 : Option Addr} {n cap q : Nat} {W W' : World} (r : Rd B a0 n cap q W) (e : ∀ k, k ≤ B → W'.heap[k]? = W.heap[k]?) : Rd B a0 n cap q W' := by
  refine ⟨(e B (Nat.le_refl _)).trans r.blk, fun hn => ?_⟩
  obtain ⟨b, off, ea, hb, hz⟩ := r.bytes hn
  refine ⟨b, off, ea, hb, fun i hi => ?_⟩
  obtain ⟨z, hz, h1⟩ := hz i hi
  exact ⟨z, (World.cell?_of_block (a := ⟨b, off + i, none⟩) (e b (by omega))).trans hz, h1⟩

theorem rd_picks {B : Nat} {a0 : Option Addr} {n cap q : Nat} {W : World} (h : Rd B a0 n cap q W) (hq : q ≤ 100000) (k : Int) (hk : 0 < k) :
    Calls Try.prog 28 #[.pointer (some ⟨B, 0, none⟩), .int .i64 k] W fun e W' => ∃ m : Int, e = .returned (.int .i64 m) ∧ 0 ≤ m ∧ m < k ∧ Rd B a0 n cap (q + 1) W' ∧ Only B W W' := by
  have hc0 := cell_of_heap h.blk 0
  have hc1 := cell_of_heap h.blk 1
  refine (pick_calls B a0 n cap q k W (by simpa using hc0) (by simpa using hc1) (frozen_of_heap h.blk 1) (by omega) (fun hl => ?_)).mono ?_
  · obtain ⟨b, off, ea, hb, hz⟩ := h.bytes hl
    exact ⟨b, off, ea, by omega, hz⟩
  · rintro e W' ⟨⟨r, rfl, hr0, hr1⟩, hP⟩
    have hw := hP.how
    have hs : W'.heap.size = W.heap.size := by rcases hw with rfl | rfl <;> simp [World.setCell, World.drew]
    have ho : ∀ q, q ≠ B → W'.heap[q]? = W.heap[q]? := fun q hq => by
      rcases hw with rfl | rfl
      · exact Below.heap_setCell W ⟨B, 1, none⟩ _ q hq
      · exact Below.heap_setCell W ⟨B, 1, none⟩ _ q hq
    refine ⟨r, rfl, hr0, hr1 hk, ⟨?_, fun hl => ?_⟩, ⟨by rcases hw with rfl | rfl <;> rfl, by rcases hw with rfl | rfl <;> rfl, by rcases hw with rfl | rfl <;> rfl, hs, ho⟩⟩
    · rcases hw with rfl | rfl
      · simp [World.setCell, Array.getElem?_modify, h.blk]
      · simp [World.setCell, World.drew, Array.getElem?_modify, h.blk]
    · obtain ⟨b, off, ea, hb, hz⟩ := h.bytes hl
      refine ⟨b, off, ea, hb, fun i hi => ?_⟩
      obtain ⟨z, hz, h1⟩ := hz i hi
      exact ⟨z, (World.cell?_of_block (a := ⟨b, off + i, none⟩) (ho b (by omega))).trans hz, h1⟩

structure Pl where
  w0 : World
  B : Nat
  a0 : Option Addr
  n : Nat
  cap : Nat
  bm : Nat
  bw : Nat
  cp : Nat
  g : Nat
  N : Nat

structure Sw (p : Pl) (q : Nat) (ws : List Int) (h : HpN) (full : Bool) (rs : List Int) (W : World) : Prop where
  rd : Rd p.B p.a0 p.n p.cap q W
  wk : WkBlk W p.bm (.slice (some ⟨p.bw, 0, none⟩) p.N p.cp) h h.touched full
  row : CellRow 3 W p.bw p.N (intCells ws)
  len : ws.length = p.N
  rt : CellRow 3 W p.g 4 (intCells rs)
  rl : rs.length = 4
  o1 : p.w0.heap.size ≤ p.bm
  o2 : p.w0.heap.size ≤ p.bw
  o3 : p.w0.heap.size ≤ p.g
  n1 : p.bm ≠ p.bw
  n2 : p.bm ≠ p.g
  n3 : p.bw ≠ p.g
  low : p.B < p.w0.heap.size
  below : Grw p.B p.w0 W

theorem Sw.same {p : Pl} {q : Nat} {ws : List Int} {h : HpN} {full : Bool} {rs : List Int} {W W' : World} (s : Sw p q ws h full rs W) (e : ∀ k, k < W.heap.size → W'.heap[k]? = W.heap[k]?) (hb : Grw p.B p.w0 W') : Sw p q ws h full rs W' := by
  have k1 := heap_lt s.wk
  have k2 := s.row.lt
  have k3 := s.rt.lt
  have k4 := heap_lt s.rd.blk
  exact ⟨s.rd.same (fun k hk => e k (by omega)), (e _ k1).trans s.wk, s.row.of_block (e _ k2), s.len, s.rt.of_block (e _ k3), s.rl, s.o1, s.o2, s.o3, s.n1, s.n2, s.n3, s.low, hb⟩

theorem Sw.keep {p : Pl} {q : Nat} {ws : List Int} {h : HpN} {full : Bool} {rs : List Int} {W W' : World} (s : Sw p q ws h full rs W) (hb : Below W.heap.size W W') : Sw p q ws h full rs W' :=
  s.same (fun k hk => hb.block k hk) (s.below.keep hb)

theorem Sw.pick {p : Pl} {q : Nat} {ws : List Int} {h : HpN} {full : Bool} {rs : List Int} {W : World} (s : Sw p q ws h full rs W) (hq : q ≤ 100000) (k : Int) (hk : 0 < k) :
    Calls Try.prog 28 #[.pointer (some ⟨p.B, 0, none⟩), .int .i64 k] W fun e W' => ∃ m : Int, e = .returned (.int .i64 m) ∧ 0 ≤ m ∧ m < k ∧ Sw p (q + 1) ws h full rs W' ∧ Only p.B W W' := by
  refine (rd_picks s.rd hq k hk).mono ?_
  rintro e W' ⟨m, rfl, h0, h1, hr, ho⟩
  have := s.o1
  have := s.o2
  have := s.o3
  have := s.low
  exact ⟨m, rfl, h0, h1, ⟨hr, (ho.block _ (by omega)).trans s.wk, s.row.of_block (ho.block _ (by omega)), s.len, s.rt.of_block (ho.block _ (by omega)), s.rl, s.o1, s.o2, s.o3, s.n1, s.n2, s.n3, s.low, s.below.only ho⟩, ho⟩

theorem Sw.blocks {p : Pl} {q : Nat} {ws : List Int} {h : HpN} {full : Bool} {rs : List Int} {W W' : World} (s : Sw p q ws h full rs W) (e : ∀ k, k ≤ p.B ∨ k = p.bm ∨ k = p.bw ∨ k = p.g → W'.heap[k]? = W.heap[k]?) (hb : Grw p.B p.w0 W') : Sw p q ws h full rs W' :=
  ⟨s.rd.same (fun k hk => e k (Or.inl hk)), (e _ (Or.inr (Or.inl rfl))).trans s.wk, s.row.of_block (e _ (Or.inr (Or.inr (Or.inl rfl)))), s.len, s.rt.of_block (e _ (Or.inr (Or.inr (Or.inr rfl)))), s.rl, s.o1, s.o2, s.o3, s.n1, s.n2, s.n3, s.low, hb⟩

theorem Sw.lt {p : Pl} {q : Nat} {ws : List Int} {h : HpN} {full : Bool} {rs : List Int} {W : World} (s : Sw p q ws h full rs W) : p.B < W.heap.size ∧ p.bm < W.heap.size ∧ p.bw < W.heap.size ∧ p.g < W.heap.size := ⟨heap_lt s.rd.blk, heap_lt s.wk, s.row.lt, s.rt.lt⟩

theorem Sw.beside {p p2 : Pl} {q q' : Nat} {ws ws2 : List Int} {h h2 : HpN} {full full2 : Bool} {rs rs2 : List Int} {W W' : World} (s2 : Sw p2 q ws2 h2 full2 rs2 W) (s : Sw p q' ws h full rs W') (o : Only p.B W W') (e1 : p2.B = p.B) (e2 : p2.a0 = p.a0) (e3 : p2.n = p.n) (e4 : p2.cap = p.cap) : Sw p2 q' ws2 h2 full2 rs2 W' := by
  have := s2.o1
  have := s2.o2
  have := s2.o3
  have := s2.low
  refine ⟨by rw [e1, e2, e3, e4]; exact s.rd, (o.block _ (by omega)).trans s2.wk, s2.row.of_block (o.block _ (by omega)), s2.len, s2.rt.of_block (o.block _ (by omega)), s2.rl, s2.o1, s2.o2, s2.o3, s2.n1, s2.n2, s2.n3, s2.low, s2.below.only (by rw [e1]; exact o)⟩

theorem Sw.grown {p : Pl} {q M : Nat} {ws : List Int} {h : HpN} {full : Bool} {rs : List Int} {W W' : World} {row : Option Nat} (s : Sw p q ws h full rs W) (hM : p.B < M ∧ p.bm < M ∧ p.bw < M ∧ p.g < M) (hg : W.grownBy W' row) (hr : ∀ k, row = some k → M ≤ k) : Sw p q ws h full rs W' := by
  obtain ⟨k1, k2, k3, k4⟩ := s.lt
  have ho := s.o1
  refine s.blocks (fun k hk => ?_) (s.below.step ⟨hg.os, hg.tape, hg.output, hg.size, fun k hk => hg.block k (by omega) (fun e => by have := hr k e.symm; omega)⟩)
  have hkM : k < M := by rcases hk with hk | hk | hk | hk <;> omega
  have hkW : k < W.heap.size := by rcases hk with hk | hk | hk | hk <;> omega
  exact hg.block k hkW (fun e => by have := hr k e.symm; omega)

theorem own_sl {W : World} {B : Nat} {e : TypeId} {sz : Nat} {v : Value} {n : Nat} {xs : List Value} (h : W.ownsRow B e sz v n xs) : ∃ ad c, v = .slice ad n c := by
  obtain ⟨-, ⟨rfl, h0⟩ | ⟨g', cap, cur, rfl, -⟩⟩ := h
  · exact ⟨none, 0, by rw [h0]⟩
  · exact ⟨_, _, rfl⟩

theorem own_only {W W' : World} {B M : Nat} {e : TypeId} {sz : Nat} {v : Value} {n : Nat} {xs : List Value} (h : W.ownsRow M e sz v n xs) (o : Only B W W') (hB : B < M) : W'.ownsRow M e sz v n xs := by
  obtain ⟨h0, ⟨rfl, h1⟩ | ⟨g, cap, cur, rfl, hg, hc, hr⟩⟩ := h
  · exact ⟨h0, Or.inl ⟨rfl, h1⟩⟩
  · exact ⟨h0, Or.inr ⟨g, cap, cur, rfl, hg, (o.block g (by omega)).trans hc, hr⟩⟩

theorem cell_one_new (W : World) (x : Int) (j : Nat) (u : Value) (h : [Value.int .i64 x][j]? = some u) : (W.alloc (.cells #[.int .i64 x] 3)).cell? ((⟨W.heap.size, 0, none⟩ : Addr).add j) = some u := by
  have hj : j = 0 := by
    have := (List.getElem?_eq_some_iff.1 h).1
    simp at this
    exact this
  subst hj
  simp at h
  subst h
  simp [Addr.add, go_sem]

theorem Sw.worker {p : Pl} {q : Nat} {ws : List Int} {h : HpN} {full : Bool} {rs : List Int} {W : World} (s : Sw p q ws h full rs W) (h0 : 0 ≤ h.touched) (h1 : h.touched < 9223372036854775808) : Wk W p.bm p.bw p.N p.cp ⟨ws, h, 0, 0⟩ full W := by
  refine ⟨?_, s.row, s.len, s.n1, Frm.refl _ _ _⟩
  have e : touchZ ⟨ws, h, 0, 0⟩ = h.touched := by
    unfold touchZ wrap64
    dsimp only
    omega
  rw [e]
  exact s.wk

theorem Sw.worked {p : Pl} {q : Nat} {ws : List Int} {h : HpN} {full : Bool} {rs : List Int} {W W' : World} (s : Sw p q ws h full rs W) {s' : CN} {full' : Bool} {rs' : List Int} (k : Wk W' p.bm p.bw p.N p.cp s' full' W') (r : CellRow 3 W' p.g 4 (intCells rs')) (hl : rs'.length = 4) (hr : ∀ k, k ≤ p.B → W'.heap[k]? = W.heap[k]?) (hb : Grw p.B p.w0 W') : Sw p q s'.ws { s'.h with touched := touchZ s' } full' rs' W' :=
  ⟨s.rd.same hr, k.blk, k.row, k.len, r, hl, s.o1, s.o2, s.o3, s.n1, s.n2, s.n3, s.low, hb⟩

theorem getD_setN (S : List Int) (p a : Nat) (x : Int) (hp : p < S.length) : (S.set p x).getD a 0 = if a = p then x else S.getD a 0 := by
  rw [getD_set]
  by_cases e : a = p
  · rw [if_pos ⟨e, hp⟩, if_pos e]
  · rw [if_neg (by omega), if_neg e]

theorem Sw.root {p : Pl} {q : Nat} {ws : List Int} {h : HpN} {full : Bool} {rs : List Int} {W : World} (s : Sw p q ws h full rs W) {k : Nat} (hk : k < 4) (x : Int) : Sw p q ws h full (rs.set k x) (W.setCell ⟨p.g, k, none⟩ (.int .i64 x)) := by
  have e : ∀ j, j ≠ p.g → (W.setCell ⟨p.g, k, none⟩ (.int .i64 x)).heap[j]? = W.heap[j]? := fun j hj => Below.heap_setCell W ⟨p.g, k, none⟩ _ j hj
  have := s.o3
  have := s.n2
  have := s.n3
  have := s.low
  have hl := s.rl
  refine ⟨s.rd.same (fun j hj => e j (by omega)), (e _ s.n2).trans s.wk, s.row.of_block (e _ s.n3), s.len, ?_, by rw [List.length_set]; exact hl, s.o1, s.o2, s.o3, s.n1, s.n2, s.n3, s.low, s.below.step ((Below.refl _ _).setCell (show p.w0.heap.size ≤ p.g from s.o3) _)⟩
  obtain ⟨N, f, hr, h1, h2⟩ := s.rt
  refine ⟨N, _, hr.set k _, h1, fun i hi => ?_⟩
  unfold intCells
  rw [getD_setN _ _ _ _ (by omega)]
  by_cases e : i = k
  · rw [if_pos e, if_pos e]
  · rw [if_neg e, if_neg e]
    exact h2 i hi

structure Gd (ws : List Int) (h : HpN) (rs : List Int) (k : Nat) : Prop where
  ok : ∃ S, OkHeap ws S h ∧ ∀ i, i < rs.length → wordOkZ S h (rs.getD i 0) = true
  fl : h.flips ≤ k
  tc : h.touched ≤ 300000 * k

theorem fieldsZ_kind {k : Int} (h0 : 1 ≤ k) (h1 : k ≤ 8) : (fieldsZ k = 2 ∨ fieldsZ k = 5) := by
  have h : k = 1 ∨ k = 2 ∨ k = 3 ∨ k = 4 ∨ k = 5 ∨ k = 6 ∨ k = 7 ∨ k = 8 := by omega
  rcases h with rfl | rfl | rfl | rfl | rfl | rfl | rfl | rfl <;> decide

theorem make_count {ws S rs fs ys : List Int} {h : HpN} {kind : Int} {m : Nat} {s' : CN} (ok : OkHeap ws S h) (hr : ∀ i, i < rs.length → wordOkZ S h (rs.getD i 0) = true) (hf : ∀ i, i < fs.length → wordOkZ S h (fs.getD i 0) = true) (hl : rs.length ≤ 20) (_hn : fs.length = 2 ∨ fs.length = 5) (he : makeRun rs fs kind m ⟨ws, h, 0, 0⟩ = some (ys, s')) : 0 ≤ s'.r + s'.t ∧ s'.r + s'.t ≤ 150000 ∧ s'.h.touched = h.touched := by
  unfold makeRun at he
  cases h1 : scanRun m ⟨ws, h, 0, 0⟩ with
  | none => rw [h1] at he; cases he
  | some s1 =>
    rw [h1] at he
    dsimp only at he
    have c := scanRun_scn (scn_start ok) m s1 h1
    have mv := mvs_scanned ok h1
    obtain ⟨c0, S1, f, p⟩ := phase_scans ok h1
    have ht : s1.h.touched = h.touched := by rw [p.num]
    have pk : ∀ (fs : List Int) (s : CN), (putZ kind fs s).r = s.r ∧ (putZ kind fs s).t = s.t + 1 + fs.length ∧ (putZ kind fs s).h.touched = s.h.touched := fun fs s => by
      unfold putZ
      obtain ⟨-, k2, k3, k4⟩ := writesRun_keeps fs (s.h.top - (1 + fs.length : Nat)).toNat (headZ kind (1 + fs.length) (s.h.top - (1 + fs.length : Nat)).toNat s) fs.length
      rw [k2, k3, k4]
      exact ⟨rfl, rfl, rfl⟩
    have o1 := c.nums.s0
    have o2 := c.nums.s1
    have o4 := c.nums.to
    have o5 := c.nums.b0
    have o6 := c.nums.bt
    have o7 := c.nums.te
    have o8 := c.row.le
    have o9 := c.sc0
    by_cases hr1 : s1.h.top - s1.h.bottom < (1 + fs.length : Nat)
    · rw [if_pos hr1] at he
      by_cases hb : s1.h.scan = s1.h.bottom
      · rw [if_pos hb] at he
        cases h2 : movesRun rs rs.length { s1 with h := flipH s1.h } with
        | none => rw [h2] at he; cases he
        | some q =>
          obtain ⟨rs', s2⟩ := q
          rw [h2] at he
          dsimp only at he
          cases h3 : movesRun fs fs.length s2 with
          | none => rw [h3] at he; cases he
          | some q3 =>
            obtain ⟨fs', s3⟩ := q3
            rw [h3] at he
            dsimp only at he
            by_cases hr2 : s3.h.top - s3.h.bottom < (1 + fs.length : Nat)
            · rw [if_pos hr2] at he
              cases he
            · rw [if_neg hr2] at he
              cases he
              obtain ⟨m2, l2, -⟩ := movesRun_mvs mv (fun i hi => used_aim_any ok (hr i hi) _) rs.length (Nat.le_refl _) _ s2 h2
              obtain ⟨m3, l3, -⟩ := movesRun_mvs m2 (fun i hi => used_aim_any ok (hf i hi) _) fs.length (Nat.le_refl _) _ s3 h3
              obtain ⟨k1, k2, k3⟩ := pk fs' s3
              have e1 := m3.r0
              have e2 := m3.r1
              have e3 := m3.t0
              have e4 := m3.t1
              have e5 := m3.nums.bt
              have e6 := m3.nums.te
              have e7 := m3.nums.to
              have e8 := m3.nums.s1
              have hnb : ¬ s1.h.scan < s1.h.bottom := by omega
              have tt : ∀ (xs : List Int) (s : CN) k (ys : List Int) (s' : CN), movesRun xs k s = some (ys, s') → s'.h.touched = s.h.touched := fun xs s k => by
                induction k with
                | zero => intro ys s' hh; cases hh; rfl
                | succ k ih =>
                  intro ys s' hh
                  unfold movesRun at hh
                  cases g1 : movesRun xs k s with
                  | none => rw [g1] at hh; cases hh
                  | some r =>
                    obtain ⟨zs, z⟩ := r
                    rw [g1] at hh
                    dsimp only at hh
                    have i1 := ih zs z g1
                    cases g2 : moveZ z (zs.getD k 0) with
                    | mk o z2 =>
                      rw [g2] at hh
                      cases o with
                      | none => cases hh
                      | some y =>
                        cases hh
                        have : (moveZ z (zs.getD k 0)).2.h.touched = z.h.touched := by
                          unfold moveZ
                          split
                          · rfl
                          · split
                            · rfl
                            · split <;> rfl
                        rw [g2] at this
                        exact this.trans i1
              have t3 := tt _ _ _ _ _ h3
              have t2 := tt _ _ _ _ _ h2
              refine ⟨by omega, by push_cast at e2; omega, ?_⟩
              rw [k3, t3, t2]
              exact ht
      · rw [if_neg hb] at he
        cases he
    · rw [if_neg hr1] at he
      cases he
      obtain ⟨k1, k2, k3⟩ := pk fs s1
      have e1 := c.r0
      have e2 := c.r1
      have e3 := c.t0
      have e4 := c.t1
      exact ⟨by omega, by omega, k3.trans ht⟩

theorem field_count {ws : List Int} {h : HpN} {q N : Nat} (hm : MoveOk ws h N (ws.getD q 0)) : 0 ≤ (fieldZ ⟨ws, h, 0, 0⟩ q).2.r + (fieldZ ⟨ws, h, 0, 0⟩ q).2.t ∧ (fieldZ ⟨ws, h, 0, 0⟩ q).2.r + (fieldZ ⟨ws, h, 0, 0⟩ q).2.t ≤ 100 ∧ (fieldZ ⟨ws, h, 0, 0⟩ q).2.h.touched = h.touched ∧ (fieldZ ⟨ws, h, 0, 0⟩ q).2.h.flips = h.flips := by
  unfold fieldZ
  dsimp only
  cases hl : lateZ h (ws.getD q 0) with
  | false =>
    rw [if_pos rfl]
    dsimp only
    exact ⟨by omega, by omega, rfl, rfl⟩
  | true =>
    rw [if_neg (by decide)]
    obtain ⟨-, h2⟩ := hm hl
    unfold moveZ
    dsimp only
    rw [hl, if_neg (by decide)]
    split
    · rename_i o y s2 e
      split at e
      · cases e
        dsimp only
        exact ⟨by omega, by omega, rfl, rfl⟩
      · rename_i hk
        have h3 := (h2 hk).1
        split at e
        · cases e
          dsimp only
          exact ⟨by omega, by omega, rfl, rfl⟩
        · cases e
    · rename_i o s2 e
      split at e
      · cases e
      · split at e
        · cases e
        · cases e
          dsimp only
          exact ⟨by omega, by omega, rfl, rfl⟩
end Go.Proofs.Ytebpgglegnljgaa

namespace Go.Proofs.Ytebpgglegnljgaa
open Go.RowKit
section
variable {P : Program} {l0 : List Oper} {Q : Exit → Act → World → Prop} {S : World → Prop}

theorem pick_begin {id n : Nat} {ls : Array Bool} {a : Act} {w : World} (hm : P.follows .mixedOrders = true) (hn : l0.length = n) (hl : Array.replicate l0.length false = ls) (h : wpAnyH P .any l0.toArray (NoPanic Q) S n ls a w.drew) : (Code.region id l0.toArray true).wp P Q a w := by
  refine wp_region_noPanic (wp_region_held (S := S) hm ?_)
  subst hn
  subst hl
  simpa using h

theorem pick_op {i n : Nat} {o : Oper} {v : Value} {ls ls' : Array Bool} {a a' : Act} {w : World} (hs : Region.noSelect l0.toArray = true) (ho : l0[i]? = some o) (hf : Region.free .any l0.toArray ls i = true) (hr : (Region.ready .any l0.toArray ls).contains i = true) (hl : ls.setIfInBounds i true = ls')
    (hw : Region.wanted o (yielded l0.toArray a.tmps) = true) (hy : ∀ w', S w' → (execOp a.eval o).run P w' = .ok (.value v) w') (hS : S w) (hput : a.put o.dst v = a') (h : wpAnyH P .any l0.toArray (NoPanic Q) S n ls' a' w) : wpAnyH P .any l0.toArray (NoPanic Q) S (n + 1) ls a w := by
  subst hl
  subst hput
  exact wpAnyH_take (v := v) (by simpa using ho) hs hf hr (fun c a w h => h) (Or.inl ⟨hw, hy⟩) hS h

theorem pick_make {i n : Nat} {o : Oper} {v : Value} {ls ls' : Array Bool} {a a' : Act} {w w1 : World} (ho : l0[i]? = some o) (hr : (Region.ready .any l0.toArray ls == [i]) = true) (hl : ls.setIfInBounds i true = ls')
    (hw : Region.wanted o (yielded l0.toArray a.tmps) = true) (hrun : (execOp a.eval o).run P w = .ok (.value v) w1) (hS : S w1) (hput : a.put o.dst v = a') (h : wpAnyH P .any l0.toArray (NoPanic Q) S n ls' a' w1) : wpAnyH P .any l0.toArray (NoPanic Q) S (n + 1) ls a w := by
  subst hl
  subst hput
  have ho' : l0.toArray[i]? = some o := by simpa using ho
  refine wpAnyH_all (rs := [i]) (by simpa using hr) (by simp) (fun j hj => ?_)
  rw [List.mem_singleton] at hj
  subst hj
  unfold wpOp
  rw [ho']
  dsimp only
  rw [if_pos hw]
  refine Or.inl ?_
  unfold Oper.wp
  rw [hrun]
  exact ⟨hS, h⟩

theorem pick_enter {i n : Nat} {o : Oper} {f : FuncId} {args : Array Value} {ls ls' : Array Bool} {a : Act} {w : World} (ho : l0[i]? = some o) (hr : (Region.ready .any l0.toArray ls == [i]) = true) (hl : ls.setIfInBounds i true = ls') (hw : Region.wanted o (yielded l0.toArray a.tmps) = true)
    (hrun : (execOp a.eval o).run P w = .ok (.enter f args) w) (h : Calls P f args w fun e w' => ∃ v, e = .returned v ∧ S w' ∧ wpAnyH P .any l0.toArray (NoPanic Q) S n ls' (a.put o.dst v) w') : wpAnyH P .any l0.toArray (NoPanic Q) S (n + 1) ls a w := by
  subst hl
  have ho' : l0.toArray[i]? = some o := by simpa using ho
  refine wpAnyH_all (rs := [i]) (by simpa using hr) (by simp) (fun j hj => ?_)
  rw [List.mem_singleton] at hj
  subst hj
  unfold wpOp
  rw [ho']
  dsimp only
  rw [if_pos hw]
  refine Or.inl ?_
  unfold Oper.wp
  rw [hrun]
  refine Calls.mono h ?_
  rintro e w3 ⟨v, rfl, hS, hn⟩
  exact ⟨hS, hn⟩

def PickMk (P : Program) (l0 : List Oper) (Q : Exit → Act → World → Prop) (S : World → Prop) (n : Nat) (ls : Array Bool) (a : Act) (w : World) (i : Nat) : Prop :=
  ∃ o v w1, l0[i]? = some o ∧ Region.wanted o (yielded l0.toArray a.tmps) = true ∧ (execOp a.eval o).run P w = .ok (.value v) w1 ∧ S w1 ∧ wpAnyH P .any l0.toArray (NoPanic Q) S n (ls.setIfInBounds i true) (a.put o.dst v) w1

theorem pick_frame {n : Nat} {ls : Array Bool} {a a' : Act} {w : World} (ha : a = a') (h : wpAnyH P .any l0.toArray (NoPanic Q) S n ls a' w) : wpAnyH P .any l0.toArray (NoPanic Q) S n ls a w := by
  subst ha
  exact h

theorem pick_end {n : Nat} {ls : Array Bool} {a : Act} {w : World} (hr : (Region.ready .any l0.toArray ls).isEmpty = true) (h : Q .normal a w) : wpAnyH P .any l0.toArray (NoPanic Q) S n ls a w :=
  wpAnyH_done (Q := NoPanic Q) (by simpa using hr) (NoPanic.normal h) _
end
end Go.Proofs.Ytebpgglegnljgaa

namespace Go.Proofs.Ytebpgglegnljgaa
open Go.RowKit

theorem held_more {P : Program} {md : Region.Mode} {ops : Array Oper} {Q : Exit → Act → World → Prop} {S S' : World → Prop} (h : ∀ w, S' w → S w) : ∀ (n : Nat) (ls : Array Bool) (a : Act) (w : World), wpAnyH P md ops Q S' n ls a w → wpAnyH P md ops Q S n ls a w
  | 0, _, _, _, x => x
  | n + 1, _, _, _, x => ⟨x.1, fun i hi => wpOp_mono (fun a' w' y => ⟨h w' y.1, held_more h n _ a' w' y.2⟩) (x.2 i hi)⟩

section
variable {P : Program} {l0 : List Oper} {Q : Exit → Act → World → Prop} {S : World → Prop}

theorem pick_more (S' : World → Prop) {n : Nat} {ls : Array Bool} {a : Act} {w : World} (hi : ∀ w, S' w → S w) (h : wpAnyH P .any l0.toArray (NoPanic Q) S' n ls a w) : wpAnyH P .any l0.toArray (NoPanic Q) S n ls a w := held_more hi n ls a w h

def PickCl (P : Program) (l0 : List Oper) (Q : Exit → Act → World → Prop) (S : World → Prop) (n : Nat) (ls : Array Bool) (a : Act) (w : World) (i : Nat) : Prop :=
  ∃ o f args, l0[i]? = some o ∧ Region.wanted o (yielded l0.toArray a.tmps) = true ∧ (execOp a.eval o).run P w = .ok (.enter f args) w ∧ Calls P f args w fun e w' => ∃ v, e = .returned v ∧ S w' ∧ wpAnyH P .any l0.toArray (NoPanic Q) S n (ls.setIfInBounds i true) (a.put o.dst v) w'

theorem PickMk.op {n i : Nat} {ls : Array Bool} {a : Act} {w : World} (h : PickMk P l0 Q S n ls a w i) : wpOp P l0.toArray (NoPanic Q) i (fun a' w' => S w' ∧ wpAnyH P .any l0.toArray (NoPanic Q) S n (ls.setIfInBounds i true) a' w') a w := by
  obtain ⟨o, v, w1, ho, hw, hrun, hS, h⟩ := h
  have ho' : l0.toArray[i]? = some o := by simpa using ho
  unfold wpOp
  rw [ho']
  dsimp only
  rw [if_pos hw]
  refine Or.inl ?_
  unfold Oper.wp
  rw [hrun]
  exact ⟨hS, h⟩

theorem PickCl.op {n i : Nat} {ls : Array Bool} {a : Act} {w : World} (h : PickCl P l0 Q S n ls a w i) : wpOp P l0.toArray (NoPanic Q) i (fun a' w' => S w' ∧ wpAnyH P .any l0.toArray (NoPanic Q) S n (ls.setIfInBounds i true) a' w') a w := by
  obtain ⟨o, f, args, ho, hw, hrun, h⟩ := h
  have ho' : l0.toArray[i]? = some o := by simpa using ho
  unfold wpOp
  rw [ho']
  dsimp only
  rw [if_pos hw]
  refine Or.inl ?_
  unfold Oper.wp
  rw [hrun]
  refine Calls.mono h ?_
  rintro e w3 ⟨v, rfl, hS, hn⟩
  exact ⟨hS, hn⟩

theorem pick_skip {i n : Nat} {o : Oper} {ls ls' : Array Bool} {a : Act} {w w1 : World} (hd : o.dst = none) (ho : l0[i]? = some o) (hr : (Region.ready .any l0.toArray ls == [i]) = true) (hl : ls.setIfInBounds i true = ls') (hw : Region.wanted o (yielded l0.toArray a.tmps) = true)
    (hrun : (execOp a.eval o).run P w = .ok .skip w1) (hS : S w1) (h : wpAnyH P .any l0.toArray (NoPanic Q) S n ls' a w1) : wpAnyH P .any l0.toArray (NoPanic Q) S (n + 1) ls a w := by
  subst hl
  have ho' : l0.toArray[i]? = some o := by simpa using ho
  refine wpAnyH_all (rs := [i]) (by simpa using hr) (by simp) (fun j hj => ?_)
  rw [List.mem_singleton] at hj
  subst hj
  unfold wpOp
  rw [ho']
  dsimp only
  rw [if_pos hw]
  refine Or.inl ?_
  have hp : a.put o.dst undef = a := by rw [hd]; rfl
  unfold Oper.wp
  rw [hrun]
  refine ⟨hS, ?_⟩
  rw [hp]
  exact h

theorem pick_either {i j n : Nat} {ls : Array Bool} {a : Act} {w : World} (hr : (Region.ready .any l0.toArray ls == [i, j]) = true) (h1 : PickMk P l0 Q S n ls a w i) (h2 : PickCl P l0 Q S n ls a w j) : wpAnyH P .any l0.toArray (NoPanic Q) S (n + 1) ls a w := by
  refine wpAnyH_all (rs := [i, j]) (by simpa using hr) (by simp) (fun k hk => ?_)
  simp only [List.mem_cons, List.not_mem_nil, or_false] at hk
  rcases hk with rfl | rfl
  · exact h1.op
  · exact h2.op
end
end Go.Proofs.Ytebpgglegnljgaa

namespace Go.Proofs.Ytebpgglegnljgaa
open Go.RowKit

set_option maxHeartbeats 1000000 in
set_option maxRecDepth 100000 in
theorem open_cap (b off cap N : Nat) (ws : List Int) (h : HpN) (w : World) (hN0 : 0 < N) (hl : ws.length = N) (hN : N ≤ 8000) (hb : b < w.heap.size)
    (hw : ∀ k, k < N → w.cell? ⟨b, off + k, none⟩ = some (.int .i64 (ws.getD k 0))) (ht0 : 0 ≤ h.touched) (ht1 : h.touched < 9223372036854775808) :
    Calls Try.prog 46 #[heapV (.slice (some ⟨b, off, none⟩) N cap) h] w fun e w' => ∃ bm bw cap' : Nat, e = .returned (.pointer (some ⟨bm, 0, none⟩)) ∧ (Wk w bm bw N cap' ⟨ws, h, 0, 0⟩ false w' ∧ N ≤ cap') ∧ w.heap.size ≤ bm ∧ w.heap.size ≤ bw := by
  obtain ⟨g1, g2, g3, g4, g5, g6, g7, g8, g9⟩ := h
  unfold heapV
  dsimp only at *
  have HW := hid hw
  have HT : Hid (touchZ ⟨ws, ⟨g1, g2, g3, g4, g5, g6, g7, g8, g9⟩, 0, 0⟩ = g9) := by
    show _ = _
    unfold touchZ wrap64
    dsimp only
    omega
  clear hw ht0 ht1
  obtain ⟨i0, hi, hz0, hz1, hz2⟩ := info_parts info_int
  obtain ⟨eA, eB, eS⟩ := heap_alloc2 w (.cells #[.slice (some ⟨b, off, none⟩) N cap, .int .i64 g1, .int .i64 g2, .int .i64 g3, .int .i64 g4, .int .i64 g5, .int .i64 g6, .int .i64 g7, .int .i64 g8, .int .i64 g9] 25) (.cells #[] 3)
  have k2 := ((Below.refl w.heap.size w).alloc (Nat.le_refl _) (.cells #[.slice (some ⟨b, off, none⟩) N cap, .int .i64 g1, .int .i64 g2, .int .i64 g3, .int .i64 g4, .int .i64 g5, .int .i64 g6, .int .i64 g7, .int .i64 g8, .int .i64 g9] 25)).alloc (by simp) (.cells #[] 3)
  have HEA := hid eA
  have HEB := hid eB
  have HES := hid eS
  have HK2 := hid k2
  clear eA eB eS k2
  go_enter Try.func46, Try.ntmps46
  go_wp2_with (first
    | (at_builtin; refine wpList_append_own _ rfl _ _ 23 rfl w.heap.size 3 i0 (.int .i64 0) 1 8 Try.underlying23 hi hz0 hz1 hz2 rfl (by decide) (.slice (some ⟨w.heap.size + 1, 0, none⟩) 0 0) 0 [] rfl ⟨rfl, Or.inr ⟨w.heap.size + 1, 0, #[], rfl, by omega, HEB.out, by omega, by decide, rfl, rfl⟩⟩ ⟨b, off, none⟩ N cap (ws.map (fun x => Value.int .i64 x)) rfl (by simp [hl]) (fun j u hu => ?_) (fun u hu => ?_) (by unfold maxLen; omega) (by omega) (by rw [HES.out]; omega) ?_))
  · rw [List.getElem?_map] at hu
    obtain ⟨x, hx, rfl⟩ := Option.map_eq_some_iff.1 hu
    have hj : j < N := by have := (List.getElem?_eq_some_iff.1 hx).1; omega
    have e := (HK2.out.cell (p := ⟨b, off + j, none⟩) hb).trans (HW.out j hj)
    rw [show ws.getD j 0 = x by simp [List.getD, hx]] at e
    have ea : (⟨b, off, none⟩ : Addr).add j = ⟨b, off + j, none⟩ := by
      unfold Addr.add
      split
      · simp_all
      · rfl
    rw [ea]
    exact e
  · simp only [List.mem_map] at hu
    obtain ⟨x, _, rfl⟩ := hu
    rfl
  · intro v' w3 hown hgrow hnil
    obtain ⟨-, hh | ⟨g, cp, cur, rfl, hg, hcur, hcp, hcm, hcs, htk⟩⟩ := id hown
    · exact absurd hh.1 hnil
    obtain ⟨hrow, hlow⟩ := row_of_owns hl hown
    have hH : HeapBlk w3 w.heap.size (.slice (some ⟨b, off, none⟩) N cap) ⟨g1, g2, g3, g4, g5, g6, g7, g8, g9⟩ := (hgrow.block w.heap.size (by rw [HES.out]; omega) (by simp [Value.ownBlock])).trans HEA.out
    have hbw : Below w.heap.size w w3 := Below.grown HK2.out hgrow (by rw [HES.out]; omega) (fun j hj => by simp [Value.ownBlock] at hj; omega)
    have hne : g ≠ w.heap.size := by
      rintro rfl
      have e := hH
      unfold HeapBlk at e
      rw [hcur] at e
      simp at e
    obtain ⟨c0, c1, c2, c3, c4, c5, c6, c7, c8, c9⟩ := hH.cells
    dsimp only at c0 c1 c2 c3 c4 c5 c6 c7 c8 c9
    have f0 := frozen_of_heap hH 0
    have HCP : Hid (N ≤ cp) := by show _ ≤ _; omega
    have HB := hid hbw
    have HR := hid hrow
    have HH := hid hH
    have hsz := hbw.size
    clear hown hgrow hnil hcur hcp hcm hcs htk hbw hrow hH HK2 HEA HEB HES HW
    go_wp2_with fail
    go_ret
    have hs : (w3.setCell ⟨w.heap.size, 0, none⟩ (.slice (some ⟨g, 0, none⟩) N cp)).heap.size = w3.heap.size := by simp [World.setCell]
    have hgl := HR.out.lt
    refine ⟨w3.heap.size, g, cp, rfl, ⟨⟨?_, ?_, hl, by omega, Frm.of_below ((HB.out.setCell (Nat.le_refl _) _).alloc (by rw [hs]; exact hsz) _)⟩, HCP.out⟩, hsz, hlow⟩
    · have e := (MapKept.heap_alloc (w3.setCell ⟨w.heap.size, 0, none⟩ (.slice (some ⟨g, 0, none⟩) N cp)) (.cells #[.slice (some ⟨g, 0, none⟩) N cp, .int .i64 g1, .int .i64 g2, .int .i64 g3, .int .i64 g4, .int .i64 g5, .int .i64 g6, .int .i64 g7, .int .i64 g8, .int .i64 g9, .bool false] 82)).1
      rw [hs] at e
      unfold WkBlk
      rw [HT.out]
      exact e
    · refine HR.out.of_block ?_
      have e1 := ((Below.refl (w3.setCell ⟨w.heap.size, 0, none⟩ (.slice (some ⟨g, 0, none⟩) N cp)).heap.size _).alloc (Nat.le_refl _) (.cells #[.slice (some ⟨g, 0, none⟩) N cp, .int .i64 g1, .int .i64 g2, .int .i64 g3, .int .i64 g4, .int .i64 g5, .int .i64 g6, .int .i64 g7, .int .i64 g8, .int .i64 g9, .bool false] 82)).block g (by rw [hs]; exact hgl)
      exact e1.trans (Below.heap_setCell _ _ _ _ hne)
end Go.Proofs.Ytebpgglegnljgaa
