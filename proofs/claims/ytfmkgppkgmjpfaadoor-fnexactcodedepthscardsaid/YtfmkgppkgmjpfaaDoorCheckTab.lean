/- A handler's table is gone through, in the specification. -/
import Derived.Test.YtfmkgppkgmjpfaaDoorCheckTable
import Derived.BigQuiet
import Derived.Test.YtfmkgppkgmjpfaaDoorCalm
namespace Go.Proofs.YtfmkgppkgmjpfaaDoor
open Go.RowKit

theorem rz_app (N : Nat) (r : Option (List Sq × List Nat)) (a b : List (Int × Sq)) : rz N r (a ++ b) = rz N (rz N r a) b := by
  unfold rz
  rw [List.foldl_append]

theorem clauses_len {is : List In} {k B : Nat} (hB : (is.getD k default).b = (B : Int)) (hk : k + B < is.length) : (clausesZ is (k : Int)).length = B := by
  unfold clausesZ
  rw [Int.toNat_natCast, hB, Int.toNat_natCast, List.length_take, List.length_drop]
  omega

theorem clauses_next {is : List In} {k B j : Nat} (hB : (is.getD k default).b = (B : Int)) (hk : k + B < is.length) (hj : j < B) : (clausesZ is (k : Int)).take (j + 1) = (clausesZ is (k : Int)).take j ++ [is.getD (k + (j + 1)) default] := by
  have hl := clauses_len hB hk
  have e : (clausesZ is (k : Int))[j]? = some (is.getD (k + (j + 1)) default) := by
    unfold clausesZ
    rw [Int.toNat_natCast, hB, Int.toNat_natCast, List.getElem?_take_of_lt hj, List.getElem?_drop, List.getD_eq_getElem?_getD, show k + 1 + j = k + (j + 1) by omega, List.getElem?_eq_getElem (by omega)]
    rfl
  rw [List.take_add_one, e]
  rfl

theorem drew_cz (W : World) : Cz W W.drew := Cz.of_below (Below.refl _ _).drew

theorem StC.below {W0 : World} {Mb : Nat} {vc : Value} {ge gs gp ce cs cp N : Nat} {r : Option (List Sq × List Nat)} {W W' : World} (h : StC W0 Mb vc ge gs gp ce cs cp N r W) (hb : Below W.heap.size W W') : StC W0 Mb vc ge gs gp ce cs cp N r W' := by
  obtain ⟨vw, T, w, bad, hc, h1, h2⟩ := h
  exact ⟨vw, T, w, bad, hc.below hb, h1, h2⟩

def TabP (W0 : World) (Mb : Nat) (vc : Value) (ge gs gp ce cs cp N : Nat) (r : Option (List Sq × List Nat)) (W : World) (e : Ending) (W' : World) : Prop := e = .returned (.tuple #[]) ∧ StC W0 Mb vc ge gs gp ce cs cp N r W' ∧ Cz W W'

theorem StC.bad {W0 : World} {Mb : Nat} {vc : Value} {ge gs gp ce cs cp N : Nat} {r : Option (List Sq × List Nat)} {W : World} (h : StC W0 Mb vc ge gs gp ce cs cp N r W) : StC W0 Mb vc ge gs gp ce cs cp N none (W.setCell ⟨Mb, 5, none⟩ (.bool true)) ∧ Cz W (W.setCell ⟨Mb, 5, none⟩ (.bool true)) := by
  obtain ⟨v1, v2, v3, v4, b, hb⟩ := h.blk
  exact ⟨h.flagged, cz_set hb (Or.inr rfl)⟩

set_option maxRecDepth 100000 in
set_option maxHeartbeats 8000000 in
theorem table_st {W0 : World} {Mb bc oc cc ge gs gp ce cs cp : Nat} {is : List In} {r : Option (List Sq × List Nat)} {W : World} (h : StC W0 Mb (.slice (some ⟨bc, oc, none⟩) is.length cc) ge gs gp ce cs cp is.length r W) (hbc : bc < W0.heap.size) (hin : InsAt W0 bc oc is) (hall : ∀ i ∈ is, i.ok = true) (a x : Int) (ha : 0 ≤ a) (hx0 : 0 ≤ x) (hx1 : x ≤ 100) :
    Calls Tryd.prog 30 #[.pointer (some ⟨Mb, 0, none⟩), .int .i64 a, .int .i64 x] W (TabP W0 Mb (.slice (some ⟨bc, oc, none⟩) is.length cc) ge gs gp ce cs cp is.length (tabZ is r a x) W) := by
  have hN : is.length ≤ 1500 := by
    obtain ⟨vw, T, w, bad, hc, -, -⟩ := h
    exact hc.nl
  obtain ⟨v1, v2, v3, v4, b0, hblk⟩ := h.blk
  have e0 := cell_of_heap hblk 0
  simp at e0
  have hbl := heap_lt hblk
  have hinW := hin.below h.bel hbc
  have hbcW : bc < W.heap.size := Nat.lt_of_lt_of_le hbc h.bel.size
  have HH := hid h
  have HF := hid (And.intro hbc (And.intro hin hall))
  have HN := hid hN
  have HXb := hid (And.intro hx0 hx1)
  have q0 : decide (a < 0) = false := decide_eq_false (by omega)
  have p0 : ∀ y : Later W.heap.size W, y.w.cell? ⟨Mb, 0, none⟩ = _ := fun y => y.cell hbl e0
  have FIN : Hid (∀ W1, Below W.heap.size W W1 → tableZ is a = false → TabP W0 Mb (.slice (some ⟨bc, oc, none⟩) is.length cc) ge gs gp ce cs cp is.length (tabZ is r a x) W (.returned (.tuple #[])) (W1.setCell ⟨Mb, 5, none⟩ (.bool true))) := fun W1 hb hf => by
    rw [tabZ, hf]
    have := (HH.out.below hb).bad
    exact ⟨rfl, this.1, (Cz.of_below hb).trans this.2⟩
  have FL : Hid (∀ W1, Below W.heap.size W W1 → (∃ b, W1.cell? ⟨Mb, 5, none⟩ = some (.bool b)) ∧ W1.frozen? ⟨Mb, 5, none⟩ = false) := fun W1 hb => by
    obtain ⟨v1, v2, v3, v4, b0, hblk⟩ := (HH.out.below hb).blk
    have e5 := cell_of_heap hblk 5
    simp at e5
    exact ⟨⟨b0, e5⟩, frozen_of_heap hblk 5⟩
  by_cases t1 : (is.length : Int) ≤ a
  · have HT : Hid (tableZ is a = false) := by
      show _ = _
      unfold tableZ
      rw [decide_eq_false (by omega)]
      rfl
    have t1d : decide ((is.length : Int) ≤ a) = true := decide_eq_true t1
    clear h hblk hin hall hbc hinW hN ha hx0 hx1 e0 hbcW
    go_enter Tryd.func30, Tryd.ntmps30
    go_wp2_with fail
    refine wp_region_calm W.heap.size (by kernel_rfl) (by kernel_rfl) ?_
    repeat (go_big_quiet_step (fail))
    refine wpQuiet_nil ?_
    rintro w5 ⟨y, rfl⟩
    have HY := hid y.h
    generalize y.w = W1 at *
    obtain ⟨⟨b5, e5⟩, z5⟩ := FL.out W1 HY.out
    go_wp2_with fail
    (try simp only [Exit.inBlock, Exit.then])
    refine bodyPost_ret (results_none rfl _ _ _) rfl ?_
    exact FIN.out W1 HY.out HT.out
  obtain ⟨k, rfl⟩ : ∃ k : Nat, a = (k : Int) := ⟨a.toNat, by omega⟩
  have hk : k < is.length := by omega
  have hok := all_ok hall hk
  have c0 := hinW k hk 0 (by omega)
  have c1 := hinW k hk 1 (by omega)
  have c2 := hinW k hk 2 (by omega)
  obtain ⟨i, hi⟩ : ∃ i, is.getD k default = i := ⟨_, rfl⟩
  rw [hi] at c0 c1 c2 hok
  obtain ⟨op, a1, b1, c1v⟩ := i
  simp only [In.cell, Nat.add_zero] at c0 c1 c2
  have p1 : ∀ y : Later W.heap.size W, y.w.cell? ⟨bc, oc + k * 4, none⟩ = _ := fun y => y.cell hbcW c0
  have p2 : ∀ y : Later W.heap.size W, y.w.cell? ⟨bc, oc + k * 4 + 2, none⟩ = _ := fun y => y.cell hbcW c2
  have HI := hid hi
  have HOk := hid hok
  have HTb : Hid (tableZ is (k : Int) = (decide ((k : Int) < (is.length : Int)) && (decide (op = 24) && (decide (b1 ≤ 4) && (decide (b1 < (is.length : Int) - k) && (clausesZ is k).all (fun i => decide (i.op = 25))))))) := by
    show _ = _
    unfold tableZ
    rw [Int.toNat_natCast, hi]
  have q1 : (0 : Int) ≤ (k : Int) := by omega
  have t1' : ¬ (is.length : Int) ≤ (k : Int) := t1
  clear h hblk hin hall hbc hinW hN ha hx0 hx1 e0 hbcW c0 c1 c2 hi hok t1
  have t1 : (k : Int) < (is.length : Int) := by omega
  have t1d : decide ((is.length : Int) ≤ (k : Int)) = false := decide_eq_false t1'
  have t1n : decide (is.length ≤ k) = false := decide_eq_false (by omega)
  clear t1'
  by_cases t2 : op = 24
  case neg =>
    have HT : Hid (tableZ is (k : Int) = false) := by
      show _ = _
      rw [HTb.out, decide_eq_false t2]
      simp
    have t2' : (op != 24) = true := by simp [t2]
    clear t2
    go_enter Tryd.func30, Tryd.ntmps30
    go_wp2_with fail
    refine wp_region_calm W.heap.size (by kernel_rfl) (by kernel_rfl) ?_
    repeat (go_big_quiet_step (fail))
    refine wpQuiet_nil ?_
    rintro w5 ⟨y, rfl⟩
    have HY := hid y.h
    generalize y.w = W1 at *
    obtain ⟨⟨b5, e5⟩, z5⟩ := FL.out W1 HY.out
    go_wp2_with fail
    (try simp only [Exit.inBlock, Exit.then])
    refine bodyPost_ret (results_none rfl _ _ _) rfl ?_
    exact FIN.out W1 HY.out HT.out
  subst t2
  have t2' : ((24 : Int) != 24) = false := rfl
  have hb1 : 0 ≤ b1 ∧ b1 ≤ 65535 := by
    have := ok_nums HOk.out (by dsimp only; decide) (by dsimp only; decide) (by dsimp only; decide)
    exact ⟨this.2.2.1, this.2.2.2.1⟩
  have HB1 := hid hb1
  clear hb1
  by_cases t3 : 4 < b1
  · have t3d : decide (4 < b1) = true := decide_eq_true t3
    have HT : Hid (tableZ is (k : Int) = false) := by
      show _ = _
      rw [HTb.out, decide_eq_false (show ¬ b1 ≤ 4 by omega)]
      simp
    go_enter Tryd.func30, Tryd.ntmps30
    go_wp2_with fail
    refine wp_region_calm W.heap.size (by kernel_rfl) (by kernel_rfl) ?_
    repeat (go_big_quiet_step (fail))
    refine wpQuiet_nil ?_
    rintro w5 ⟨y, rfl⟩
    have HY := hid y.h
    generalize y.w = W1 at *
    obtain ⟨⟨b5, e5⟩, z5⟩ := FL.out W1 HY.out
    go_wp2_with fail
    (try simp only [Exit.inBlock, Exit.then])
    refine bodyPost_ret (results_none rfl _ _ _) rfl ?_
    exact FIN.out W1 HY.out HT.out
  have t3d : decide (4 < b1) = false := decide_eq_false t3
  have hw : wrap64 ((k : Int) + b1) = (k : Int) + b1 := by
    rw [wrap64]
    have := HB1.out
    have := HN.out
    omega
  by_cases t4 : (is.length : Int) ≤ (k : Int) + b1
  · have t4d : decide ((is.length : Int) ≤ (k : Int) + b1) = true := decide_eq_true t4
    have HT : Hid (tableZ is (k : Int) = false) := by
      show _ = _
      rw [HTb.out, decide_eq_false (show ¬ b1 < (is.length : Int) - k by omega)]
      simp
    go_enter Tryd.func30, Tryd.ntmps30
    go_wp2_with fail
    refine wp_region_calm W.heap.size (by kernel_rfl) (by kernel_rfl) ?_
    repeat (go_big_quiet_step (fail))
    refine wpQuiet_nil ?_
    rintro w5 ⟨y, rfl⟩
    have HY := hid y.h
    generalize y.w = W1 at *
    obtain ⟨⟨b5, e5⟩, z5⟩ := FL.out W1 HY.out
    go_wp2_with fail
    (try simp only [Exit.inBlock, Exit.then])
    refine bodyPost_ret (results_none rfl _ _ _) rfl ?_
    exact FIN.out W1 HY.out HT.out
  have t4d : decide ((is.length : Int) ≤ (k : Int) + b1) = false := decide_eq_false t4
  obtain ⟨B, hBz⟩ : ∃ B : Nat, b1 = (B : Int) := ⟨b1.toNat, by have := HB1.out; omega⟩
  have HBk : Hid (b1 = (B : Int) ∧ k + B < is.length ∧ B ≤ 4) := ⟨hBz, by omega, by omega⟩
  clear hBz t3 t4
  go_enter Tryd.func30, Tryd.ntmps30
  go_wp2_with fail
  refine wp_region_calm W.heap.size (by kernel_rfl) (by kernel_rfl) ?_
  repeat (go_big_quiet_step (fail))
  refine wpQuiet_nil ?_
  rintro w5 ⟨y, rfl⟩
  have HY := hid y.h
  generalize y.w = W1 at *
  have HS1 := hid (HH.out.below HY.out)
  have HC1 := hid (Cz.of_below HY.out)
  have hinW := HF.out.2.1.below HS1.out.bel HF.out.1
  have hk : k < is.length := by have := HBk.out; omega
  have c1 := hinW k hk 1 (by omega)
  rw [HI.out] at c1
  simp only [In.cell] at c1
  obtain ⟨v1, v2, v3, v4, b0, hblk⟩ := HS1.out.blk
  have e0 := cell_of_heap hblk 0
  simp at e0
  have w1 : wrap64 (x + 1) = x + 1 := by rw [wrap64]; have := HXb.out; omega
  have w2 : wrap64 (x + 2) = x + 2 := by rw [wrap64]; have := HXb.out; omega
  clear p0 p1 p2 hbl hinW hblk HY
  go_wp2_with fail
  refine (come_st HS1.out a1 (x + 1) 0 1 (by decide) (by decide)).mono ?_
  rintro e W2 ⟨rfl, hs2, hc2⟩
  have HS2 := hid hs2
  have HC2 := hid (HC1.out.trans hc2)
  clear hs2 hc2 HS1 HC1 e0 c1 w1
  go_wp2_with fail
  have HL : Hid (∀ j, j < B → (clausesZ is (k : Int)).take (j + 1) = (clausesZ is (k : Int)).take j ++ [is.getD (k + (j + 1)) default]) := fun j hj => clauses_next (by rw [HI.out]; exact HBk.out.1) HBk.out.2.1 hj
  have HLl : Hid ((clausesZ is (k : Int)).length = B) := clauses_len (by rw [HI.out]; exact HBk.out.1) HBk.out.2.1
  go_loopw [6] (fun i wr => ∃ (j : Nat) (ji : Int), i = .int .i64 ji ∧ Hid (ji = (j : Int) + 1 ∧ j ≤ B) ∧ Hid (StC W0 Mb (.slice (some ⟨bc, oc, none⟩) is.length cc) ge gs gp ce cs cp is.length (rz is.length r ((a1, ⟨x + 1, 0, 2⟩) :: ((clausesZ is (k : Int)).take j).map (fun c => (c.b, (⟨x + 2, 0, 2⟩ : Sq))))) wr) ∧ Hid (Cz W wr) ∧ Hid (∀ c ∈ (clausesZ is (k : Int)).take j, c.op = 25)) (fun i _ => B + 1 - (intOf i).toNat)
  case atStart => exact ⟨0, 1, rfl, ⟨by omega, Nat.zero_le _⟩, HS2, HC2, fun c hc => absurd hc (by simp)⟩
  case round =>
    obtain ⟨j, ji, rfl, HJ, HSr, HCr, HAr⟩ := hrel
    have hinW := HF.out.2.1.below HSr.out.bel HF.out.1
    have c2 := hinW k hk 2 (by omega)
    rw [HI.out] at c2
    simp only [In.cell] at c2
    obtain ⟨v1, v2, v3, v4, b0, hblk⟩ := HSr.out.blk
    have e0 := cell_of_heap hblk 0
    have e5 := cell_of_heap hblk 5
    have z5 := frozen_of_heap hblk 5
    simp at e0 e5
    by_cases hle : ji ≤ b1
    · have hj : j < B := by have := HJ.out; have := HBk.out; omega
      have hkj : k + (j + 1) < is.length := by have := HBk.out; omega
      have f0 := hinW (k + (j + 1)) hkj 0 (by omega)
      have f2 := hinW (k + (j + 1)) hkj 2 (by omega)
      have hnx := HL.out j hj
      have hmem : is.getD (k + (j + 1)) default ∈ clausesZ is (k : Int) := by
        have h1 : is.getD (k + (j + 1)) default ∈ (clausesZ is (k : Int)).take (j + 1) := by rw [hnx]; simp
        exact List.mem_of_mem_take h1
      obtain ⟨⟨fop, fa, fb, fc⟩, hf⟩ : ∃ i, is.getD (k + (j + 1)) default = i := ⟨_, rfl⟩
      rw [hf] at f0 f2 hnx hmem
      simp only [In.cell, Nat.add_zero] at f0 f2
      obtain ⟨kj, hkjz⟩ : ∃ kj : Nat, k + (j + 1) = kj := ⟨_, rfl⟩
      rw [hkjz] at f0 f2 hkj
      have w3 : wrap64 ((k : Int) + ji) = (kj : Int) := by rw [wrap64]; have := HJ.out; have := HN.out; omega
      have kj0 : (0 : Int) ≤ (kj : Int) := by omega
      have kj1 : (kj : Int) < (is.length : Int) := by omega
      have w4 : wrap64 (ji + 1) = ji + 1 := by rw [wrap64]; have := HJ.out; have := HBk.out; omega
      have hst : B + 1 - (intOf (.int .i64 (ji + 1))).toNat < B + 1 - (intOf (.int .i64 ji)).toNat := by
        simp only [intOf]
        have := HJ.out
        omega
      have HNx := hid hnx
      have HMm := hid hmem
      have HSt := hid hst
      clear hnx hmem hf hkjz hinW hblk hj hst
      by_cases hop : fop = 25
      case neg =>
        have hop' : (fop != 25) = true := by simp [hop]
        have HT : Hid (tableZ is (k : Int) = false) := by
          show _ = _
          rw [HTb.out]
          have : (clausesZ is (k : Int)).all (fun i => decide (i.op = 25)) = false := by
            rw [Bool.eq_false_iff]
            intro he
            exact hop (of_decide_eq_true (List.all_eq_true.1 he _ HMm.out))
          rw [this]
          simp
        clear hop
        go_wp2_with fail
        (try simp only [Exit.inBlock, Exit.then])
        refine bodyPost_ret (results_none rfl _ _ _) rfl ?_
        rw [tabZ, HT.out]
        exact ⟨rfl, HSr.out.bad.1, HCr.out.trans HSr.out.bad.2⟩
      subst hop
      go_wp2_with fail
      refine (come_st HSr.out fb (x + 2) 0 1 (by decide) (by decide)).mono ?_
      rintro e W5 ⟨rfl, hs5, hc5⟩
      have HS5 := hid hs5
      have HC5 := hid (HCr.out.trans hc5)
      clear hs5 hc5 e0 e5 z5 c2 f0 f2
      go_wp2_with fail
      rw [w4]
      refine ⟨⟨j + 1, ji + 1, rfl, ⟨by have := HJ.out; omega, by have := HJ.out; have := HBk.out; omega⟩, ?_, HC5, fun c hc => ?_⟩, HSt.out⟩
      · show StC _ _ _ _ _ _ _ _ _ _ _ _
        rw [HNx.out, List.map_append, ← List.cons_append, rz_app]
        exact HS5.out
      · rw [HNx.out, List.mem_append, List.mem_singleton] at hc
        rcases hc with hc | rfl
        · exact HAr.out c hc
        · rfl
    · have hjB : j = B := by have := HJ.out; have := HBk.out; omega
      have HT : Hid (tableZ is (k : Int) = true) := by
        show _ = _
        rw [HTb.out]
        have h1 := HBk.out
        have h2 : (clausesZ is (k : Int)).all (fun i => decide (i.op = 25)) = true := List.all_eq_true.2 (fun c hc => decide_eq_true (HAr.out c (by rw [hjB, List.take_of_length_le (by rw [HLl.out]; exact Nat.le_refl _)]; exact hc)))
        rw [h2, decide_eq_true (show (k : Int) < (is.length : Int) by omega), decide_eq_true (show b1 ≤ 4 by omega), decide_eq_true (show b1 < (is.length : Int) - k by omega)]
        rfl
      have HSf : Hid (StC W0 Mb (.slice (some ⟨bc, oc, none⟩) is.length cc) ge gs gp ce cs cp is.length (tabZ is r (k : Int) x) wr) := by
        show StC _ _ _ _ _ _ _ _ _ _ _ _
        have := HSr.out
        rw [hjB, List.take_of_length_le (by rw [HLl.out]; exact Nat.le_refl _)] at this
        rw [tabZ, if_pos HT.out, Int.toNat_natCast, HI.out]
        exact this
      clear hjB hinW hblk
      go_wp2_with fail
      (try simp only [Exit.inBlock, Exit.then])
      refine bodyPost_end (results_none rfl _ _ _) rfl ?_
      exact ⟨rfl, HSf.out, HCr.out⟩
end Go.Proofs.YtfmkgppkgmjpfaaDoor
