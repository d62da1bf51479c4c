/- Small functions of the program's check: spots, a table's lines, is it a table. -/
import Derived.Test.YtfmkgppkgmjpfaaDoorImplComeB
import Derived.Test.YtfmkgppkgmjpfaaDoorInsHelp
import Derived.Test.YtfmkgppkgmjpfaaDoorIntRows
namespace Go.Proofs.YtfmkgppkgmjpfaaDoor
open Go.RowKit Go.Conc

/-- A slice of these instructions, not longer than its capacity, that lies ahead of W0's end. -/
def CodeAt (W0 : World) (bc oc cc : Nat) (is : List In) : Prop := bc < W0.heap.size ∧ InsAt W0 bc oc is ∧ is.length ≤ cc ∧ is.length ≤ 1500 ∧ ∀ i ∈ is, i.ok = true

theorem block_in0 {W : World} {a : Addr} {v : Value} (h : W.cell? a = some v) : a.block < W.heap.size := by
  unfold World.cell? at h
  split at h
  · rename_i e
    obtain ⟨hlt, _⟩ := Array.getElem?_eq_some_iff.mp e
    exact hlt
  · cases h

set_option maxRecDepth 100000 in
theorem more_calls (n v p a b : Int) (w : World) (h1 : wrap64 (n + a) = n + a) (h2 : wrap64 (v + b) = v + b) :
    Calls Tryd.prog 43 #[.agg #[.int .i64 n, .int .i64 v, .int .i64 p], .int .i64 a, .int .i64 b] w fun e w' => e = .returned (.agg #[.int .i64 (n + a), .int .i64 (v + b), .int .i64 p]) ∧ Below w.heap.size w w' := by
  go_enter Tryd.func43, Tryd.ntmps43
  go_wp2_with fail
  refine bodyPost_ret (by simp [results, go_sem]; exact rfl) rfl ?_
  exact ⟨rfl, ((Below.refl _ _).alloc (Nat.le_refl _) _).alloc (by simp) _⟩

set_option maxRecDepth 100000 in
theorem inFunction_calls (n : Int) (w : World) :
    Calls Tryd.prog 44 #[.int .i64 n] w fun e w' => e = .returned (.agg #[.int .i64 n, .int .i64 0, .int .i64 2]) ∧ Below w.heap.size w w' := by
  go_enter Tryd.func44, Tryd.ntmps44
  go_wp2_with fail
  refine bodyPost_ret (by simp [results, go_sem]; exact rfl) rfl ?_
  exact ⟨rfl, (Below.refl _ _).alloc (Nat.le_refl _) _⟩

def ClauseP (bc oc k B : Nat) (W : World) (e : Ending) (W' : World) : Prop := ∃ ad cp, e = .returned (.slice ad B cp) ∧ (0 < B → ad = some ⟨bc, oc + (k + 1) * 4, none⟩) ∧ Below W.heap.size W W'

set_option maxRecDepth 100000 in
set_option maxHeartbeats 4000000 in
theorem clauses_calls {Fb bc oc cc N k B : Nat} {W : World} (hF : W.cell? ⟨Fb, 0, none⟩ = some (.slice (some ⟨bc, oc, none⟩) N cc)) (hc2 : W.cell? ⟨bc, oc + k * 4 + 2, none⟩ = some (.int .i64 (B : Int))) (hk : k + B < N) (hcc : N ≤ cc) (hN : N ≤ 1500) :
    Calls Tryd.prog 50 #[.pointer (some ⟨Fb, 0, none⟩), .int .i64 (k : Int)] W (ClauseP bc oc k B W) := by
  have hFl := block_in0 hF
  have hbl := block_in0 hc2
  have p0 : ∀ y : Later W.heap.size W, y.w.cell? ⟨Fb, 0, none⟩ = _ := fun y => y.cell hFl hF
  have p2 : ∀ y : Later W.heap.size W, y.w.cell? ⟨bc, oc + k * 4 + 2, none⟩ = _ := fun y => y.cell hbl hc2
  obtain ⟨kn, hkn⟩ : ∃ kn : Nat, k + 1 = kn := ⟨_, rfl⟩
  have w1 : wrap64 ((k : Int) + 1) = (kn : Int) := by rw [wrap64]; omega
  have q0 : (0 : Int) ≤ (k : Int) := by omega
  have q1 : (k : Int) < (N : Int) := by omega
  have q2 : (0 : Int) ≤ (kn : Int) := by omega
  have q3 : (kn : Int) ≤ (N : Int) := by omega
  have q4 : (kn : Int) ≤ (cc : Int) := by omega
  have q4' : (N : Int) ≤ (cc : Int) := by omega
  have q5 : (0 : Int) ≤ (B : Int) := by omega
  have q6 : (B : Int) ≤ ((cc - kn : Nat) : Int) := by omega
  have HB : Hid (k + B < N ∧ N ≤ cc ∧ k + 1 = kn) := ⟨hk, hcc, hkn⟩
  clear hF hc2 hk hcc hN hFl hbl hkn
  go_enter Tryd.func50, Tryd.ntmps50
  go_wp2_with fail
  refine wp_region_calm W.heap.size (by kernel_rfl) (by kernel_rfl) ?_
  repeat (go_big_quiet_step (fail))
  obtain ⟨ad, had⟩ : ∃ ad, (if cc = kn then some (⟨bc, oc, none⟩ : Addr) else some ⟨bc, oc + kn * 4, none⟩) = ad := ⟨_, rfl⟩
  rw [had]
  have HA := hid had
  clear had
  refine wpQuiet_nil ?_
  rintro w5 ⟨y, rfl⟩
  have HY := hid y.h
  generalize y.w = W1 at *
  clear p0 p2
  go_wp2_with fail
  go_ret
  refine ⟨_, _, rfl, fun hB => ?_, HY.out⟩
  rw [← HA.out, if_neg (by have := HB.out; omega), HB.out.2.2]

theorem linesI_len {is : List In} {k B : Nat} (hB : (is.getD k default).b = (B : Int)) (hk : k + B < is.length) : (clausesZ is (k : Int)).length = B := by
  unfold clausesZ
  rw [Int.toNat_natCast, hB, Int.toNat_natCast, List.length_take, List.length_drop]
  omega

theorem linesI_next {is : List In} {k B j : Nat} (hB : (is.getD k default).b = (B : Int)) (hk : k + B < is.length) (hj : j < B) : (clausesZ is (k : Int)).take (j + 1) = (clausesZ is (k : Int)).take j ++ [is.getD (k + (j + 1)) default] := by
  have hl := linesI_len hB hk
  have e : (clausesZ is (k : Int))[j]? = some (is.getD (k + (j + 1)) default) := by
    unfold clausesZ
    rw [Int.toNat_natCast, hB, Int.toNat_natCast, List.getElem?_take_of_lt hj, List.getElem?_drop, List.getD_eq_getElem?_getD, show k + 1 + j = k + (j + 1) by omega, List.getElem?_eq_getElem (by omega)]
    rfl
  rw [List.take_add_one, e]
  rfl

def BoolP (b : Bool) (W : World) (e : Ending) (W' : World) : Prop := e = .returned (.bool b) ∧ Below W.heap.size W W'

set_option maxRecDepth 100000 in
set_option maxHeartbeats 8000000 in
theorem isTable_calls {Fb bc oc cc : Nat} {is : List In} {W : World} (hF : W.cell? ⟨Fb, 0, none⟩ = some (.slice (some ⟨bc, oc, none⟩) is.length cc)) (hin : InsAt W bc oc is) (hbc : bc < W.heap.size) (hcc : is.length ≤ cc) (hN : is.length ≤ 1500) (hall : ∀ i ∈ is, i.ok = true) (a : Int) (ha : 0 ≤ a) (ha1 : a ≤ 65535) :
    Calls Tryd.prog 42 #[.pointer (some ⟨Fb, 0, none⟩), .int .i64 a] W (BoolP (tableZ is a) W) := by
  have hFl := block_in0 hF
  have p0 : ∀ y : Later W.heap.size W, y.w.cell? ⟨Fb, 0, none⟩ = _ := fun y => y.cell hFl hF
  have HF := hid hF
  have HN := hid (And.intro hN hcc)
  have HIn := hid (And.intro hin hbc)
  by_cases t1 : (is.length : Int) ≤ a
  · have HT : Hid (tableZ is a = false) := by
      show _ = _
      unfold tableZ
      rw [decide_eq_false (by omega)]
      rfl
    have t1d : decide ((is.length : Int) ≤ a) = true := decide_eq_true t1
    clear hF hin hbc hcc hN hall ha ha1 hFl
    go_enter Tryd.func42, Tryd.ntmps42
    go_wp2_with fail
    refine wp_region_calm W.heap.size (by kernel_rfl) (by kernel_rfl) ?_
    repeat (go_big_quiet_step (fail))
    refine wpQuiet_nil ?_
    rintro w5 ⟨y, rfl⟩
    have HY := hid y.h
    generalize y.w = W1 at *
    go_wp2_with fail
    go_ret
    refine ⟨?_, HY.out⟩
    rw [HT.out]
    rfl
  obtain ⟨k, rfl⟩ : ∃ k : Nat, a = (k : Int) := ⟨a.toNat, by omega⟩
  have hk : k < is.length := by omega
  have hok := all_ok hall hk
  have c0 := hin k hk 0 (by omega)
  have c2 := hin k hk 2 (by omega)
  obtain ⟨i, hi⟩ : ∃ i, is.getD k default = i := ⟨_, rfl⟩
  rw [hi] at c0 c2 hok
  obtain ⟨op, a1, b1, c1v⟩ := i
  simp only [In.cell, Nat.add_zero] at c0 c2
  have p1 : ∀ y : Later W.heap.size W, y.w.cell? ⟨bc, oc + k * 4, none⟩ = _ := fun y => y.cell hbc c0
  have p2 : ∀ y : Later W.heap.size W, y.w.cell? ⟨bc, oc + k * 4 + 2, none⟩ = _ := fun y => y.cell hbc c2
  have HI := hid hi
  have HOk := hid hok
  have HC2 := hid c2
  have HTb : Hid (tableZ is (k : Int) = (decide ((k : Int) < (is.length : Int)) && (decide (op = 24) && (decide (b1 ≤ 4) && (decide (b1 < (is.length : Int) - k) && (clausesZ is k).all (fun i => decide (i.op = 25))))))) := by
    show _ = _
    unfold tableZ
    rw [Int.toNat_natCast, hi]
  have q1 : (0 : Int) ≤ (k : Int) := by omega
  have t1d : decide ((is.length : Int) ≤ (k : Int)) = false := decide_eq_false t1
  have t1n : decide (is.length ≤ k) = false := decide_eq_false (by omega)
  have hws : wrap64 ((is.length : Int) - (k : Int)) = (is.length : Int) - k := by rw [wrap64]; omega
  clear hF hin hbc hcc hN hall ha ha1 hFl c0 c2 hi hok t1
  have t1 : (k : Int) < (is.length : Int) := by omega
  by_cases t2 : op = 24
  case neg =>
    have HT : Hid (tableZ is (k : Int) = false) := by
      show _ = _
      rw [HTb.out, decide_eq_false t2]
      simp
    have t2' : (op != 24) = true := by simp [t2]
    clear t2
    go_enter Tryd.func42, Tryd.ntmps42
    go_wp2_with fail
    refine wp_region_calm W.heap.size (by kernel_rfl) (by kernel_rfl) ?_
    repeat (go_big_quiet_step (fail))
    refine wpQuiet_nil ?_
    rintro w5 ⟨y, rfl⟩
    have HY := hid y.h
    generalize y.w = W1 at *
    go_wp2_with fail
    go_ret
    refine ⟨?_, HY.out⟩
    rw [HT.out]
    rfl
  subst t2
  have t2' : ((24 : Int) != 24) = false := rfl
  have hb1 : 0 ≤ b1 ∧ b1 ≤ 65535 := by
    have := ok_nums HOk.out (by dsimp only; decide) (by dsimp only; decide) (by dsimp only; decide)
    exact ⟨this.2.2.1, this.2.2.2.1⟩
  have HB1 := hid hb1
  clear hb1
  by_cases t3 : 4 < b1
  · have t3d : decide (4 < b1) = true := decide_eq_true t3
    have HT : Hid (tableZ is (k : Int) = false) := by
      show _ = _
      rw [HTb.out, decide_eq_false (show ¬ b1 ≤ 4 by omega)]
      simp
    go_enter Tryd.func42, Tryd.ntmps42
    go_wp2_with fail
    refine wp_region_calm W.heap.size (by kernel_rfl) (by kernel_rfl) ?_
    repeat (go_big_quiet_step (fail))
    refine wpQuiet_nil ?_
    rintro w5 ⟨y, rfl⟩
    have HY := hid y.h
    generalize y.w = W1 at *
    go_wp2_with fail
    go_ret
    refine ⟨?_, HY.out⟩
    rw [HT.out]
    rfl
  have t3d : decide (4 < b1) = false := decide_eq_false t3
  by_cases t4 : (is.length : Int) - k ≤ b1
  · have t4d : decide ((is.length : Int) - (k : Int) ≤ b1) = true := decide_eq_true t4
    have HT : Hid (tableZ is (k : Int) = false) := by
      show _ = _
      rw [HTb.out, decide_eq_false (show ¬ b1 < (is.length : Int) - k by omega)]
      simp
    go_enter Tryd.func42, Tryd.ntmps42
    go_wp2_with fail
    refine wp_region_calm W.heap.size (by kernel_rfl) (by kernel_rfl) ?_
    repeat (go_big_quiet_step (fail))
    refine wpQuiet_nil ?_
    rintro w5 ⟨y, rfl⟩
    have HY := hid y.h
    generalize y.w = W1 at *
    go_wp2_with fail
    go_ret
    refine ⟨?_, HY.out⟩
    rw [HT.out]
    rfl
  have t4d : decide ((is.length : Int) - (k : Int) ≤ b1) = false := decide_eq_false t4
  obtain ⟨B, hBz⟩ : ∃ B : Nat, b1 = (B : Int) := ⟨b1.toNat, by have := HB1.out; omega⟩
  have HBk : Hid (b1 = (B : Int) ∧ k + B < is.length ∧ B ≤ 4) := ⟨hBz, by omega, by omega⟩
  clear hBz t3 t4
  go_enter Tryd.func42, Tryd.ntmps42
  go_wp2_with fail
  refine wp_region_calm W.heap.size (by kernel_rfl) (by kernel_rfl) ?_
  repeat (go_big_quiet_step (fail))
  refine wpQuiet_nil ?_
  rintro w5 ⟨y, rfl⟩
  have HY := hid y.h
  generalize y.w = W1 at *
  have hF1 := (HY.out.cell (block_in0 HF.out)).trans HF.out
  have hin1 := HIn.out.1.below HY.out HIn.out.2
  have hc21 := (HY.out.cell (block_in0 HC2.out)).trans HC2.out
  rw [HBk.out.1] at hc21
  have HCl := hid (clauses_calls hF1 hc21 HBk.out.2.1 HN.out.2 HN.out.1)
  clear p0 p1 p2 hF1 hc21
  have HIn1 := hid hin1
  clear hin1
  go_wp2_with fail
  refine HCl.out.mono ?_
  rintro e W2 ⟨ad, cp, rfl, had, hb2⟩
  have HAd := hid had
  have HY2 := hid (HY.out.trans (hb2.mono HY.out.size))
  have HIn2 := hid (HIn1.out.below hb2 (Nat.lt_of_lt_of_le HIn.out.2 HY.out.size))
  clear had hb2 HCl HIn1
  go_wp2_with fail
  have HL : Hid (∀ j, j < B → (clausesZ is (k : Int)).take (j + 1) = (clausesZ is (k : Int)).take j ++ [is.getD (k + (j + 1)) default]) := fun j hj => linesI_next (by rw [HI.out]; exact HBk.out.1) HBk.out.2.1 hj
  have HLl : Hid ((clausesZ is (k : Int)).length = B) := linesI_len (by rw [HI.out]; exact HBk.out.1) HBk.out.2.1
  go_loopw [58] (fun i wr => ∃ (j : Nat), i = .int .i64 (j : Int) ∧ j ≤ B ∧ Hid (Below W2.heap.size W2 wr) ∧ Hid (∀ c ∈ (clausesZ is (k : Int)).take j, c.op = 25)) (fun i _ => B - (intOf i).toNat)
  case atStart => exact ⟨0, rfl, Nat.zero_le _, Below.refl _ _, fun c hc => absurd hc (by simp)⟩
  case round =>
    obtain ⟨j, rfl, hj, HBr, HAr⟩ := hrel
    by_cases hlt : (j : Int) < (B : Int)
    · have hjB : j < B := by omega
      have hkj : k + (j + 1) < is.length := by have := HBk.out; omega
      have hinW := HIn2.out.below HBr.out (Nat.lt_of_lt_of_le HIn.out.2 HY2.out.size)
      have f0 := hinW (k + (j + 1)) hkj 0 (by omega)
      have f1 := hinW (k + (j + 1)) hkj 1 (by omega)
      have f2 := hinW (k + (j + 1)) hkj 2 (by omega)
      have f3 := hinW (k + (j + 1)) hkj 3 (by omega)
      have hnx := HL.out j hjB
      have hmem : is.getD (k + (j + 1)) default ∈ clausesZ is (k : Int) := by
        have h1 : is.getD (k + (j + 1)) default ∈ (clausesZ is (k : Int)).take (j + 1) := by rw [hnx]; simp
        exact List.mem_of_mem_take h1
      obtain ⟨⟨fop, fa, fb, fc⟩, hf⟩ : ∃ i, is.getD (k + (j + 1)) default = i := ⟨_, rfl⟩
      rw [hf] at f0 f1 f2 f3 hnx hmem
      have eo : oc + (k + (j + 1)) * 4 = oc + (k + 1) * 4 + j * 4 := by omega
      rw [eo] at f0 f1 f2 f3
      simp only [In.cell, Nat.add_zero] at f0 f1 f2 f3
      have had := HAd.out (by omega)
      subst had
      have hj0 : (0 : Int) ≤ (j : Int) := by omega
      have hst : B - (intOf (.int .i64 ((j + 1 : Nat) : Int))).toNat < B - (intOf (.int .i64 (j : Int))).toNat := by simp only [intOf, Int.toNat_natCast]; omega
      have HNx := hid hnx
      have HMm := hid hmem
      have HSt := hid hst
      have HJB := hid hjB
      obtain ⟨off, hoff⟩ : ∃ off, oc + (k + 1) * 4 = off := ⟨_, rfl⟩
      rw [hoff] at f0 f1 f2 f3 ⊢
      clear hnx hmem hf hinW hst eo hkj hjB hj hoff
      by_cases hop : fop = 25
      case neg =>
        have hop' : (fop != 25) = true := by simp [hop]
        have HT : Hid (tableZ is (k : Int) = false) := by
          show _ = _
          rw [HTb.out]
          have : (clausesZ is (k : Int)).all (fun i => decide (i.op = 25)) = false := by
            rw [Bool.eq_false_iff]
            intro he
            exact hop (of_decide_eq_true (List.all_eq_true.1 he _ HMm.out))
          rw [this]
          simp
        clear hop
        go_wp2_with fail
        go_ret
        refine ⟨?_, (HY2.out.trans (HBr.out.mono HY2.out.size)).alloc (by have := HY2.out.size; have := HBr.out.size; omega) _⟩
        rw [HT.out]
        rfl
      subst hop
      go_wp2_with fail
      try rw [wrap_inc HJB.out (by have := HBk.out; omega)]
      refine ⟨⟨j + 1, rfl, HJB.out, HBr.out.alloc HBr.out.size _, fun c hc => ?_⟩, HSt.out⟩
      rw [HNx.out, List.mem_append, List.mem_singleton] at hc
      rcases hc with hc | rfl
      · exact HAr.out c hc
      · rfl
    · have hjB : j = B := by omega
      have HT : Hid (tableZ is (k : Int) = true) := by
        show _ = _
        rw [HTb.out]
        have h1 := HBk.out
        have h2 : (clausesZ is (k : Int)).all (fun i => decide (i.op = 25)) = true := List.all_eq_true.2 (fun c hc => decide_eq_true (HAr.out c (by rw [hjB, List.take_of_length_le (by rw [HLl.out]; exact Nat.le_refl _)]; exact hc)))
        rw [h2, decide_eq_true (show (k : Int) < (is.length : Int) by omega), decide_eq_true (show b1 ≤ 4 by omega), decide_eq_true (show b1 < (is.length : Int) - k by omega)]
        rfl
      clear hjB hj
      go_wp2_with fail
      go_ret
      refine ⟨?_, HY2.out.trans (HBr.out.mono HY2.out.size)⟩
      rw [HT.out]
      rfl
end Go.Proofs.YtfmkgppkgmjpfaaDoor
