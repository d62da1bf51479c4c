import Derived.Test.YtebpgglegnljgaaSlmPK2
import Derived.BigQuiet
import Derived.Test.YtebpgglegnljgaaSlmPK1
namespace Go.Proofs.Ytebpgglegnljgaa
open Go.RowKit

def ScanPost (w0 : World) (bm bw N cap : Nat) (o : Option CN) (e : Ending) (w' : World) : Prop :=
  e = .returned (.tuple #[]) ∧ match o with
  | some s => Wk w0 bm bw N cap s false w'
  | none => ∃ s, Wk w0 bm bw N cap s true w'

set_option maxHeartbeats 4000000 in
set_option maxRecDepth 100000 in
theorem sscan_full {w0 W : World} {bm bw N cap : Nat} {s : CN} (c : Wk w0 bm bw N cap s true W) :
    Calls Try.prog 56 #[.pointer (some ⟨bm, 0, none⟩)] W fun e w' => e = .returned (.tuple #[]) ∧ Wk w0 bm bw N cap s true w' := by
  have HC := hid c
  obtain ⟨-, -, -, c3, -, c5, -, -, -, -, c10⟩ := c.blk.cells
  clear c
  generalize s.h.scan = sc at *
  generalize s.h.bottom = bt at *
  go_enter Try.func56, Try.ntmps56
  by_cases hb : sc = bt
  · have hbb : (sc == bt) = true := by simpa using hb
    go_wp2_with fail
    go_quiet (fail)
    have HC2 := hid (HC.out.keep (below_drewN (Below.refl _ _) nq))
    generalize W.drewN nq = W2 at *
    go_wp2_with fail
    exact bodyPost_ret (v := .tuple #[]) (by simp [results, Try.results56, go_sem]) rfl ⟨rfl, HC2.out⟩
  · have hbb : (sc == bt) = false := by simpa using hb
    go_wp2_with fail
    go_quiet (fail)
    have HC2 := hid (HC.out.keep (below_drewN (Below.refl _ _) nq))
    generalize W.drewN nq = W2 at *
    go_wp2_with fail
    exact bodyPost_ret (v := .tuple #[]) (by simp [results, Try.results56, go_sem]) rfl ⟨rfl, HC2.out⟩

theorem fieldZ_stays {s : CN} {q : Nat} (h : lateZ s.h (s.ws.getD q 0) = false) : fieldZ s q = (some (s.ws.getD q 0), { s with r := s.r + 1 }) := by
  unfold fieldZ
  rw [if_pos h]

theorem fieldZ_some {s s2 : CN} {q : Nat} {y : Int} (h : lateZ s.h (s.ws.getD q 0) = true) (hm : moveZ { s with r := s.r + 1 } (s.ws.getD q 0) = (some y, s2)) : fieldZ s q = (some y, ⟨s2.ws.set q y, s2.h, s2.r, s2.t + 1⟩) := by
  unfold fieldZ
  rw [if_neg (by rw [h]; decide), hm]

theorem fieldZ_none {s s2 : CN} {q : Nat} (h : lateZ s.h (s.ws.getD q 0) = true) (hm : moveZ { s with r := s.r + 1 } (s.ws.getD q 0) = (none, s2)) : fieldZ s q = (none, s2) := by
  unfold fieldZ
  rw [if_neg (by rw [h]; decide), hm]

theorem scanOne_is {s : CN} {p n : Nat} (hp : s.h.scan = p) (hn : s.ws.getD p 0 / 16 = n) (hb : s.h.scan ≠ s.h.bottom) : scanOne s = match fieldsRun p (n - 1) { s with r := s.r + 1 } with
    | none => none
    | some s2 => some { s2 with h := { s2.h with scan := (p : Int) + n } } := by
  unfold scanOne
  rw [if_neg hb, show s.h.scan.toNat = p by omega, hn, hp, Int.toNat_natCast]
  try rfl

set_option maxHeartbeats 4000000 in
set_option maxRecDepth 100000 in
theorem sscan_calls {w0 W : World} {bm bw N cap : Nat} {S : List Int} {s : CN} (c : Wk w0 bm bw N cap s false W) (hs : Scn S N s) :
    Calls Try.prog 56 #[.pointer (some ⟨bm, 0, none⟩)] W (ScanPost w0 bm bw N cap (scanOne s)) := by
  have HC := hid c
  have HS := hid hs
  obtain ⟨-, -, -, c3, -, c5, -, -, -, -, c10⟩ := c.blk.cells
  clear c hs
  obtain ⟨R, hR⟩ : ∃ R, scanOne s = R := ⟨_, rfl⟩
  rw [hR]
  have HR := hid hR
  clear hR
  by_cases hb : s.h.scan = s.h.bottom
  · have HF : Hid (R = some s) := by
      have := HR.out
      unfold scanOne at this
      rw [if_pos hb] at this
      exact this.symm
    generalize s.h.scan = sc at *
    generalize s.h.bottom = bt at *
    have hbb : (sc == bt) = true := by simpa using hb
    go_enter Try.func56, Try.ntmps56
    go_wp2_with fail
    go_quiet (fail)
    have HC2 := hid (HC.out.keep (below_drewN (Below.refl _ _) nq))
    generalize W.drewN nq = W2 at *
    go_wp2_with fail
    exact bodyPost_ret (v := .tuple #[]) (by simp [results, Try.results56, go_sem]) rfl (by rw [HF.out]; exact ⟨rfl, HC2.out⟩)
  obtain ⟨p, n, hp, hn, hin⟩ := HS.out.enter hb
  have HIn := hid hin
  have hn3 := hin.hn
  have hpN : p < N := by have := hin.asks (by omega); omega
  have hN8 : N ≤ 8000 := by have := hin.asks (by omega); exact this.2.2.2.2.2.2.2.1
  have HMo := hid ((scanOne_is hp hn hb).symm.trans HR.out)
  have HRd := hid (fun nq => sread_calls (HC.out.keep (below_drewN (Below.refl _ _) nq)) (i := p) hpN)
  rw [hp] at c5 hb
  generalize s.h.bottom = bt at *
  have hbb : ((p : Int) == bt) = false := by simpa using hb
  have c5' : ∀ nq, (W.drewN nq).cell? ⟨bm, 5, none⟩ = some (.int .i64 (p : Int)) := fun nq => c5
  have HPn := hid hn
  clear hin hn hp HC HS HR
  go_enter Try.func56, Try.ntmps56
  go_wp2_with fail
  go_quiet (fail)
  have HRd' := hid (HRd.out nq)
  have c5n := c5' nq
  clear HRd c5 c5' c3 c10
  generalize W.drewN nq = W2 at *
  generalize hF : s.ws.getD p 0 = F at *
  have HPn' : F / 16 = (n : Int) := HPn.out
  go_wp2_with fail
  refine HRd'.out.mono ?_
  rintro e W3 ⟨rfl, hC3⟩
  have HC3 := hid hC3
  clear hC3 HRd' c5n
  go_wp2_with fail
  go_loopw [4] (fun i wr => ∃ (ii : Int) (q : Nat), i = .int .i64 ii ∧ Hid (1 ≤ ii ∧ ii ≤ n) ∧ ((∃ s2, Hid (ii = (q : Int) + 1) ∧ Hid (fieldsRun p q { s with r := s.r + 1 } = some s2) ∧ Hid (Wk w0 bm bw N cap s2 false wr)) ∨ (Hid (fieldsRun p (n - 1) { s with r := s.r + 1 } = none) ∧ ∃ s2, Hid (Wk w0 bm bw N cap s2 true wr)))) (fun i _ => n - (intOf i).toNat)
  case atStart => exact ⟨1, 0, rfl, ⟨by omega, by omega⟩, Or.inl ⟨_, rfl, rfl, HC3.out⟩⟩
  case round =>
    obtain ⟨ii, q, rfl, HQ, hcase⟩ := hrel
    clear HC3
    rcases hcase with ⟨s2, HQ2, HK2, HI2⟩ | ⟨HN, s2, HI2⟩
    case inr =>
      have c10 := HI2.out.blk.cells.2.2.2.2.2.2.2.2.2.2
      have HF : Hid (R = none) := by
        have h2 := HMo.out
        rw [HN.out] at h2
        exact h2.symm
      by_cases hlt : ii < (n : Int)
      · have hd : decide (ii < (n : Int)) = true := decide_eq_true hlt
        go_wp2_with fail
        go_end0
        rw [HF.out]
        exact ⟨rfl, s2, HI2.out⟩
      · have hd : decide (ii < (n : Int)) = false := decide_eq_false hlt
        go_wp2_with fail
        go_end0
        rw [HF.out]
        exact ⟨rfl, s2, HI2.out⟩
    case inl =>
      have HIq := hid (fieldsRun_inn HIn.out q (by have := HQ.out; have := HQ2.out; omega) s2 HK2.out)
      have c10 := HI2.out.blk.cells.2.2.2.2.2.2.2.2.2.2
      by_cases hlt : ii < (n : Int)
      · have hd : decide (ii < (n : Int)) = true := decide_eq_true hlt
        have hq1 : q + 1 < n := by have := HQ2.out; omega
        obtain ⟨k1, k2, k3, k4, k5, k6, k7, k8, k9, k10, k11, k12⟩ := HIq.out.asks hq1
        have h1n : 1 ≤ ii := HQ.out.1
        have HRd := hid (sread_calls HI2.out (i := p + (q + 1)) k1)
        rw [show ((p + (q + 1) : Nat) : Int) = (p : Int) + ii by have := HQ2.out; omega] at HRd
        have HHe := hid (fun (X : World) (hX : Wk w0 bm bw N cap ⟨s2.ws, s2.h, s2.r + 1, s2.t⟩ false X) => here_calls hX (s2.ws.getD (p + (q + 1)) 0) k2 (show s2.h.to ≤ 4000 by omega) (show 0 ≤ s2.h.size by omega) k4)
        have HMv := hid (fun (X : World) (hX : Wk w0 bm bw N cap ⟨s2.ws, s2.h, s2.r + 1, s2.t⟩ false X) => smove_calls hX (s2.ws.getD (p + (q + 1)) 0) k2 k3 k4 k5 k6 k7 k8 k11 k12)
        dsimp only at HHe
        have hpb : (p : Int) ≤ 8000 := by omega
        cases ho : lateZ s2.h (s2.ws.getD (p + (q + 1)) 0) with
        | false =>
          rw [here_not k12 ho] at HHe
          have HZ := hid (fieldZ_stays ho)
          clear k1 k2 k3 k4 k5 k6 k7 k9 k10 k11 k12 ho HMv
          generalize s2.ws.getD (p + (q + 1)) 0 = x at *
          clear HI2
          go_wp2_with fail
          refine HRd.out.mono ?_
          rintro e W5 ⟨rfl, hC5⟩
          have HC5 := hid hC5
          clear hC5 HRd c10
          go_wp2_with fail
          refine (HHe.out _ HC5.out).mono ?_
          rintro e W6 ⟨rfl, hb6⟩
          have HC6 := hid (HC5.out.keep hb6)
          clear hb6 HC5 HHe
          go_wp2_with fail
          have hs : n - (intOf (.int .i64 (ii + 1))).toNat < n - (intOf (.int .i64 ii)).toNat := by simp only [intOf]; omega
          exact ⟨⟨ii + 1, q + 1, rfl, ⟨by omega, by omega⟩, Or.inl ⟨_, by have := HQ2.out; show _ = _; push_cast; omega, fieldsRun_more HK2.out HZ.out, HC6.out⟩⟩, hs⟩
        | true =>
          rw [here_not k12 ho] at HHe
          obtain ⟨o, s3, hz⟩ : ∃ o s3, moveZ ⟨s2.ws, s2.h, s2.r + 1, s2.t⟩ (s2.ws.getD (p + (q + 1)) 0) = (o, s3) := ⟨_, _, rfl⟩
          rw [hz] at HMv
          have HO := hid ho
          have HZ := hid hz
          have HK1 := hid k1
          clear k1 k2 k3 k4 k5 k6 k7 k9 k10 k11 k12 ho hz
          obtain ⟨x, hx⟩ : ∃ x, s2.ws.getD (p + (q + 1)) 0 = x := ⟨_, rfl⟩
          rw [hx] at HRd HHe HMv
          clear hx
          clear HI2
          go_wp2_with fail
          refine HRd.out.mono ?_
          rintro e W5 ⟨rfl, hC5⟩
          have HC5 := hid hC5
          clear hC5 HRd c10
          go_wp2_with fail
          refine (HHe.out _ HC5.out).mono ?_
          rintro e W6 ⟨rfl, hb6⟩
          have HC6 := hid (HC5.out.keep hb6)
          clear hb6 HC5 HHe
          go_wp2_with fail
          refine (HMv.out _ HC6.out).mono ?_
          rintro e W7 ⟨rfl, hC7⟩
          clear HMv HC6
          cases o with
          | some y =>
            have HWr := hid (swrite_calls (W := W7) hC7 (i := p + (q + 1)) HK1.out y)
            rw [show ((p + (q + 1) : Nat) : Int) = (p : Int) + ii by have := HQ2.out; omega] at HWr
            dsimp only [smoveV]
            clear hC7
            go_wp2_with fail
            refine HWr.out.mono ?_
            rintro e W8 ⟨rfl, hC8⟩
            have HC8 := hid hC8
            clear hC8 HWr
            go_wp2_with fail
            have hs : n - (intOf (.int .i64 (ii + 1))).toNat < n - (intOf (.int .i64 ii)).toNat := by simp only [intOf]; omega
            exact ⟨⟨ii + 1, q + 1, rfl, ⟨by omega, by omega⟩, Or.inl ⟨_, by have := HQ2.out; show _ = _; push_cast; omega, fieldsRun_more HK2.out (fieldZ_some HO.out HZ.out), HC8.out⟩⟩, hs⟩
          | none =>
            have HC7 : Hid (Wk w0 bm bw N cap s3 true W7) := hC7
            have HWr := hid (fun i x => swrite_full HC7.out i x)
            dsimp only [smoveV]
            clear hC7
            go_wp2_with fail
            refine (HWr.out _ _).mono ?_
            rintro e W8 ⟨rfl, rfl⟩
            clear HWr
            go_wp2_with fail
            have hs : n - (intOf (.int .i64 (ii + 1))).toNat < n - (intOf (.int .i64 ii)).toNat := by simp only [intOf]; omega
            have h1 := fieldsRun_none (fieldsRun_stop HK2.out (fieldZ_none HO.out HZ.out)) (n - 1 - (q + 1))
            rw [show q + 1 + (n - 1 - (q + 1)) = n - 1 by omega] at h1
            exact ⟨⟨ii + 1, q + 1, rfl, ⟨by omega, by omega⟩, Or.inr ⟨h1, s3, HC7.out⟩⟩, hs⟩
      · have hd : decide (ii < (n : Int)) = false := decide_eq_false hlt
        have hqn : q = n - 1 := by have := HQ.out; have := HQ2.out; omega
        have HF : Hid (R = some { s2 with h := { s2.h with scan := (p : Int) + n } }) := by
          have h2 := HMo.out
          have h1 := HK2.out
          rw [hqn] at h1
          rw [h1] at h2
          exact h2.symm
        have c5' := HI2.out.blk.cells.2.2.2.2.2.1
        have f5' := frozen_of_heap HI2.out.blk 5
        have HI4 := hid (HI2.out.scanned ((p : Int) + n))
        clear HI2 HIq
        have hpb : (p : Int) + n ≤ 8000 + 6 := by omega
        go_wp2_with fail
        go_end0
        rw [HF.out]
        exact ⟨rfl, HI4.out⟩
end Go.Proofs.Ytebpgglegnljgaa

namespace Go.Proofs.Ytebpgglegnljgaa
open Go.RowKit

set_option maxRecDepth 100000 in
theorem sread_full {w0 W : World} {bm bw N cap : Nat} {s : CN} (c : Wk w0 bm bw N cap s true W) (i : Int) :
    Calls Try.prog 81 #[.pointer (some ⟨bm, 0, none⟩), .int .i64 i] W fun e w' => e = .returned (.int .i64 3) ∧ W = w' := by
  obtain ⟨-, -, -, -, -, -, -, -, -, -, c10⟩ := c.blk.cells
  have HMk := hid (fun w => specMake_calls 3 0 w)
  have HMz : Hid (makeZ 3 0 = 3) := by show _ = _; simp [makeZ, wrap64]
  rw [HMz.out] at HMk
  clear c
  go_enter Try.func81, Try.ntmps81
  go_wp2_with fail
  refine (HMk.out _).mono ?_
  rintro e w1 ⟨rfl, rfl⟩
  go_wp2_with fail
  go_ret
  exact ⟨rfl, rfl⟩

set_option maxHeartbeats 2000000 in
set_option maxRecDepth 100000 in
theorem smove_dead {w0 W : World} {bm bw N cap : Nat} {s : CN} (c : Wk w0 bm bw N cap s true W) (x : Int) (h0 : 0 ≤ s.h.to) (h1 : s.h.to ≤ s.h.size) (h3 : s.h.size ≤ 4000) (hb0 : 0 ≤ s.h.bottom) (hbt : s.h.bottom ≤ s.h.top) (hN : s.h.top ≤ 8000) :
    Calls Try.prog 75 #[.pointer (some ⟨bm, 0, none⟩), .int .i64 x] W fun e w' => (∃ z : Int, e = .returned (.int .i64 z)) ∧ Wk w0 bm bw N cap s true w' := by
  have HIo := hid (here_calls c x h0 (by omega) (by omega) h3)
  have HC := hid c
  clear c
  cases hh : hereZ s.h x with
  | true =>
    rw [hh] at HIo
    go_enter Try.func75, Try.ntmps75
    go_wp2_with fail
    refine HIo.out.mono ?_
    rintro e W1 ⟨rfl, hb1⟩
    have HC1 := hid (HC.out.keep hb1)
    clear hb1 HIo
    go_wp2_with fail
    go_ret
    exact ⟨⟨_, rfl⟩, HC1.out⟩
  | false =>
    rw [hh] at HIo
    have HNum := hid (fun w => specNum_calls x w)
    unfold numZ at HNum
    have HMk := hid (fun (y : Int) w => specMake_calls 0 y w)
    go_enter Try.func75, Try.ntmps75
    go_wp2_with fail
    refine HIo.out.mono ?_
    rintro e W1 ⟨rfl, hb1⟩
    have HC1 := hid (HC.out.keep hb1)
    have HRd := hid (fun i => sread_full HC1.out i)
    clear hb1 HIo HC
    go_wp2_with fail
    refine (HNum.out _).mono ?_
    rintro e W2 ⟨rfl, rfl⟩
    go_wp2_with fail
    refine (HRd.out _).mono ?_
    rintro e W3 ⟨rfl, rfl⟩
    obtain ⟨-, -, -, c3, c4, -, -, -, -, -, -⟩ := HC1.out.blk.cells
    have f3 := frozen_of_heap HC1.out.blk 3
    have hk : bits .and .i64 3 15 = 3 := rfl
    have HWr := hid (fun nq i y => swrite_full (HC1.out.keep (below_drewN (Below.refl _ _) nq)) i y)
    have HBs := hid (fun nq => (HC1.out.keep (below_drewN (Below.refl _ _) nq)).bottom s.h.bottom)
    generalize hbt' : s.h.bottom = bt at *
    generalize s.h.top = tp at *
    go_wp2_with fail
    go_quiet (fail)
    have HWr' := hid (HWr.out nq)
    have HBs' := hid (HBs.out nq)
    have c3' : (W1.drewN nq).cell? ⟨bm, 3, none⟩ = some (.int .i64 bt) := c3
    have f3' : (W1.drewN nq).frozen? ⟨bm, 3, none⟩ = false := f3
    clear HWr HBs c3 c4 f3 HRd HC1
    generalize W1.drewN nq = W4 at *
    go_wp2_with fail
    refine (HWr'.out _ _).mono ?_
    rintro e W5 ⟨rfl, rfl⟩
    go_wp2_with fail
    refine wp_loop_rounds 1 ?_
    rw [rounds_succ]
    have HS5 : Hid (Wk w0 bm bw N cap s true (W4.setCell ⟨bm, 3, none⟩ (.int .i64 bt))) := by
      have e := HBs'.out
      rw [← hbt'] at e ⊢
      exact e
    have HWs := hid (fun i y => swrite_full HS5.out i y)
    clear HBs'
    go_wp2_with fail
    refine (HWs.out _ _).mono ?_
    rintro e W6 ⟨rfl, rfl⟩
    go_wp2_with fail
    refine (HMk.out _ _).mono ?_
    rintro e W7 ⟨rfl, rfl⟩
    go_wp2_with fail
    refine (HWs.out _ _).mono ?_
    rintro e W8 ⟨rfl, rfl⟩
    go_wp2_with fail
    refine (HMk.out _ _).mono ?_
    rintro e W9 ⟨rfl, rfl⟩
    go_wp2_with fail
    go_ret
    exact ⟨⟨_, rfl⟩, HS5.out⟩

theorem Wk.beside {w0 W : World} {bm bw N cap g : Nat} {s : CN} {full : Bool} (c : Wk w0 bm bw N cap s full W) (h1 : g ≠ bm) (h2 : g ≠ bw) (i : Nat) (x : Value) : Wk (W.setCell ⟨g, i, none⟩ x) bm bw N cap s full (W.setCell ⟨g, i, none⟩ x) :=
  ⟨(Below.heap_setCell _ _ _ _ (fun e => h1 e.symm)).trans c.blk, c.row.of_block (Below.heap_setCell _ _ _ _ (fun e => h2 e.symm)), c.len, c.ne, Frm.refl _ _ _⟩

def FullOk (s : CN) : Prop := 0 ≤ s.h.to ∧ s.h.to ≤ s.h.size ∧ s.h.size ≤ 4000 ∧ 0 ≤ s.h.bottom ∧ s.h.bottom ≤ s.h.top ∧ s.h.top ≤ 8000

def SMovesPost (W : World) (bm bw N cap g n : Nat) (o : Option (List Int × CN)) (e : Ending) (w' : World) : Prop :=
  e = .returned (.tuple #[]) ∧ Frm3 W bm bw g w' ∧ match o with
  | some (ys, s) => Wk w' bm bw N cap s false w' ∧ CellRow 3 w' g n (intCells ys)
  | none => (∃ s, Wk w' bm bw N cap s true w' ∧ FullOk s) ∧ ∃ ys : List Int, ys.length = n ∧ CellRow 3 w' g n (intCells ys)

theorem Wk.toSet {w0 W : World} {bm bw N cap : Nat} {s : CN} {full : Bool} (c : Wk w0 bm bw N cap s full W) (x : Int) : Wk w0 bm bw N cap { s with h := { s.h with to := x } } full (W.setCell ⟨bm, 2, none⟩ (.int .i64 x)) :=
  ⟨by simpa [WkBlk, touchZ] using set_block c.blk 2 (.int .i64 x), c.row.of_block (Below.heap_setCell _ _ _ _ (fun e => c.ne e.symm)), c.len, c.ne, c.frame.set (Or.inl rfl) _⟩

theorem Wk.topSet {w0 W : World} {bm bw N cap : Nat} {s : CN} {full : Bool} (c : Wk w0 bm bw N cap s full W) (x : Int) : Wk w0 bm bw N cap { s with h := { s.h with top := x } } full (W.setCell ⟨bm, 4, none⟩ (.int .i64 x)) :=
  ⟨by simpa [WkBlk, touchZ] using set_block c.blk 4 (.int .i64 x), c.row.of_block (Below.heap_setCell _ _ _ _ (fun e => c.ne e.symm)), c.len, c.ne, c.frame.set (Or.inl rfl) _⟩

theorem Wk.fbSet {w0 W : World} {bm bw N cap : Nat} {s : CN} {full : Bool} (c : Wk w0 bm bw N cap s full W) (x : Int) : Wk w0 bm bw N cap { s with h := { s.h with fb := x } } full (W.setCell ⟨bm, 6, none⟩ (.int .i64 x)) :=
  ⟨by simpa [WkBlk, touchZ] using set_block c.blk 6 (.int .i64 x), c.row.of_block (Below.heap_setCell _ _ _ _ (fun e => c.ne e.symm)), c.len, c.ne, c.frame.set (Or.inl rfl) _⟩

theorem Wk.ftSet {w0 W : World} {bm bw N cap : Nat} {s : CN} {full : Bool} (c : Wk w0 bm bw N cap s full W) (x : Int) : Wk w0 bm bw N cap { s with h := { s.h with ft := x } } full (W.setCell ⟨bm, 7, none⟩ (.int .i64 x)) :=
  ⟨by simpa [WkBlk, touchZ] using set_block c.blk 7 (.int .i64 x), c.row.of_block (Below.heap_setCell _ _ _ _ (fun e => c.ne e.symm)), c.len, c.ne, c.frame.set (Or.inl rfl) _⟩

theorem Wk.flipsSet {w0 W : World} {bm bw N cap : Nat} {s : CN} {full : Bool} (c : Wk w0 bm bw N cap s full W) (x : Int) : Wk w0 bm bw N cap { s with h := { s.h with flips := x } } full (W.setCell ⟨bm, 8, none⟩ (.int .i64 x)) :=
  ⟨by simpa [WkBlk, touchZ] using set_block c.blk 8 (.int .i64 x), c.row.of_block (Below.heap_setCell _ _ _ _ (fun e => c.ne e.symm)), c.len, c.ne, c.frame.set (Or.inl rfl) _⟩

set_option maxHeartbeats 4000000 in
set_option maxRecDepth 100000 in
theorem sflip_calls {w0 W : World} {bm bw N cap g n gcap : Nat} {S : List Int} {s : CN} (c : Wk w0 bm bw N cap s false W) (h0 : 0 ≤ s.h.to) (h1 : s.h.to ≤ s.h.size) (h2 : s.h.size ≤ 4000) (hs : Mvs S N 0 { s with h := flipH s.h }) (xs : List Int) (hl : xs.length = n) (hn : n ≤ 20) (hg1 : g ≠ bm) (hg2 : g ≠ bw) (hr : CellRow 3 W g n (intCells xs)) (ha : ∀ i, i < xs.length → Aim S (flipH s.h) N (xs.getD i 0)) :
    Calls Try.prog 49 #[.pointer (some ⟨bm, 0, none⟩), .slice (some ⟨g, 0, none⟩) n gcap] W (SMovesPost W bm bw N cap g n (movesRun xs n { s with h := flipH s.h })) := by
  have HC := hid (Wk.rebase c W (Frm.refl _ _ _))
  have HRw := hid hr
  have HMv := hid (movesRun_mvs hs ha)
  obtain ⟨R, hR⟩ : ∃ R, movesRun xs n { s with h := flipH s.h } = R := ⟨_, rfl⟩
  rw [hR]
  have HR := hid hR
  have HL := hid hl
  have HG1 := hid hg1
  have HG2 := hid hg2
  have HNn := hid hn
  obtain ⟨c0, c1, c2, c3, c4, c5, c6, c7, c8, c9, c10⟩ := c.blk.cells
  have hFr := hid (fun w => specFrom_calls (.slice (some ⟨bw, 0, none⟩) N cap) { s.h with touched := touchZ s } w h0 (show s.h.to ≤ 4000 by omega) (show 0 ≤ s.h.size by omega) h2)
  have f2 := frozen_of_heap HC.out.blk 2
  have f3 := frozen_of_heap HC.out.blk 3
  have f4 := frozen_of_heap HC.out.blk 4
  have f5 := frozen_of_heap HC.out.blk 5
  have f6 := frozen_of_heap HC.out.blk 6
  have f7 := frozen_of_heap HC.out.blk 7
  have f8 := frozen_of_heap HC.out.blk 8
  clear c hr hR hs ha hl hg1 hg2 hn
  obtain ⟨ws, ⟨g1, g2, g3, g4, g5, g6, g7, g8, g9⟩, r, t⟩ := s
  unfold heapV at hFr
  dsimp only at *
  generalize hTau : touchZ ⟨ws, ⟨g1, g2, g3, g4, g5, g6, g7, g8, g9⟩, r, t⟩ = tau at hFr c9
  clear hTau
  go_enter Try.func49, Try.ntmps49
  go_wp2_with fail
  refine (hFr.out _).mono ?_
  rintro e W1 ⟨rfl, hb1⟩
  have HC1 := hid (HC.out.keep hb1)
  have HC2 := hid (((((((HC1.out.fbSet g3).ftSet g4).toSet (g1 - g2)).bottom (g1 - g2)).scanned (g1 - g2)).topSet (g1 - g2 + g1)).flipsSet (wrap64 (g8 + 1)))
  clear c0 c1 c2 c3 c4 c5 c6 c7 c8 c9 c10 f2 f3 f4 f5 f6 f7 f8 hb1 hFr HC
  obtain ⟨-, c1, c2, c3, c4, c5, c6, c7, c8, -, -⟩ := HC1.out.blk.cells
  have f2 := frozen_of_heap HC1.out.blk 2
  have f3 := frozen_of_heap HC1.out.blk 3
  have f4 := frozen_of_heap HC1.out.blk 4
  have f5 := frozen_of_heap HC1.out.blk 5
  have f6 := frozen_of_heap HC1.out.blk 6
  have f7 := frozen_of_heap HC1.out.blk 7
  have f8 := frozen_of_heap HC1.out.blk 8
  dsimp only at c1 c2 c3 c4 c5 c6 c7 c8 HC2
  clear HC1
  go_wp2_with fail
  have HC3 : Hid (Wk _ bm bw N cap ⟨ws, flipH ⟨g1, g2, g3, g4, g5, g6, g7, g8, g9⟩, r, t⟩ false _) := HC2.out
  have HRw3 := hid (HRw.out.of_block (HC3.out.frame.block g HRw.out.lt HG1.out HG2.out))
  have HF3 := hid ((Frm3.refl W bm bw g).step HC3.out.frame)
  have HC4 := hid (HC3.out.rebase _ (Frm.refl _ _ _))
  clear HC2 HC3 HRw c1 c2 c3 c4 c5 c6 c7 c8 f2 f3 f4 f5 f6 f7 f8
  generalize (((((((W1.setCell ⟨bm, 6, none⟩ (.int .i64 g3)).setCell ⟨bm, 7, none⟩ (.int .i64 g4)).setCell ⟨bm, 2, none⟩ (.int .i64 (g1 - g2))).setCell ⟨bm, 3, none⟩ (.int .i64 (g1 - g2))).setCell ⟨bm, 5, none⟩ (.int .i64 (g1 - g2))).setCell ⟨bm, 4, none⟩ (.int .i64 (g1 - g2 + g1))).setCell ⟨bm, 8, none⟩ (.int .i64 (wrap64 (g8 + 1)))) = W2 at *
  generalize (⟨ws, flipH ⟨g1, g2, g3, g4, g5, g6, g7, g8, g9⟩, r, t⟩ : CN) = s1 at *
  go_loopw [5] (fun i wr => ∃ (ii : Int) (k : Nat), i = .int .i64 ii ∧ Hid (ii = (k : Int) ∧ k ≤ n) ∧ Hid (Frm3 W bm bw g wr) ∧ ((∃ ys s', Hid (movesRun xs k s1 = some (ys, s')) ∧ Hid (Wk wr bm bw N cap s' false wr) ∧ Hid (CellRow 3 wr g n (intCells ys))) ∨ (Hid (movesRun xs k s1 = none) ∧ (∃ s', Hid (Wk wr bm bw N cap s' true wr) ∧ Hid (0 ≤ s'.h.to ∧ s'.h.to ≤ s'.h.size ∧ s'.h.size ≤ 4000 ∧ 0 ≤ s'.h.bottom ∧ s'.h.bottom ≤ s'.h.top ∧ s'.h.top ≤ 8000)) ∧ ∃ ys : List Int, Hid (ys.length = n) ∧ Hid (CellRow 3 wr g n (intCells ys))))) (fun i _ => n - (intOf i).toNat)
  case atStart => exact ⟨0, 0, rfl, ⟨rfl, by omega⟩, HF3.out, Or.inl ⟨xs, s1, rfl, HC4.out, HRw3.out⟩⟩
  case round =>
    obtain ⟨ii, k, rfl, HQ, HF, hcase⟩ := hrel
    clear HC4 HRw3 HF3
    have hi0 : 0 ≤ ii := by have := HQ.out; omega
    by_cases hlt : ii < (n : Int)
    · have hkn : k < n := by have := HQ.out; omega
      have hik : ii.toNat = k := by have := HQ.out; omega
      have hw : Hid (wrap64 (ii + 1) = ii + 1) := by have := HQ.out; have := HNn.out; show _ = _; unfold wrap64; omega
      have hs : Hid (n - (intOf (.int .i64 (ii + 1))).toNat < n - (intOf (.int .i64 ii)).toNat) := by show _ < _; simp only [intOf]; have := HQ.out; omega
      rcases hcase with ⟨ys, s', HK, HI, HRo⟩ | ⟨HK, ⟨s', HI, HB⟩, ys, HLy, HRo⟩
      · obtain ⟨m1, m2, m3⟩ := HMv.out k (by have := HL.out; omega) ys s' HK.out
        obtain ⟨e1, e2⟩ := m3 k (Nat.le_refl _) (by have := HL.out; omega)
        rw [← e1] at e2
        have hm2 := m1.step e2
        obtain ⟨k2, k3, k4, k5, k6, k7, k8, k9, k10, k11, k12⟩ := m1.asks (by have := HNn.out; omega) e2
        have HMo := hid (smove_calls HI.out (ys.getD k 0) k2 k3 k4 k5 k6 k7 k8 k11 k12)
        have q0 := HRo.out.cell (i := k) hkn
        unfold intCells at q0
        have HLy : Hid (ys.length = n) := m2.trans HL.out
        obtain ⟨o, s2, hz⟩ : ∃ o s2, moveZ s' (ys.getD k 0) = (o, s2) := ⟨_, _, rfl⟩
        rw [hz] at HMo hm2
        have HZ := hid hz
        have HN2 := hid hm2.1.nums
        clear hz m1 m2 m3 e1 e2 k2 k3 k4 k5 k6 k7 k8 k9 k10 k11 k12 hm2
        go_wp2_with fail
        refine HMo.out.mono ?_
        rintro e W4 ⟨rfl, hC4⟩
        have HC4 := hid hC4
        have hblk := hC4.frame.block g HRo.out.lt HG1.out HG2.out
        have HRo4 := hid (HRo.out.of_block hblk)
        have q0' : W4.cell? ⟨g, k, none⟩ = some (.int .i64 (ys.getD k 0)) := (World.cell?_of_block (w := wr) hblk).trans q0
        obtain ⟨_, _, hrow, _, _⟩ := HRo4.out
        have q1' := hrow.frozen k hkn
        clear hC4 HMo q0 hrow hblk
        cases o with
        | some y =>
          dsimp only [smoveV]
          go_wp2_with fail
          rw [hw.out]
          exact ⟨⟨ii + 1, k + 1, rfl, ⟨by have := HQ.out; push_cast; omega, by omega⟩, (HF.out.step HC4.out.frame).set k _, Or.inl ⟨ys.set k y, s2, movesRun_more HK.out HZ.out, HC4.out.beside HG1.out HG2.out k _, row_set HRo4.out HLy.out hkn y⟩⟩, hs.out⟩
        | none =>
          dsimp only [smoveV]
          have HSt := hid (movesRun_stop HK.out HZ.out)
          have HBd : Hid (0 ≤ s2.h.to ∧ s2.h.to ≤ s2.h.size ∧ s2.h.size ≤ 4000 ∧ 0 ≤ s2.h.bottom ∧ s2.h.bottom ≤ s2.h.top ∧ s2.h.top ≤ 8000) := by
            have o1 := HN2.out.s0
            have o2 := HN2.out.s1
            have o4 := HN2.out.to
            have o5 := HN2.out.b0
            have o6 := HN2.out.bt
            have o7 := HN2.out.te
            exact ⟨by omega, by omega, o2, by omega, o6, by omega⟩
          clear HZ
          generalize ys.getD k 0 = y at *
          go_wp2_with fail
          rw [hw.out]
          exact ⟨⟨ii + 1, k + 1, rfl, ⟨by have := HQ.out; push_cast; omega, by omega⟩, (HF.out.step HC4.out.frame).set k _, Or.inr ⟨HSt.out, ⟨s2, HC4.out.beside HG1.out HG2.out k _, HBd.out⟩, ys.set k y, by show _ = _; rw [List.length_set]; exact HLy.out, row_set HRo4.out HLy.out hkn y⟩⟩, hs.out⟩
      · obtain ⟨b1, b2, b3, b4, b5, b6⟩ := HB.out
        have HMo := hid (smove_dead HI.out (ys.getD k 0) b1 b2 b3 b4 b5 b6)
        have q0 := HRo.out.cell (i := k) hkn
        unfold intCells at q0
        clear b1 b2 b3 b4 b5 b6
        generalize ys.getD k 0 = x at *
        go_wp2_with fail
        refine HMo.out.mono ?_
        rintro e W4 ⟨⟨y, rfl⟩, hC4⟩
        have HC4 := hid hC4
        have hblk := hC4.frame.block g HRo.out.lt HG1.out HG2.out
        have HRo4 := hid (HRo.out.of_block hblk)
        have q0' : W4.cell? ⟨g, k, none⟩ = some (.int .i64 x) := (World.cell?_of_block (w := wr) hblk).trans q0
        obtain ⟨_, _, hrow, _, _⟩ := HRo4.out
        have q1' := hrow.frozen k hkn
        clear hC4 HMo q0 hrow hblk
        go_wp2_with fail
        rw [hw.out]
        exact ⟨⟨ii + 1, k + 1, rfl, ⟨by have := HQ.out; push_cast; omega, by omega⟩, (HF.out.step HC4.out.frame).set k _, Or.inr ⟨movesRun_none HK.out 1, ⟨s', HC4.out.beside HG1.out HG2.out k _, HB.out⟩, ys.set k y, by show _ = _; rw [List.length_set]; exact HLy.out, row_set HRo4.out HLy.out hkn y⟩⟩, hs.out⟩
    · have hkn : k = n := by have := HQ.out; omega
      rcases hcase with ⟨ys, s', HK, HI, HRo⟩ | ⟨HK, ⟨s', HI, HB⟩, ys, HLy, HRo⟩
      · have HFi : Hid (R = some (ys, s')) := by have h := HK.out; rw [hkn, HR.out] at h; exact h
        go_wp2_with fail
        go_end0
        rw [HFi.out]
        exact ⟨rfl, HF.out, HI.out, HRo.out⟩
      · have HFi : Hid (R = none) := by have h := HK.out; rw [hkn, HR.out] at h; exact h
        go_wp2_with fail
        go_end0
        rw [HFi.out]
        exact ⟨rfl, HF.out, ⟨s', HI.out, HB.out⟩, ys, HLy.out, HRo.out⟩
end Go.Proofs.Ytebpgglegnljgaa

namespace Go.Proofs.Ytebpgglegnljgaa
open Go.RowKit

def SNewPost (W : World) (bm bw N cap g n gf : Nat) (o : Option (List Int × CN)) (e : Ending) (w' : World) : Prop :=
  match o with
  | some (rs, s) => e = .returned (.int .i64 (makeZ 0 s.h.top)) ∧ Wk w' bm bw N cap s false w' ∧ CellRow 3 w' g n (intCells rs) ∧ Frm4 W bm bw g gf w'
  | none => e = .returned (.int .i64 0) ∧ (∃ s, Wk w' bm bw N cap s true w') ∧ Frm4 W bm bw g gf w'

def ScanInv (W : World) (bm bw N cap : Nat) (o : Option CN) (X : World) : Prop :=
  match o with
  | some s => Wk W bm bw N cap s false X
  | none => ∃ s, Wk W bm bw N cap s true X

def fieldsO (o : Option (List Int × CN)) (fs : List Int) (k : Nat) : Option (List Int × CN) :=
  match o with
  | none => none
  | some (_, s) => movesRun fs k s

def rsO (o : Option (List Int × CN)) : List Int :=
  match o with
  | none => []
  | some (rs, _) => rs

theorem fieldsO_none {o : Option (List Int × CN)} {fs : List Int} {k : Nat} (h : fieldsO o fs k = none) : fieldsO o fs (k + 1) = none := by
  cases o with
  | none => rfl
  | some p => exact movesRun_none h 1

theorem fieldsO_more {o : Option (List Int × CN)} {fs ys : List Int} {s' s'' : CN} {k : Nat} {y : Int} (h : fieldsO o fs k = some (ys, s')) (he : moveZ s' (ys.getD k 0) = (some y, s'')) : fieldsO o fs (k + 1) = some (ys.set k y, s'') := by
  cases o with
  | none => cases h
  | some p => exact movesRun_more h he

theorem fieldsO_stop {o : Option (List Int × CN)} {fs ys : List Int} {s' s'' : CN} {k : Nat} (h : fieldsO o fs k = some (ys, s')) (he : moveZ s' (ys.getD k 0) = (none, s'')) : fieldsO o fs (k + 1) = none := by
  cases o with
  | none => cases h
  | some p => exact movesRun_stop h he

def endZ (kind : Int) (n : Nat) (rs : List Int) : Option (List Int × CN) → Option (List Int × CN)
  | none => none
  | some (fs, s) => if s.h.top - s.h.bottom < n then none else some (rs, putZ kind fs s)

set_option maxHeartbeats 16000000 in
set_option maxRecDepth 100000 in
theorem sMake_full {W : World} {bm bw N cap g n gc gf nf fc m : Nat} {kind mi : Int} (n1 : Int) (hn1 : wrap64 (1 + (nf : Int)) = n1) (Hmi : Hid (mi = (m : Int) ∧ m ≤ 20)) (s0 : CN) (HW : Hid (Wk W bm bw N cap s0 false W))
    (HSc : Hid (∀ (k : Nat) (X : World), k < m → ScanInv W bm bw N cap (scanRun k s0) X → Calls Try.prog 56 #[.pointer (some ⟨bm, 0, none⟩)] X fun e w' => e = .returned (.tuple #[]) ∧ ScanInv W bm bw N cap (scanRun (k + 1) s0) w'))
    (hsn : scanRun m s0 = none) :
    Calls Try.prog 47 #[.pointer (some ⟨bm, 0, none⟩), .slice (some ⟨g, 0, none⟩) n gc, .int .i64 kind, .slice (some ⟨gf, 0, none⟩) nf fc, .int .i64 mi] W (SNewPost W bm bw N cap g n gf none) := by
  have hn0 := hn1
  have Hn1 := hid hn1
  clear hn1
  go_enter Try.func47, Try.ntmps47
  go_wp2_with fail
  go_loopw [11] (fun i wr => ∃ (ii : Int) (k : Nat), i = .int .i64 ii ∧ Hid (ii = (k : Int) ∧ k ≤ m) ∧ Hid (ScanInv W bm bw N cap (scanRun k s0) wr)) (fun i _ => m - (intOf i).toNat)
  case atStart => exact ⟨0, 0, rfl, ⟨rfl, by omega⟩, HW.out⟩
  case round =>
    obtain ⟨ii, k, rfl, HQ, HI⟩ := hrel
    clear HW
    by_cases hlt : ii < mi
    · have hkm : k < m := by have := HQ.out; have := Hmi.out; omega
      have hs : Hid (m - (intOf (.int .i64 (ii + 1))).toNat < m - (intOf (.int .i64 ii)).toNat) := by have := HQ.out; show _ < _; simp only [intOf]; omega
      have hw : Hid (wrap64 (ii + 1) = ii + 1) := by have := HQ.out; have := Hmi.out; show _ = _; unfold wrap64; omega
      have HS1 := hid (HSc.out k wr hkm HI.out)
      clear HI
      go_wp2_with fail
      refine HS1.out.mono ?_
      rintro e W1 ⟨rfl, hC1⟩
      have HC1 := hid hC1
      clear hC1 HS1
      go_wp2_with fail
      rw [hw.out]
      exact ⟨⟨ii + 1, k + 1, rfl, ⟨by have := HQ.out; push_cast; omega, by omega⟩, HC1.out⟩, hs.out⟩
    have hkm : k = m := by have := HQ.out; have := Hmi.out; omega
    subst hkm
    rename World => W1
    rw [hsn] at HI
    obtain ⟨s1, hC⟩ := HI.out
    have HC1 := hid hC
    obtain ⟨-, -, -, c3, c4, c5, -, -, -, -, c10⟩ := hC.blk.cells
    clear hC HI hsn
    obtain ⟨tp, htp⟩ : ∃ tp, s1.h.top = tp := ⟨_, rfl⟩
    obtain ⟨bt, hbt⟩ : ∃ bt, s1.h.bottom = bt := ⟨_, rfl⟩
    obtain ⟨sc, hsc⟩ : ∃ sc, s1.h.scan = sc := ⟨_, rfl⟩
    rw [htp] at c4
    rw [hbt] at c3
    rw [hsc] at c5
    clear htp hbt hsc
    obtain ⟨ai, hai⟩ : ∃ ai, wrap64 (tp - n1) = ai := ⟨_, rfl⟩
    have hq : decide (ai < bt) = false ∨ (decide (ai < bt) = true ∧ (sc == bt) = false) ∨ (decide (ai < bt) = true ∧ (sc == bt) = true) := by
      cases decide (ai < bt) <;> cases (sc == bt) <;> simp
    rcases hq with hd | ⟨hd, he⟩ | ⟨hd, he⟩
    all_goals
      go_wp2_with fail
      go_quiet (fail)
      have HC := hid (HC1.out.keep (below_drewN (Below.refl _ _) nq))
      have d3 : (W1.drewN nq).cell? ⟨bm, 3, none⟩ = _ := c3
      have d4 : (W1.drewN nq).cell? ⟨bm, 4, none⟩ = _ := c4
      have d10 : (W1.drewN nq).cell? ⟨bm, 10, none⟩ = _ := c10
      clear c3 c4 c5 c10 HC1
      generalize W1.drewN nq = W2 at *
      clear nq
      have HCd := hid (fun nq => (HC.out.keep (below_drewN (Below.refl _ _) nq)).filled true)
      have f10 := fun nq => frozen_of_heap (HC.out.keep (below_drewN (Below.refl _ _) nq)).blk 10
      have c10' := fun nq => (HC.out.keep (below_drewN (Below.refl _ _) nq)).blk.cells.2.2.2.2.2.2.2.2.2.2
      clear HC
      go_wp2_with fail
      go_quiet (fail)
      have HCe := hid (HCd.out nq)
      have f10' := f10 nq
      have c10'' := c10' nq
      clear f10 d3 d4 d10 c10' HCd
      generalize W2.drewN nq = We at *
      go_wp2_with fail
      go_ret
      exact ⟨rfl, ⟨s1, HCe.out.rebase _ (Frm.refl _ _ _)⟩, HCe.out.frame.four _ _⟩

set_option maxHeartbeats 16000000 in
set_option maxRecDepth 100000 in
theorem sMake_late {W : World} {bm bw N cap g n gc gf nf fc m : Nat} {kind mi : Int} (n1 : Int) (hn1 : wrap64 (1 + (nf : Int)) = n1) (Hmi : Hid (mi = (m : Int) ∧ m ≤ 20)) (s0 : CN) (HW : Hid (Wk W bm bw N cap s0 false W))
    (HSc : Hid (∀ (k : Nat) (X : World), k < m → ScanInv W bm bw N cap (scanRun k s0) X → Calls Try.prog 56 #[.pointer (some ⟨bm, 0, none⟩)] X fun e w' => e = .returned (.tuple #[]) ∧ ScanInv W bm bw N cap (scanRun (k + 1) s0) w'))
    (s1 : CN) (hsn : scanRun m s0 = some s1) (ai : Int) (hai : wrap64 (s1.h.top - n1) = ai) (hd : decide (ai < s1.h.bottom) = true) (hne : (s1.h.scan == s1.h.bottom) = false) :
    Calls Try.prog 47 #[.pointer (some ⟨bm, 0, none⟩), .slice (some ⟨g, 0, none⟩) n gc, .int .i64 kind, .slice (some ⟨gf, 0, none⟩) nf fc, .int .i64 mi] W (SNewPost W bm bw N cap g n gf none) := by
  have hn0 := hn1
  have Hn1 := hid hn1
  clear hn1
  go_enter Try.func47, Try.ntmps47
  go_wp2_with fail
  go_loopw [11] (fun i wr => ∃ (ii : Int) (k : Nat), i = .int .i64 ii ∧ Hid (ii = (k : Int) ∧ k ≤ m) ∧ Hid (ScanInv W bm bw N cap (scanRun k s0) wr)) (fun i _ => m - (intOf i).toNat)
  case atStart => exact ⟨0, 0, rfl, ⟨rfl, by omega⟩, HW.out⟩
  case round =>
    obtain ⟨ii, k, rfl, HQ, HI⟩ := hrel
    clear HW
    by_cases hlt : ii < mi
    · have hkm : k < m := by have := HQ.out; have := Hmi.out; omega
      have hs : Hid (m - (intOf (.int .i64 (ii + 1))).toNat < m - (intOf (.int .i64 ii)).toNat) := by have := HQ.out; show _ < _; simp only [intOf]; omega
      have hw : Hid (wrap64 (ii + 1) = ii + 1) := by have := HQ.out; have := Hmi.out; show _ = _; unfold wrap64; omega
      have HS1 := hid (HSc.out k wr hkm HI.out)
      clear HI
      go_wp2_with fail
      refine HS1.out.mono ?_
      rintro e W1 ⟨rfl, hC1⟩
      have HC1 := hid hC1
      clear hC1 HS1
      go_wp2_with fail
      rw [hw.out]
      exact ⟨⟨ii + 1, k + 1, rfl, ⟨by have := HQ.out; push_cast; omega, by omega⟩, HC1.out⟩, hs.out⟩
    have hkm : k = m := by have := HQ.out; have := Hmi.out; omega
    subst hkm
    rename World => W1
    rw [hsn] at HI
    have HC1 : Hid (Wk W bm bw N cap s1 false W1) := HI.out
    obtain ⟨-, -, -, c3, c4, c5, -, -, -, -, c10⟩ := HC1.out.blk.cells
    clear HI hsn
    obtain ⟨tp, htp⟩ : ∃ tp, s1.h.top = tp := ⟨_, rfl⟩
    obtain ⟨bt, hbt⟩ : ∃ bt, s1.h.bottom = bt := ⟨_, rfl⟩
    obtain ⟨sc, hsc⟩ : ∃ sc, s1.h.scan = sc := ⟨_, rfl⟩
    rw [htp] at c4 hai
    rw [hbt] at c3 hd
    rw [hsc] at c5
    rw [hsc, hbt] at hne
    clear htp hbt hsc
    go_wp2_with fail
    go_quiet (fail)
    have HC := hid (HC1.out.keep (below_drewN (Below.refl _ _) nq))
    have d3 : (W1.drewN nq).cell? ⟨bm, 3, none⟩ = _ := c3
    have d4 : (W1.drewN nq).cell? ⟨bm, 4, none⟩ = _ := c4
    have d10 : (W1.drewN nq).cell? ⟨bm, 10, none⟩ = _ := c10
    clear c3 c4 c5 c10 HC1
    generalize W1.drewN nq = W2 at *
    clear nq
    have HCd := hid (fun nq => (HC.out.keep (below_drewN (Below.refl _ _) nq)).filled true)
    have f10 := fun nq => frozen_of_heap (HC.out.keep (below_drewN (Below.refl _ _) nq)).blk 10
    have c10' := fun nq => (HC.out.keep (below_drewN (Below.refl _ _) nq)).blk.cells.2.2.2.2.2.2.2.2.2.2
    clear HC
    go_wp2_with fail
    go_quiet (fail)
    have HCe := hid (HCd.out nq)
    have f10' := f10 nq
    have c10'' := c10' nq
    clear f10 d3 d4 d10 c10' HCd
    generalize W2.drewN nq = We at *
    go_wp2_with fail
    go_ret
    exact ⟨rfl, ⟨s1, HCe.out.rebase _ (Frm.refl _ _ _)⟩, HCe.out.frame.four _ _⟩

set_option maxHeartbeats 16000000 in
set_option maxRecDepth 100000 in
theorem sMake_room {W : World} {bm bw N cap g n gc gf nf fc m : Nat} {kind mi : Int} (n1 : Int) (hn1 : wrap64 (1 + (nf : Int)) = n1) (Hmi : Hid (mi = (m : Int) ∧ m ≤ 20)) (s0 : CN) (HW : Hid (Wk W bm bw N cap s0 false W))
    (HSc : Hid (∀ (k : Nat) (X : World), k < m → ScanInv W bm bw N cap (scanRun k s0) X → Calls Try.prog 56 #[.pointer (some ⟨bm, 0, none⟩)] X fun e w' => e = .returned (.tuple #[]) ∧ ScanInv W bm bw N cap (scanRun (k + 1) s0) w'))
    (fs rs : List Int) (hl : fs.length = nf) (HNf : Hid (nf = 2 ∨ nf = 5)) (HK : Hid (0 ≤ kind ∧ kind ≤ 15)) (hg1 : gf ≠ bm) (hg2 : gf ≠ bw) (hq1 : g ≠ bm) (hq2 : g ≠ bw)
    (HRf : Hid (CellRow 3 W gf nf (intCells fs))) (HRr : Hid (CellRow 3 W g n (intCells rs)))
    (s1 : CN) (hsn : scanRun m s0 = some s1) (ai : Int) (hai : wrap64 (s1.h.top - n1) = ai) (hd : decide (ai < s1.h.bottom) = false)
    (Hput : Hid (0 ≤ ai ∧ s1.h.top = ai + (1 + nf : Nat) ∧ s1.h.top ≤ (N : Int) ∧ N ≤ 8000)) :
    Calls Try.prog 47 #[.pointer (some ⟨bm, 0, none⟩), .slice (some ⟨g, 0, none⟩) n gc, .int .i64 kind, .slice (some ⟨gf, 0, none⟩) nf fc, .int .i64 mi] W (SNewPost W bm bw N cap g n gf (some (rs, putZ kind fs s1))) := by
  have hn0 := hn1
  have Hn1 := hid hn1
  clear hn1
  go_enter Try.func47, Try.ntmps47
  go_wp2_with fail
  go_loopw [11] (fun i wr => ∃ (ii : Int) (k : Nat), i = .int .i64 ii ∧ Hid (ii = (k : Int) ∧ k ≤ m) ∧ Hid (ScanInv W bm bw N cap (scanRun k s0) wr)) (fun i _ => m - (intOf i).toNat)
  case atStart => exact ⟨0, 0, rfl, ⟨rfl, by omega⟩, HW.out⟩
  case round =>
    obtain ⟨ii, k, rfl, HQ, HI⟩ := hrel
    clear HW
    by_cases hlt : ii < mi
    · have hkm : k < m := by have := HQ.out; have := Hmi.out; omega
      have hs : Hid (m - (intOf (.int .i64 (ii + 1))).toNat < m - (intOf (.int .i64 ii)).toNat) := by have := HQ.out; show _ < _; simp only [intOf]; omega
      have hw : Hid (wrap64 (ii + 1) = ii + 1) := by have := HQ.out; have := Hmi.out; show _ = _; unfold wrap64; omega
      have HS1 := hid (HSc.out k wr hkm HI.out)
      clear HI
      go_wp2_with fail
      refine HS1.out.mono ?_
      rintro e W1 ⟨rfl, hC1⟩
      have HC1 := hid hC1
      clear hC1 HS1
      go_wp2_with fail
      rw [hw.out]
      exact ⟨⟨ii + 1, k + 1, rfl, ⟨by have := HQ.out; push_cast; omega, by omega⟩, HC1.out⟩, hs.out⟩
    have hkm : k = m := by have := HQ.out; have := Hmi.out; omega
    subst hkm
    rename World => W1
    rw [hsn] at HI
    have HC1 : Hid (Wk W bm bw N cap s1 false W1) := HI.out
    obtain ⟨-, -, -, c3, c4, c5, -, -, -, -, c10⟩ := HC1.out.blk.cells
    clear HI hsn
    obtain ⟨tp, htp⟩ : ∃ tp, s1.h.top = tp := ⟨_, rfl⟩
    obtain ⟨bt, hbt⟩ : ∃ bt, s1.h.bottom = bt := ⟨_, rfl⟩
    obtain ⟨sc, hsc⟩ : ∃ sc, s1.h.scan = sc := ⟨_, rfl⟩
    rw [htp] at c4 hai
    rw [hbt] at c3 hd
    rw [hsc] at c5
    clear htp hbt hsc
    go_wp2_with fail
    go_quiet (fail)
    have HC := hid (HC1.out.keep (below_drewN (Below.refl _ _) nq))
    have d3 : (W1.drewN nq).cell? ⟨bm, 3, none⟩ = _ := c3
    have d4 : (W1.drewN nq).cell? ⟨bm, 4, none⟩ = _ := c4
    have d10 : (W1.drewN nq).cell? ⟨bm, 10, none⟩ = _ := c10
    clear c3 c4 c5 c10 HC1
    generalize W1.drewN nq = W2 at *
    clear nq
    have HCd := hid (fun nq => HC.out.keep (below_drewN (Below.refl _ _) nq))
    clear HC
    go_wp2_with fail
    go_quiet (fail)
    have HC4 := hid (HCd.out nq)
    have c4 : (W2.drewN nq).cell? ⟨bm, 4, none⟩ = _ := d4
    have f4 := frozen_of_heap HC4.out.blk 4
    have HC5 := hid (HC4.out.topSet ai)
    clear d3 d4 d10 HCd hd
    generalize W2.drewN nq = W3 at *
    clear nq
    obtain ⟨an, han⟩ : ∃ an : Nat, ai = (an : Int) := ⟨ai.toNat, by have := Hput.out; omega⟩
    have Han := hid han
    have hnn : Hid (n1 = ((1 + nf : Nat) : Int)) := by have := Hn1.out; have := HNf.out; show _ = _; unfold wrap64 at *; omega
    obtain ⟨hv, hhv⟩ : ∃ hv : Int, wrap64 (wrap64 (16 * n1) + kind) = hv := ⟨_, rfl⟩
    have Hhv : Hid (hv = ((1 + nf : Nat) : Int) * 16 + kind) := by have := hnn.out; have := HNf.out; have := HK.out; show _ = _; rw [← hhv]; unfold wrap64; omega
    obtain ⟨hw, hhw⟩ : ∃ hw : Int, wrap64 (16 * n1) = hw := ⟨_, rfl⟩
    rw [hhw] at hhv
    have HS4 : Hid (headZ kind (1 + nf) an s1 = ⟨s1.ws.set an hv, { s1.h with top := ai }, s1.r, s1.t + 1⟩) := by show _ = _; rw [Hhv.out, Han.out]; rfl
    have hanN : an < N := by have := Hput.out; have := Han.out; omega
    have HWr : Hid (Calls Try.prog 76 #[.pointer (some ⟨bm, 0, none⟩), .int .i64 ai, .int .i64 hv] (W3.setCell ⟨bm, 4, none⟩ (.int .i64 ai)) (fun e w' => e = .returned (.tuple #[]) ∧ Wk W bm bw N cap ⟨s1.ws.set an hv, { s1.h with top := ai }, s1.r, s1.t + 1⟩ false w')) := by
      have e := swrite_calls HC5.out hanN hv
      rw [← Han.out] at e
      exact e
    clear HC4 HC5 han
    go_wp2_with fail
    refine HWr.out.mono ?_
    rintro e W4 ⟨rfl, hC6⟩
    have HC6 : Hid (Wk W bm bw N cap (headZ kind (1 + nf) an s1) false W4) := by rw [HS4.out]; exact hC6
    obtain ⟨s5, hs5⟩ : ∃ s5, headZ kind (1 + nf) an s1 = s5 := ⟨_, rfl⟩
    rw [hs5] at HC6
    have Hs5 := hid hs5
    have HT5 : Hid (s5.h.top = ai) := by show _ = _; rw [← hs5, Han.out]; rfl
    have HL := hid hl
    clear hC6 HWr c4 f4 HS4 hs5 hl hai hhv hhw
    go_wp2_with fail
    go_loopw [15] (fun i wr => ∃ (ii : Int) (k : Nat), i = .int .i64 ii ∧ Hid (ii = (k : Int) ∧ k ≤ nf) ∧ Hid (Wk W bm bw N cap (writesRun fs an k s5) false wr)) (fun i _ => nf - (intOf i).toNat)
    case atStart => exact ⟨0, 0, rfl, ⟨rfl, by omega⟩, HC6.out⟩
    case round =>
      obtain ⟨ii, k, rfl, HQ, HI⟩ := hrel
      have hi0 : 0 ≤ ii := by have := HQ.out; omega
      obtain ⟨k1, k2, k3, k4⟩ := writesRun_keeps fs an s5 k
      by_cases hlt : ii < (nf : Int)
      · have hkn : k < nf := by have := HQ.out; omega
        have hik : ii.toNat = k := by have := HQ.out; omega
        have q0 := (HRf.out.of_block (HI.out.frame.block gf HRf.out.lt hg1 hg2)).cell (i := k) hkn
        unfold intCells at q0
        obtain ⟨z1, hw1⟩ : ∃ z1, wrap64 (ai + 1) = z1 := ⟨_, rfl⟩
        obtain ⟨z2, hw2⟩ : ∃ z2, wrap64 (z1 + ii) = z2 := ⟨_, rfl⟩
        have hz2 : z2 = ((an + 1 + k : Nat) : Int) := by have := Hput.out; have := HQ.out; have := Han.out; rw [← hw2, ← hw1]; unfold wrap64; omega
        have HWk := hid (swrite_calls HI.out (i := an + 1 + k) (by have := Hput.out; have := Han.out; omega) (fs.getD k 0))
        rw [← hz2] at HWk
        have hsd : Hid (nf - (intOf (.int .i64 (ii + 1))).toNat < nf - (intOf (.int .i64 ii)).toNat) := by show _ < _; simp only [intOf]; have := HQ.out; omega
        obtain ⟨fk, hfk⟩ : ∃ fk, fs.getD k 0 = fk := ⟨_, rfl⟩
        rw [hfk] at q0 HWk
        have Hfk := hid hfk
        clear hfk k1 k2 k3 k4 hz2
        go_wp2_with fail
        refine HWk.out.mono ?_
        rintro e W6 ⟨rfl, hC7⟩
        have HC7 := hid hC7
        clear hC7 HWk q0 HI
        go_wp2_with fail
        have hw : wrap64 (ii + 1) = ii + 1 := by have := HQ.out; have := HNf.out; unfold wrap64; omega
        rw [hw]
        exact ⟨⟨ii + 1, k + 1, rfl, ⟨by have := HQ.out; push_cast; omega, by omega⟩, by have e := HC7.out; rw [← Hfk.out] at e; exact e⟩, hsd.out⟩
      · have hkn : k = nf := by have := HQ.out; omega
        have HIf := HI
        have HPt : Hid (writesRun fs an k s5 = putZ kind fs s1) := by
          show _ = _
          unfold putZ
          rw [hkn, ← Hs5.out, HL.out, show (s1.h.top - ((1 + nf : Nat) : Int)).toNat = an by have := Hput.out; have := Han.out; omega]
        have HTp : Hid ((putZ kind fs s1).h.top = ai) := by show _ = _; rw [← HPt.out, k2]; exact HT5.out
        have HMk := hid (fun w => specMake_calls 0 ai w)
        go_wp2_with fail
        refine (HMk.out _).mono ?_
        rintro e W7 ⟨rfl, rfl⟩
        go_wp2_with fail
        go_ret
        refine ⟨by rw [HTp.out]; rfl, ?_, HRr.out.of_block (HIf.out.frame.block g HRr.out.lt hq1 hq2), HIf.out.frame.four _ _⟩
        rw [← HPt.out]
        exact HIf.out.rebase _ (Frm.refl _ _ _)

set_option maxHeartbeats 16000000 in
set_option maxRecDepth 100000 in
theorem sMake_flip {W : World} {bm bw N cap g n gc gf nf fc m : Nat} {kind mi : Int} (n1 : Int) (hn1 : wrap64 (1 + (nf : Int)) = n1) (Hmi : Hid (mi = (m : Int) ∧ m ≤ 20)) (s0 : CN) (HW : Hid (Wk W bm bw N cap s0 false W))
    (HSc : Hid (∀ (k : Nat) (X : World), k < m → ScanInv W bm bw N cap (scanRun k s0) X → Calls Try.prog 56 #[.pointer (some ⟨bm, 0, none⟩)] X fun e w' => e = .returned (.tuple #[]) ∧ ScanInv W bm bw N cap (scanRun (k + 1) s0) w'))
    (fs rs : List Int) (hlf : fs.length = nf) (HNf : Hid (nf = 2 ∨ nf = 5)) (HK : Hid (0 ≤ kind ∧ kind ≤ 15)) (hg1 : gf ≠ bm) (hg2 : gf ≠ bw) (hq1 : g ≠ bm) (hq2 : g ≠ bw) (hgg : gf ≠ g)
    (HRf : Hid (CellRow 3 W gf nf (intCells fs))) (HRr : Hid (CellRow 3 W g n (intCells rs)))
    (s1 : CN) (hsn : scanRun m s0 = some s1) (ai0 : Int) (hai0 : wrap64 (s1.h.top - n1) = ai0) (hd0 : decide (ai0 < s1.h.bottom) = true) (heq : (s1.h.scan == s1.h.bottom) = true)
    (o2 : Option (List Int × CN)) (S : List Int)
    (HFl : Hid (∀ w0 X, Wk w0 bm bw N cap s1 false X → CellRow 3 X g n (intCells rs) → Calls Try.prog 49 #[.pointer (some ⟨bm, 0, none⟩), .slice (some ⟨g, 0, none⟩) n gc] X (SMovesPost X bm bw N cap g n o2)))
    (HMv : Hid (∀ k, k < nf → ∀ ys s', fieldsO o2 fs k = some (ys, s') → Mvs S N (20 + k) s' ∧ ys.length = nf ∧ Aim S s'.h N (ys.getD k 0)))
    (HFin : Hid (∀ ys s', fieldsO o2 fs nf = some (ys, s') → (0 ≤ s'.h.bottom ∧ s'.h.bottom ≤ s'.h.top ∧ s'.h.top ≤ (N : Int) ∧ N ≤ 8000) ∧ ys.length = nf)) :
    Calls Try.prog 47 #[.pointer (some ⟨bm, 0, none⟩), .slice (some ⟨g, 0, none⟩) n gc, .int .i64 kind, .slice (some ⟨gf, 0, none⟩) nf fc, .int .i64 mi] W (SNewPost W bm bw N cap g n gf (endZ kind (1 + nf) (rsO o2) (fieldsO o2 fs nf))) := by
  obtain ⟨R, hR⟩ : ∃ R, endZ kind (1 + nf) (rsO o2) (fieldsO o2 fs nf) = R := ⟨_, rfl⟩
  rw [hR]
  have HR := hid hR
  clear hR
  have hn0 := hn1
  have Hn1 := hid hn1
  clear hn1
  go_enter Try.func47, Try.ntmps47
  go_wp2_with fail
  go_loopw [11] (fun i wr => ∃ (ii : Int) (k : Nat), i = .int .i64 ii ∧ Hid (ii = (k : Int) ∧ k ≤ m) ∧ Hid (ScanInv W bm bw N cap (scanRun k s0) wr)) (fun i _ => m - (intOf i).toNat)
  case atStart => exact ⟨0, 0, rfl, ⟨rfl, by omega⟩, HW.out⟩
  case round =>
    obtain ⟨ii, k, rfl, HQ, HI⟩ := hrel
    clear HW
    by_cases hlt : ii < mi
    · have hkm : k < m := by have := HQ.out; have := Hmi.out; omega
      have hs : Hid (m - (intOf (.int .i64 (ii + 1))).toNat < m - (intOf (.int .i64 ii)).toNat) := by have := HQ.out; show _ < _; simp only [intOf]; omega
      have hw : Hid (wrap64 (ii + 1) = ii + 1) := by have := HQ.out; have := Hmi.out; show _ = _; unfold wrap64; omega
      have HS1 := hid (HSc.out k wr hkm HI.out)
      clear HI
      go_wp2_with fail
      refine HS1.out.mono ?_
      rintro e W1 ⟨rfl, hC1⟩
      have HC1 := hid hC1
      clear hC1 HS1
      go_wp2_with fail
      rw [hw.out]
      exact ⟨⟨ii + 1, k + 1, rfl, ⟨by have := HQ.out; push_cast; omega, by omega⟩, HC1.out⟩, hs.out⟩
    have hkm : k = m := by have := HQ.out; have := Hmi.out; omega
    subst hkm
    rename World => W1
    rw [hsn] at HI
    have HC1 : Hid (Wk W bm bw N cap s1 false W1) := HI.out
    obtain ⟨-, -, -, c3, c4, c5, -, -, -, -, c10⟩ := HC1.out.blk.cells
    clear HI hsn
    obtain ⟨tp, htp⟩ : ∃ tp, s1.h.top = tp := ⟨_, rfl⟩
    obtain ⟨bt, hbt⟩ : ∃ bt, s1.h.bottom = bt := ⟨_, rfl⟩
    obtain ⟨sc, hsc⟩ : ∃ sc, s1.h.scan = sc := ⟨_, rfl⟩
    rw [htp] at c4 hai0
    rw [hbt] at c3 hd0
    rw [hsc] at c5
    rw [hsc, hbt] at heq
    clear htp hbt hsc
    go_wp2_with fail
    go_quiet (fail)
    have HC := hid (HC1.out.keep (below_drewN (Below.refl _ _) nq))
    have d3 : (W1.drewN nq).cell? ⟨bm, 3, none⟩ = _ := c3
    have d4 : (W1.drewN nq).cell? ⟨bm, 4, none⟩ = _ := c4
    have d10 : (W1.drewN nq).cell? ⟨bm, 10, none⟩ = _ := c10
    clear c3 c4 c5 c10 HC1
    generalize W1.drewN nq = W2 at *
    clear nq
    clear hai0 hd0 heq
    go_wp2_with fail
    refine (HFl.out _ _ HC.out (HRr.out.of_block (HC.out.frame.block g HRr.out.lt hq1 hq2))).mono ?_
    rintro e W3 ⟨rfl, hf3, hP3⟩
    have HF3 := hid ((HC.out.frame.four g gf).trans (hf3.four gf))
    have hrw := HRf.out.of_block (HC.out.frame.block gf HRf.out.lt hg1 hg2)
    have HRf3 := hid (hrw.of_block (hf3.2.2.2.2 gf hrw.lt hg1 hg2 hgg))
    have HRg : Hid (∀ rs' s2, o2 = some (rs', s2) → CellRow 3 W3 g n (intCells rs')) := fun rs' s2 e => by
      subst e
      exact hP3.2
    have HIn : Hid ((∃ ys s', Hid (fieldsO o2 fs 0 = some (ys, s')) ∧ Hid (Wk W3 bm bw N cap s' false W3) ∧ Hid (CellRow 3 W3 gf nf (intCells ys))) ∨ (Hid (fieldsO o2 fs 0 = none) ∧ (∃ s', Hid (Wk W3 bm bw N cap s' true W3) ∧ Hid (FullOk s')) ∧ ∃ ys : List Int, Hid (ys.length = nf) ∧ Hid (CellRow 3 W3 gf nf (intCells ys)))) := by
      cases o2 with
      | none =>
        obtain ⟨⟨s', hw, hfo⟩, -⟩ := hP3
        exact Or.inr ⟨rfl, ⟨s', hw, hfo⟩, fs, hlf, HRf3.out⟩
      | some p =>
        obtain ⟨rs', s2⟩ := p
        exact Or.inl ⟨fs, s2, rfl, hP3.1, HRf3.out⟩
    have HLf := hid hlf
    clear hlf hrw hf3 hP3 HC d3 d4 d10 HFl HRf3
    go_wp2_with fail
    go_loopw [13] (fun i wr => ∃ (ii : Int) (k : Nat), i = .int .i64 ii ∧ Hid (ii = (k : Int) ∧ k ≤ nf) ∧ Hid (Frm3 W3 bm bw gf wr) ∧ ((∃ ys s', Hid (fieldsO o2 fs k = some (ys, s')) ∧ Hid (Wk wr bm bw N cap s' false wr) ∧ Hid (CellRow 3 wr gf nf (intCells ys))) ∨ (Hid (fieldsO o2 fs k = none) ∧ (∃ s', Hid (Wk wr bm bw N cap s' true wr) ∧ Hid (FullOk s')) ∧ ∃ ys : List Int, Hid (ys.length = nf) ∧ Hid (CellRow 3 wr gf nf (intCells ys))))) (fun i _ => nf - (intOf i).toNat)
    case atStart => exact ⟨0, 0, rfl, ⟨rfl, by omega⟩, Frm3.refl _ _ _ _, HIn.out⟩
    case round =>
      obtain ⟨ii, k, rfl, HQ, HF, hcase⟩ := hrel
      clear HIn
      have hi0 : 0 ≤ ii := by have := HQ.out; omega
      by_cases hlt : ii < (nf : Int)
      · have hkn : k < nf := by have := HQ.out; omega
        have hik : ii.toNat = k := by have := HQ.out; omega
        have hw : Hid (wrap64 (ii + 1) = ii + 1) := by have := HQ.out; have := HNf.out; show _ = _; unfold wrap64; omega
        have hs : Hid (nf - (intOf (.int .i64 (ii + 1))).toNat < nf - (intOf (.int .i64 ii)).toNat) := by show _ < _; simp only [intOf]; have := HQ.out; omega
        rcases hcase with ⟨ys, s', HK', HI, HRo⟩ | ⟨HK', ⟨s', HI, HB⟩, ys, HLy, HRo⟩
        · obtain ⟨m1, m2, e2⟩ := HMv.out k hkn ys s' HK'.out
          have hm2 := m1.step e2
          obtain ⟨k2, k3, k4, k5, k6, k7, k8, k9, k10, k11, k12⟩ := m1.asks (by have := HNf.out; omega) e2
          have HMo := hid (smove_calls HI.out (ys.getD k 0) k2 k3 k4 k5 k6 k7 k8 k11 k12)
          have q0 := HRo.out.cell (i := k) hkn
          unfold intCells at q0
          have HLy : Hid (ys.length = nf) := m2
          obtain ⟨o, s2, hz⟩ : ∃ o s2, moveZ s' (ys.getD k 0) = (o, s2) := ⟨_, _, rfl⟩
          rw [hz] at HMo hm2
          have HZ := hid hz
          have HN2 := hid hm2.1.nums
          clear hz m1 m2 e2 k2 k3 k4 k5 k6 k7 k8 k9 k10 k11 k12 hm2
          go_wp2_with fail
          refine HMo.out.mono ?_
          rintro e W4 ⟨rfl, hC4⟩
          have HC4 := hid hC4
          have hblk := hC4.frame.block gf HRo.out.lt hg1 hg2
          have HRo4 := hid (HRo.out.of_block hblk)
          have q0' : W4.cell? ⟨gf, k, none⟩ = some (.int .i64 (ys.getD k 0)) := (World.cell?_of_block (w := wr) hblk).trans q0
          obtain ⟨_, _, hrow, _, _⟩ := HRo4.out
          have q1' := hrow.frozen k hkn
          clear hC4 HMo q0 hrow hblk
          cases o with
          | some y =>
            dsimp only [smoveV]
            go_wp2_with fail
            rw [hw.out]
            exact ⟨⟨ii + 1, k + 1, rfl, ⟨by have := HQ.out; push_cast; omega, by omega⟩, (HF.out.step HC4.out.frame).set k _, Or.inl ⟨ys.set k y, s2, fieldsO_more HK'.out HZ.out, HC4.out.beside hg1 hg2 k _, row_set HRo4.out HLy.out hkn y⟩⟩, hs.out⟩
          | none =>
            dsimp only [smoveV]
            have HSt := hid (fieldsO_stop HK'.out HZ.out)
            have HBd : Hid (FullOk s2) := by
              have o1 := HN2.out.s0
              have o2 := HN2.out.s1
              have o4 := HN2.out.to
              have o5 := HN2.out.b0
              have o6 := HN2.out.bt
              have o7 := HN2.out.te
              exact ⟨by omega, by omega, o2, by omega, o6, by omega⟩
            clear HZ
            generalize ys.getD k 0 = y at *
            go_wp2_with fail
            rw [hw.out]
            exact ⟨⟨ii + 1, k + 1, rfl, ⟨by have := HQ.out; push_cast; omega, by omega⟩, (HF.out.step HC4.out.frame).set k _, Or.inr ⟨HSt.out, ⟨s2, HC4.out.beside hg1 hg2 k _, HBd.out⟩, ys.set k y, by show _ = _; rw [List.length_set]; exact HLy.out, row_set HRo4.out HLy.out hkn y⟩⟩, hs.out⟩
        · obtain ⟨b1, b2, b3, b4, b5, b6⟩ := HB.out
          have HMo := hid (smove_dead HI.out (ys.getD k 0) b1 b2 b3 b4 b5 b6)
          have q0 := HRo.out.cell (i := k) hkn
          unfold intCells at q0
          clear b1 b2 b3 b4 b5 b6
          generalize ys.getD k 0 = x at *
          go_wp2_with fail
          refine HMo.out.mono ?_
          rintro e W4 ⟨⟨y, rfl⟩, hC4⟩
          have HC4 := hid hC4
          have hblk := hC4.frame.block gf HRo.out.lt hg1 hg2
          have HRo4 := hid (HRo.out.of_block hblk)
          have q0' : W4.cell? ⟨gf, k, none⟩ = some (.int .i64 x) := (World.cell?_of_block (w := wr) hblk).trans q0
          obtain ⟨_, _, hrow, _, _⟩ := HRo4.out
          have q1' := hrow.frozen k hkn
          clear hC4 HMo q0 hrow hblk
          go_wp2_with fail
          rw [hw.out]
          exact ⟨⟨ii + 1, k + 1, rfl, ⟨by have := HQ.out; push_cast; omega, by omega⟩, (HF.out.step HC4.out.frame).set k _, Or.inr ⟨fieldsO_none HK'.out, ⟨s', HC4.out.beside hg1 hg2 k _, HB.out⟩, ys.set k y, by show _ = _; rw [List.length_set]; exact HLy.out, row_set HRo4.out HLy.out hkn y⟩⟩, hs.out⟩
      have hkn : k = nf := by have := HQ.out; omega
      rename World => W5
      have HF5 := hid (HF3.out.trans (HF.out.four' g))
      rcases hcase with ⟨ys, s', HK', HI, HRo⟩ | ⟨HK', ⟨s', HI, HB⟩, ys, HLy, HRo⟩
      · have HEn : fieldsO o2 fs nf = some (ys, s') := by rw [← hkn]; exact HK'.out
        obtain ⟨⟨p1, p2, p3, p4⟩, m2⟩ := HFin.out ys s' HEn
        obtain ⟨rs', s2, ho2⟩ : ∃ rs' s2, o2 = some (rs', s2) := by
          cases o2 with
          | none => exact absurd HEn (by simp [fieldsO])
          | some p => exact ⟨_, _, rfl⟩
        have HRg5 := hid ((HRg.out rs' s2 ho2).of_block (HF.out.2.2.2.2 g (HRg.out rs' s2 ho2).lt hq1 hq2 (Ne.symm hgg)))
        have hrs : rsO o2 = rs' := by rw [ho2]; rfl
        have HC := HI
        obtain ⟨-, -, -, d3, d4, -, -, -, -, -, d10⟩ := HC.out.blk.cells
        obtain ⟨tp, htp⟩ : ∃ tp, s'.h.top = tp := ⟨_, rfl⟩
        obtain ⟨bt, hbt⟩ : ∃ bt, s'.h.bottom = bt := ⟨_, rfl⟩
        obtain ⟨ai, hai⟩ : ∃ ai, wrap64 (tp - n1) = ai := ⟨_, rfl⟩
        rw [htp] at d4
        rw [hbt] at d3
        have hnn : n1 = ((1 + nf : Nat) : Int) := by have := Hn1.out; have := HNf.out; unfold wrap64 at *; omega
        by_cases hr : s'.h.top - s'.h.bottom < ((1 + nf : Nat) : Int)
        · have HRn : Hid (R = none) := by show _ = _; rw [← HR.out, HEn, hrs]; exact if_pos hr
          have hd : decide (ai < bt) = true := by have := HNf.out; rw [decide_eq_true_eq, ← hai]; unfold wrap64; omega
          clear hr htp hbt p1 p2 p3 p4 hnn m2 HI ho2 hrs HEn
          have HCd := hid (fun nq => (HC.out.keep (below_drewN (Below.refl _ _) nq)).filled true)
          have f10 := fun nq => frozen_of_heap (HC.out.keep (below_drewN (Below.refl _ _) nq)).blk 10
          have c10' := fun nq => (HC.out.keep (below_drewN (Below.refl _ _) nq)).blk.cells.2.2.2.2.2.2.2.2.2.2
          clear HC
          go_wp2_with fail
          go_quiet (fail)
          have HCe := hid (HCd.out nq)
          have f10' := f10 nq
          have c10'' := c10' nq
          clear f10 d3 d4 d10 c10' HCd
          generalize W5.drewN nq = We at *
          go_wp2_with fail
          go_ret
          rw [HRn.out]
          exact ⟨rfl, ⟨s', HCe.out.rebase _ (Frm.refl _ _ _)⟩, HF5.out.trans (HCe.out.frame.four _ _)⟩
        · have HRn : Hid (R = some (rs', putZ kind ys s')) := by show _ = _; rw [← HR.out, HEn, hrs]; exact if_neg hr
          have hai2 : ai = s'.h.top - ((1 + nf : Nat) : Int) := by have := HNf.out; rw [← hai, htp]; unfold wrap64; omega
          have hd : decide (ai < bt) = false := by rw [decide_eq_false_iff_not]; omega
          have Hput : Hid (0 ≤ ai ∧ s'.h.top = ai + ((1 + nf : Nat) : Int) ∧ s'.h.top ≤ (N : Int) ∧ N ≤ 8000) := ⟨by omega, by omega, p3, p4⟩
          have hl := m2
          clear hr htp hbt p1 p2 p3 p4 hnn m2 HI ho2 hrs HEn hai2
          have HCd := hid (fun nq => HC.out.keep (below_drewN (Below.refl _ _) nq))
          clear HC
          go_wp2_with fail
          go_quiet (fail)
          have HC4 := hid (HCd.out nq)
          have c4 : (W5.drewN nq).cell? ⟨bm, 4, none⟩ = _ := d4
          have f4 := frozen_of_heap HC4.out.blk 4
          have HC5 := hid (HC4.out.topSet ai)
          clear d3 d4 d10 HCd hd
          generalize W5.drewN nq = W3 at *
          clear nq
          obtain ⟨an, han⟩ : ∃ an : Nat, ai = (an : Int) := ⟨ai.toNat, by have := Hput.out; omega⟩
          have Han := hid han
          have hnn : Hid (n1 = ((1 + nf : Nat) : Int)) := by have := Hn1.out; have := HNf.out; show _ = _; unfold wrap64 at *; omega
          obtain ⟨hv, hhv⟩ : ∃ hv : Int, wrap64 (wrap64 (16 * n1) + kind) = hv := ⟨_, rfl⟩
          have Hhv : Hid (hv = ((1 + nf : Nat) : Int) * 16 + kind) := by have := hnn.out; have := HNf.out; have := HK.out; show _ = _; rw [← hhv]; unfold wrap64; omega
          obtain ⟨hw, hhw⟩ : ∃ hw : Int, wrap64 (16 * n1) = hw := ⟨_, rfl⟩
          rw [hhw] at hhv
          have HS4 : Hid (headZ kind (1 + nf) an s' = ⟨s'.ws.set an hv, { s'.h with top := ai }, s'.r, s'.t + 1⟩) := by show _ = _; rw [Hhv.out, Han.out]; rfl
          have hanN : an < N := by have := Hput.out; have := Han.out; omega
          have HWr : Hid (Calls Try.prog 76 #[.pointer (some ⟨bm, 0, none⟩), .int .i64 ai, .int .i64 hv] (W3.setCell ⟨bm, 4, none⟩ (.int .i64 ai)) (fun e w' => e = .returned (.tuple #[]) ∧ Wk W5 bm bw N cap ⟨s'.ws.set an hv, { s'.h with top := ai }, s'.r, s'.t + 1⟩ false w')) := by
            have e := swrite_calls HC5.out hanN hv
            rw [← Han.out] at e
            exact e
          clear HC4 HC5 han
          go_wp2_with fail
          refine HWr.out.mono ?_
          rintro e W4 ⟨rfl, hC6⟩
          have HC6 : Hid (Wk W5 bm bw N cap (headZ kind (1 + nf) an s') false W4) := by rw [HS4.out]; exact hC6
          obtain ⟨s5, hs5⟩ : ∃ s5, headZ kind (1 + nf) an s' = s5 := ⟨_, rfl⟩
          rw [hs5] at HC6
          have Hs5 := hid hs5
          have HT5 : Hid (s5.h.top = ai) := by show _ = _; rw [← hs5, Han.out]; rfl
          have HL := hid hl
          clear hC6 HWr c4 f4 HS4 hs5 hl hai hhv hhw
          go_wp2_with fail
          go_loopw [15] (fun i wr => ∃ (ii : Int) (k : Nat), i = .int .i64 ii ∧ Hid (ii = (k : Int) ∧ k ≤ nf) ∧ Hid (Wk W5 bm bw N cap (writesRun ys an k s5) false wr)) (fun i _ => nf - (intOf i).toNat)
          case atStart => exact ⟨0, 0, rfl, ⟨rfl, by omega⟩, HC6.out⟩
          case round =>
            obtain ⟨ii, k, rfl, HQ, HI⟩ := hrel
            have hi0 : 0 ≤ ii := by have := HQ.out; omega
            obtain ⟨k1, k2, k3, k4⟩ := writesRun_keeps ys an s5 k
            by_cases hlt : ii < (nf : Int)
            · have hkn : k < nf := by have := HQ.out; omega
              have hik : ii.toNat = k := by have := HQ.out; omega
              have q0 := (HRo.out.of_block (HI.out.frame.block gf HRo.out.lt hg1 hg2)).cell (i := k) hkn
              unfold intCells at q0
              obtain ⟨z1, hw1⟩ : ∃ z1, wrap64 (ai + 1) = z1 := ⟨_, rfl⟩
              obtain ⟨z2, hw2⟩ : ∃ z2, wrap64 (z1 + ii) = z2 := ⟨_, rfl⟩
              have hz2 : z2 = ((an + 1 + k : Nat) : Int) := by have := Hput.out; have := HQ.out; have := Han.out; rw [← hw2, ← hw1]; unfold wrap64; omega
              have HWk := hid (swrite_calls HI.out (i := an + 1 + k) (by have := Hput.out; have := Han.out; omega) (ys.getD k 0))
              rw [← hz2] at HWk
              have hsd : Hid (nf - (intOf (.int .i64 (ii + 1))).toNat < nf - (intOf (.int .i64 ii)).toNat) := by show _ < _; simp only [intOf]; have := HQ.out; omega
              obtain ⟨fk, hfk⟩ : ∃ fk, ys.getD k 0 = fk := ⟨_, rfl⟩
              rw [hfk] at q0 HWk
              have Hfk := hid hfk
              clear hfk k1 k2 k3 k4 hz2
              go_wp2_with fail
              refine HWk.out.mono ?_
              rintro e W6 ⟨rfl, hC7⟩
              have HC7 := hid hC7
              clear hC7 HWk q0 HI
              go_wp2_with fail
              have hw : wrap64 (ii + 1) = ii + 1 := by have := HQ.out; have := HNf.out; unfold wrap64; omega
              rw [hw]
              exact ⟨⟨ii + 1, k + 1, rfl, ⟨by have := HQ.out; push_cast; omega, by omega⟩, by have e := HC7.out; rw [← Hfk.out] at e; exact e⟩, hsd.out⟩
            · have hkn : k = nf := by have := HQ.out; omega
              have HIf := HI
              have HPt : Hid (writesRun ys an k s5 = putZ kind ys s') := by
                show _ = _
                unfold putZ
                rw [hkn, ← Hs5.out, HL.out, show (s'.h.top - ((1 + nf : Nat) : Int)).toNat = an by have := Hput.out; have := Han.out; omega]
              have HTp : Hid ((putZ kind ys s').h.top = ai) := by show _ = _; rw [← HPt.out, k2]; exact HT5.out
              have HMk := hid (fun w => specMake_calls 0 ai w)
              go_wp2_with fail
              refine (HMk.out _).mono ?_
              rintro e W7 ⟨rfl, rfl⟩
              go_wp2_with fail
              go_ret
              rw [HRn.out]
              refine ⟨by rw [HTp.out]; rfl, ?_, HRg5.out.of_block (HIf.out.frame.block g HRg5.out.lt hq1 hq2), HF5.out.trans (HIf.out.frame.four _ _)⟩
              rw [← HPt.out]
              exact HIf.out.rebase _ (Frm.refl _ _ _)
      · have HEn : fieldsO o2 fs nf = none := by rw [← hkn]; exact HK'.out
        have HRn : Hid (R = none) := by show _ = _; rw [← HR.out, HEn]; rfl
        have HC := HI
        obtain ⟨-, -, -, d3, d4, -, -, -, -, -, d10⟩ := HC.out.blk.cells
        obtain ⟨tp, htp⟩ : ∃ tp, s'.h.top = tp := ⟨_, rfl⟩
        obtain ⟨bt, hbt⟩ : ∃ bt, s'.h.bottom = bt := ⟨_, rfl⟩
        obtain ⟨ai, hai⟩ : ∃ ai, wrap64 (tp - n1) = ai := ⟨_, rfl⟩
        rw [htp] at d4
        rw [hbt] at d3
        have hq : decide (ai < bt) = true ∨ decide (ai < bt) = false := by cases decide (ai < bt) <;> simp
        clear htp hbt HI HB HLy HRo HEn hkn
        rcases hq with hd | hd
        all_goals
          have HCd := hid (fun nq => (HC.out.keep (below_drewN (Below.refl _ _) nq)).filled true)
          have f10 := fun nq => frozen_of_heap (HC.out.keep (below_drewN (Below.refl _ _) nq)).blk 10
          have c10' := fun nq => (HC.out.keep (below_drewN (Below.refl _ _) nq)).blk.cells.2.2.2.2.2.2.2.2.2.2
          clear HC
          go_wp2_with fail
          go_quiet (fail)
          have HCe := hid (HCd.out nq)
          have f10' := f10 nq
          have c10'' := c10' nq
          clear f10 d3 d4 d10 c10' HCd
          generalize W5.drewN nq = We at *
          go_wp2_with fail
          go_ret
          rw [HRn.out]
          exact ⟨rfl, ⟨s', HCe.out.rebase _ (Frm.refl _ _ _)⟩, HF5.out.trans (HCe.out.frame.four _ _)⟩
end Go.Proofs.Ytebpgglegnljgaa

namespace Go.Proofs.Ytebpgglegnljgaa
open Go.RowKit

theorem Mvs.more {S : List Int} {N j j' : Nat} {s : CN} (c : Mvs S N j s) (h : j ≤ j') : Mvs S N j' s :=
  ⟨c.len, c.nums, c.fro, c.r0, by have := c.r1; omega, c.t0, c.t1⟩

theorem Scn.asks {S : List Int} {N : Nat} {s : CN} (c : Scn S N s) : 0 ≤ s.h.to ∧ s.h.to ≤ s.h.size ∧ s.h.size ≤ 4000 ∧ 0 ≤ s.h.bottom ∧ s.h.bottom ≤ 8000 ∧ 0 ≤ s.h.top ∧ s.h.top ≤ 8000 ∧ s.h.top ≤ (N : Int) ∧ N ≤ 8000 ∧ s.h.bottom ≤ s.h.top := by
  have o1 := c.nums.s0
  have o2 := c.nums.s1
  have o3 := c.nums.len
  have o4 := c.nums.to
  have o5 := c.nums.b0
  have o6 := c.nums.bt
  have o7 := c.nums.te
  omega

theorem Mvs.nums' {S : List Int} {N j : Nat} {s : CN} (c : Mvs S N j s) : 0 ≤ s.h.to ∧ s.h.to ≤ s.h.size ∧ s.h.size ≤ 4000 ∧ 0 ≤ s.h.bottom ∧ s.h.bottom ≤ 8000 ∧ 0 ≤ s.h.top ∧ s.h.top ≤ 8000 ∧ s.h.top ≤ (N : Int) ∧ N ≤ 8000 ∧ s.h.bottom ≤ s.h.top := by
  have o1 := c.nums.s0
  have o2 := c.nums.s1
  have o3 := c.nums.len
  have o4 := c.nums.to
  have o5 := c.nums.b0
  have o6 := c.nums.bt
  have o7 := c.nums.te
  omega

theorem room_iff {a b : Int} {n : Nat} : decide (((1 + n : Nat) : Int) ≤ a - b) = !decide (a - b < ((1 + n : Nat) : Int)) := by
  by_cases h : a - b < ((1 + n : Nat) : Int)
  · rw [decide_eq_true h, decide_eq_false (by omega)]
    rfl
  · rw [decide_eq_false h, decide_eq_true (by omega)]
    rfl

structure MakeOk (S : List Int) (N n nf m : Nat) (s0 : CN) (rs fs : List Int) (kind : Int) : Prop where
  scn : Scn S N s0
  flip : ∀ s1, scanRun m s0 = some s1 → Mvs S N 0 { s1 with h := flipH s1.h }
  m20 : m ≤ 20
  rlen : rs.length = n
  flen : fs.length = nf
  n20 : n ≤ 20
  nf : nf = 2 ∨ nf = 5
  k0 : 0 ≤ kind
  k1 : kind ≤ 15
  raim : ∀ (h' : HpN) i, i < rs.length → Aim S h' N (rs.getD i 0)
  faim : ∀ (h' : HpN) i, i < fs.length → Aim S h' N (fs.getD i 0)

theorem inew_calls {S : List Int} {W : World} {bc bw N cap g n gc gf nf fc m : Nat} {s0 : CN} {rs fs : List Int} {kind : Int} (ok : MakeOk S N n nf m s0 rs fs kind) (c : ColAt W bc bw N cap s0 W)
    (hg1 : gf ≠ bc) (hg2 : gf ≠ bw) (hq1 : g ≠ bc) (hq2 : g ≠ bw) (hgg : gf ≠ g) (HRf : CellRow 3 W gf nf (intCells fs)) (HRr : CellRow 3 W g n (intCells rs)) :
    Calls Try.prog 44 #[.pointer (some ⟨bc, 0, none⟩), .slice (some ⟨g, 0, none⟩) n gc, .int .i64 kind, .slice (some ⟨gf, 0, none⟩) nf fc, .int .i64 (m : Int)] W (NewPost W bc bw N cap g n gf (makeRun rs fs kind m s0)) := by
  have hnf := ok.nf
  have hn1 : wrap64 (1 + (nf : Int)) = ((1 + nf : Nat) : Int) := by unfold wrap64; omega
  have hlk := look_calls s0 c ok.scn m (by have := ok.m20; omega)
  unfold makeRun
  rw [ok.flen, ok.rlen]
  cases h1 : scanRun m s0 with
  | none =>
    rw [h1] at hlk
    exact iNew_scan _ hn1 hlk
  | some s1 =>
    rw [h1] at hlk
    have c1 := scanRun_scn ok.scn m s1 h1
    obtain ⟨a1, a2, a3, a4, a5, a6, a7, a8, a9, a10⟩ := c1.asks
    have hrm : ∀ w0 X, ColAt w0 bc bw N cap s1 X → Calls Try.prog 70 #[.pointer (some ⟨bc, 0, none⟩), .int .i64 ((1 + nf : Nat) : Int)] X fun e w' => e = .returned (.bool (!decide (s1.h.top - s1.h.bottom < ((1 + nf : Nat) : Int)))) ∧ Below X.heap.size X w' := fun w0 X hX => by
      have e := hasRoom_calls hX ((1 + nf : Nat) : Int) a4 a5 a6 a7
      rw [room_iff] at e
      exact e
    dsimp only
    by_cases hr : s1.h.top - s1.h.bottom < ((1 + nf : Nat) : Int)
    · rw [if_pos hr]
      rw [decide_eq_true hr] at hrm
      by_cases hsc : s1.h.scan = s1.h.bottom
      · rw [if_pos hsc]
        have heq : (s1.h.scan == s1.h.bottom) = true := by simpa using hsc
        have hmv := ok.flip s1 h1
        have hch : ∀ w0 X, ColAt w0 bc bw N cap s1 X → CellRow 3 X g n (intCells rs) → Calls Try.prog 48 #[.pointer (some ⟨bc, 0, none⟩), .slice (some ⟨g, 0, none⟩) n gc] X (MovesPost X bc bw N cap g n (movesRun rs n { s1 with h := flipH s1.h })) := fun w0 X hX hrx => change_calls s1 hX a1 a2 a3 hmv rs ok.rlen ok.n20 hq1 hq2 hrx (ok.raim _)
        cases h2 : movesRun rs n { s1 with h := flipH s1.h } with
        | none =>
          rw [h2] at hch
          exact iNew_roots _ hn1 s1 hlk fs rs hg1 hg2 hq1 hq2 HRf HRr heq hrm hch
        | some p =>
          obtain ⟨rs', s2⟩ := p
          rw [h2] at hch
          obtain ⟨m2, l2, -⟩ := movesRun_mvs hmv (ok.raim _) n (by rw [ok.rlen]; exact Nat.le_refl _) rs' s2 h2
          rw [Nat.zero_add] at m2
          have hma : ∀ w0 X, ColAt w0 bc bw N cap s2 X → CellRow 3 X gf nf (intCells fs) → Calls Try.prog 71 #[.pointer (some ⟨bc, 0, none⟩), .slice (some ⟨gf, 0, none⟩) nf fc] X (MovesPost X bc bw N cap gf nf (movesRun fs nf s2)) := fun w0 X hX hrx => moveAll_calls s2 hX m2 fs ok.flen (by have := ok.n20; omega) hg1 hg2 hrx (ok.faim _)
          dsimp only
          cases h3 : movesRun fs nf s2 with
          | none =>
            rw [h3] at hma
            exact iNew_fields _ hn1 s1 hlk fs rs rs' s2 hg1 hg2 hq1 hq2 hgg HRf HRr heq hrm hch hma
          | some p =>
            obtain ⟨fs', s3⟩ := p
            rw [h3] at hma
            obtain ⟨m3, l3, -⟩ := movesRun_mvs m2 (ok.faim _) nf (by rw [ok.flen]; exact Nat.le_refl _) fs' s3 h3
            obtain ⟨b1, b2, b3, b4, b5, b6, b7, b8, b9, b10⟩ := m3.nums'
            have hrm2 : ∀ w0 X, ColAt w0 bc bw N cap s3 X → Calls Try.prog 70 #[.pointer (some ⟨bc, 0, none⟩), .int .i64 ((1 + nf : Nat) : Int)] X fun e w' => e = .returned (.bool (!decide (s3.h.top - s3.h.bottom < ((1 + nf : Nat) : Int)))) ∧ Below X.heap.size X w' := fun w0 X hX => by
              have e := hasRoom_calls hX ((1 + nf : Nat) : Int) b4 b5 b6 b7
              rw [room_iff] at e
              exact e
            dsimp only
            by_cases hr3 : s3.h.top - s3.h.bottom < ((1 + nf : Nat) : Int)
            · rw [if_pos hr3]
              rw [decide_eq_true hr3] at hrm2
              exact iNew_still _ hn1 s1 hlk fs rs rs' fs' s2 s3 hg1 hg2 hq1 hq2 hgg HRf HRr heq hrm hrm2 hch hma
            · rw [if_neg hr3]
              rw [decide_eq_false hr3] at hrm2
              exact iNew_flip _ hn1 s1 hlk fs rs rs' fs' s2 s3 (by rw [l3, ok.flen]) hnf ⟨ok.k0, ok.k1⟩ hg1 hg2 hq1 hq2 hgg HRf HRr (m3.put hr3) heq hrm hrm2 hch hma
      · rw [if_neg hsc]
        exact iNew_late _ hn1 s1 hlk (by simpa using hsc) hrm
    · rw [if_neg hr]
      rw [decide_eq_false hr] at hrm
      exact iNew_room _ hn1 s1 hlk fs rs ok.flen hnf ⟨ok.k0, ok.k1⟩ hg1 hg2 hq1 hq2 HRf HRr (c1.put hr) hrm

theorem scan_next {S : List Int} {W : World} {bm bw N cap : Nat} {s0 : CN} (hs : Scn S N s0) (k : Nat) (X : World) (hI : ScanInv W bm bw N cap (scanRun k s0) X) :
    Calls Try.prog 56 #[.pointer (some ⟨bm, 0, none⟩)] X fun e w' => e = .returned (.tuple #[]) ∧ ScanInv W bm bw N cap (scanRun (k + 1) s0) w' := by
  unfold scanRun
  cases h : scanRun k s0 with
  | none =>
    rw [h] at hI
    obtain ⟨s, hc⟩ := hI
    refine (sscan_full hc).mono ?_
    rintro e w' ⟨rfl, h'⟩
    exact ⟨rfl, s, h'⟩
  | some s =>
    rw [h] at hI
    refine (sscan_calls hI (scanRun_scn hs k s h)).mono ?_
    rintro e w' ⟨rfl, h'⟩
    refine ⟨rfl, ?_⟩
    dsimp only
    cases h1 : scanOne s with
    | none => rw [h1] at h'; exact h'
    | some s' => rw [h1] at h'; exact h'

theorem snew_calls {S : List Int} {W : World} {bm bw N cap g n gc gf nf fc m : Nat} {s0 : CN} {rs fs : List Int} {kind : Int} (ok : MakeOk S N n nf m s0 rs fs kind) (c : Wk W bm bw N cap s0 false W)
    (hg1 : gf ≠ bm) (hg2 : gf ≠ bw) (hq1 : g ≠ bm) (hq2 : g ≠ bw) (hgg : gf ≠ g) (HRf : CellRow 3 W gf nf (intCells fs)) (HRr : CellRow 3 W g n (intCells rs)) :
    Calls Try.prog 47 #[.pointer (some ⟨bm, 0, none⟩), .slice (some ⟨g, 0, none⟩) n gc, .int .i64 kind, .slice (some ⟨gf, 0, none⟩) nf fc, .int .i64 (m : Int)] W (SNewPost W bm bw N cap g n gf (makeRun rs fs kind m s0)) := by
  have hnf := ok.nf
  have hn1 : wrap64 (1 + (nf : Int)) = ((1 + nf : Nat) : Int) := by unfold wrap64; omega
  have hsc := fun k X (_ : k < m) h => scan_next (W := W) (bm := bm) (bw := bw) (cap := cap) ok.scn k X h
  have hmi : (m : Int) = (m : Int) ∧ m ≤ 20 := ⟨rfl, ok.m20⟩
  unfold makeRun
  rw [ok.flen, ok.rlen]
  cases h1 : scanRun m s0 with
  | none => exact sMake_full _ hn1 hmi s0 c hsc h1
  | some s1 =>
    have c1 := scanRun_scn ok.scn m s1 h1
    obtain ⟨a1, a2, a3, a4, a5, a6, a7, a8, a9, a10⟩ := c1.asks
    have hai : wrap64 (s1.h.top - ((1 + nf : Nat) : Int)) = s1.h.top - ((1 + nf : Nat) : Int) := by unfold wrap64; omega
    dsimp only
    by_cases hr : s1.h.top - s1.h.bottom < ((1 + nf : Nat) : Int)
    · rw [if_pos hr]
      have hd : decide (s1.h.top - ((1 + nf : Nat) : Int) < s1.h.bottom) = true := by rw [decide_eq_true_eq]; omega
      by_cases he : s1.h.scan = s1.h.bottom
      · rw [if_pos he]
        have heq : (s1.h.scan == s1.h.bottom) = true := by simpa using he
        have hmv := ok.flip s1 h1
        have hfl : ∀ w0 X, Wk w0 bm bw N cap s1 false X → CellRow 3 X g n (intCells rs) → Calls Try.prog 49 #[.pointer (some ⟨bm, 0, none⟩), .slice (some ⟨g, 0, none⟩) n gc] X (SMovesPost X bm bw N cap g n (movesRun rs n { s1 with h := flipH s1.h })) := fun w0 X hX hrx => sflip_calls hX a1 a2 a3 hmv rs ok.rlen ok.n20 hq1 hq2 hrx (ok.raim _)
        have hrun := fun rs' s2 h2 => movesRun_mvs hmv (ok.raim _) n (by rw [ok.rlen]; exact Nat.le_refl _) rs' s2 h2
        obtain ⟨o2, ho2⟩ : ∃ o2, movesRun rs n { s1 with h := flipH s1.h } = o2 := ⟨_, rfl⟩
        rw [ho2] at hfl
        have hmk : ∀ k, k ≤ nf → ∀ ys s', fieldsO o2 fs k = some (ys, s') → Mvs S N (20 + k) s' ∧ ys.length = nf ∧ (k < nf → Aim S s'.h N (ys.getD k 0)) := fun k hk ys s' hf => by
          cases o2 with
          | none => cases hf
          | some p =>
            obtain ⟨rs', s2⟩ := p
            obtain ⟨m2, -, -⟩ := hrun rs' s2 ho2
            rw [Nat.zero_add] at m2
            obtain ⟨m3, l3, a3'⟩ := movesRun_mvs m2 (ok.faim _) k (by rw [ok.flen]; exact hk) ys s' hf
            refine ⟨m3.more (by have := ok.n20; omega), by rw [l3, ok.flen], fun hkn => ?_⟩
            obtain ⟨e1, e2⟩ := a3' k (Nat.le_refl _) (by rw [ok.flen]; exact hkn)
            rw [e1]
            exact e2
        have hend := sMake_flip _ hn1 hmi s0 c hsc fs rs ok.flen hnf ⟨ok.k0, ok.k1⟩ hg1 hg2 hq1 hq2 hgg HRf HRr s1 h1 _ hai hd heq o2 S hfl (fun k hk ys s' hf => by obtain ⟨e1, e2, e3⟩ := hmk k (by omega) ys s' hf; exact ⟨e1, e2, e3 hk⟩) (fun ys s' hf => by obtain ⟨e1, e2, -⟩ := hmk nf (Nat.le_refl _) ys s' hf; obtain ⟨b1, b2, b3, b4, b5, b6, b7, b8, b9, b10⟩ := e1.nums'; exact ⟨⟨b4, b10, b8, b9⟩, e2⟩) (gc := gc) (fc := fc)
        rw [ho2]
        cases o2 with
        | none => exact hend
        | some p =>
          obtain ⟨rs', s2⟩ := p
          unfold fieldsO rsO at hend
          dsimp only at hend ⊢
          cases h3 : movesRun fs nf s2 with
          | none => rw [h3] at hend; exact hend
          | some p => rw [h3] at hend; exact hend
      · rw [if_neg he]
        exact sMake_late _ hn1 hmi s0 c hsc s1 h1 _ hai hd (by simpa using he)
    · rw [if_neg hr]
      exact sMake_room _ hn1 hmi s0 c hsc fs rs ok.flen hnf ⟨ok.k0, ok.k1⟩ hg1 hg2 hq1 hq2 HRf HRr s1 h1 _ hai (by rw [decide_eq_false_iff_not]; omega) ⟨by omega, by omega, a8, a9⟩
end Go.Proofs.Ytebpgglegnljgaa

namespace Go.Proofs.Ytebpgglegnljgaa
open Go.RowKit

def InS (h : HpN) (a : Nat) : Prop := h.to ≤ (a : Int) ∧ (a : Int) < h.to + h.size

def Led (S : List Int) (h : HpN) (N : Nat) (o : Prop) (x : Int) : Prop :=
  (x % 8 ≠ 0 → x % 8 ≤ 4) ∧ (x % 8 = 0 → 0 ≤ x / 8 ∧ x / 8 < (N : Int) ∧ S.getD (x / 8).toNat 0 ≠ 0 ∧ (InS h (x / 8).toNat ∨ o))

def Within (c : Prop) (h : HpN) (a : Nat) (n : Int) : Prop :=
  (h.to ≤ (a : Int) ∧ (a : Int) + n ≤ h.bottom) ∨ (h.top ≤ (a : Int) ∧ (a : Int) + n ≤ h.to + h.size) ∨ (c ∧ ((h.size - h.to ≤ (a : Int) ∧ (a : Int) + n ≤ h.fb) ∨ (h.ft ≤ (a : Int) ∧ (a : Int) + n ≤ h.size - h.to + h.size)))

structure Dyn (c : Prop) (S ws : List Int) (h : HpN) : Prop where
  ord : Ordered h ws.length
  len : S.length = ws.length
  size : ∀ a : Nat, S.getD a 0 ≠ 0 → S.getD a 0 = sizeZ (ws.getD a 0)
  ends : ∀ a : Nat, S.getD a 0 ≠ 0 → Within c h a (S.getD a 0)
  apart : Apart S
  rowA : LayRow S h.to.toNat h.bottom.toNat
  rowB : LayRow S h.top.toNat (h.to + h.size).toNat
  rowC : c → LayRow S (h.size - h.to).toNat h.fb.toNat ∧ LayRow S h.ft.toNat (h.size - h.to + h.size).toNat
  scan : h.scan < h.bottom → S.getD h.scan.toNat 0 ≠ 0 ∧ c
  unm : ∀ a : Nat, S.getD a 0 ≠ 0 → InS h a → ws.getD a 0 % 16 ≠ 15
  fwd : ∀ a : Nat, S.getD a 0 ≠ 0 → ws.getD a 0 % 16 = 15 → ws.getD (a + 1) 0 % 8 = 0 ∧ 0 ≤ ws.getD (a + 1) 0 / 8 ∧ InS h (ws.getD (a + 1) 0 / 8).toNat ∧ S.getD (ws.getD (a + 1) 0 / 8).toNat 0 = S.getD a 0
  flds : ∀ a : Nat, S.getD a 0 ≠ 0 → ws.getD a 0 % 16 ≠ 15 → ∀ i : Nat, 1 ≤ i → (i : Int) < S.getD a 0 → Led S h ws.length (¬ InS h a ∨ (h.scan ≤ (a : Int) ∧ (a : Int) < h.bottom)) (ws.getD (a + i) 0)

theorem Dyn.three {c : Prop} {S ws : List Int} {h : HpN} (d : Dyn c S ws h) {a : Nat} (ha : S.getD a 0 ≠ 0) : S.getD a 0 = 3 ∨ S.getD a 0 = 6 := by
  have h1 := d.size a ha
  have h2 := size_three (ws.getD a 0)
  omega

theorem Dyn.head {c : Prop} {S ws : List Int} {h : HpN} (d : Dyn c S ws h) {a : Nat} (ha : S.getD a 0 ≠ 0) : ws.getD a 0 / 16 = S.getD a 0 := by
  have h1 := d.size a ha
  have h2 := size_div (x := ws.getD a 0) (by omega)
  omega

theorem Dyn.below {c : Prop} {S ws : List Int} {h : HpN} (d : Dyn c S ws h) {a : Nat} (ha : S.getD a 0 ≠ 0) : (a : Int) + S.getD a 0 ≤ ws.length := by
  obtain ⟨o1, o2, o3, o4, o5, o6, o7, o8, o9, o10, o11, o12, o13⟩ := d.ord
  have h1 := d.ends a ha
  unfold Within at h1
  omega

theorem Led.mono {S S' : List Int} {h h' : HpN} {N : Nat} {o o' : Prop} {x : Int} (l : Led S h N o x) (hS : ∀ a : Nat, S.getD a 0 ≠ 0 → S'.getD a 0 ≠ 0) (ho : ∀ a : Nat, InS h a ∨ o → InS h' a ∨ o') : Led S' h' N o' x :=
  ⟨l.1, fun hx => ⟨(l.2 hx).1, (l.2 hx).2.1, hS _ (l.2 hx).2.2.1, ho _ (l.2 hx).2.2.2⟩⟩

theorem lay_within {ws S : List Int} {h : HpN} (ho : Ordered h ws.length) (hs : specLay ws h = some S) :
    (∀ a : Nat, S.getD a 0 ≠ 0 → Within (h.scan < h.bottom) h a (S.getD a 0)) ∧ LayRow S h.top.toNat (h.to + h.size).toNat ∧ (h.scan < h.bottom → LayRow S (h.size - h.to).toNat h.fb.toNat ∧ LayRow S h.ft.toNat (h.size - h.to + h.size).toNat) := by
  obtain ⟨o1, o2, o3, o4, o5, o6, o7, o8, o9, o10, o11, o12, o13⟩ := ho
  unfold specLay at hs
  cases h1 : lay ws h.to.toNat h.bottom.toNat (List.replicate ws.length 0) with
  | none => rw [h1] at hs; cases hs
  | some S1 =>
    rw [h1] at hs
    dsimp only at hs
    obtain ⟨a1, a2, a3, a4⟩ := lay_apart h1 (by simp; omega) (fun a b _ ha _ => absurd (zeros_getD _ a) ha) (fun a => by rw [zeros_getD]; omega) (fun a ha => absurd (zeros_getD _ a) ha)
    have a4' : ∀ a : Nat, S1.getD a 0 ≠ 0 → h.to.toNat ≤ a ∧ (a : Int) + S1.getD a 0 ≤ h.bottom.toNat := fun a ha => by
      rcases a4 a ha with ⟨j, _⟩ | j
      · exact absurd (zeros_getD _ a) j
      · exact j
    rw [List.length_replicate] at a3
    cases h2 : lay ws h.top.toNat (h.to + h.size).toNat S1 with
    | none => rw [h2] at hs; cases hs
    | some S2 =>
      rw [h2] at hs
      dsimp only at hs
      obtain ⟨b1, b2, b3, b4⟩ := lay_apart h2 (by omega) a1 a2 (fun a ha => by have := a4' a ha; omega)
      have r2 := lay_row h2 (by omega) (by omega)
      have b5 : ∀ a : Nat, S2.getD a 0 ≠ 0 → (h.to ≤ (a : Int) ∧ (a : Int) + S2.getD a 0 ≤ h.bottom) ∨ (h.top ≤ (a : Int) ∧ (a : Int) + S2.getD a 0 ≤ h.to + h.size) := fun a ha => by
        rcases b4 a ha with ⟨j1, j2⟩ | j
        · have := a4' a j1
          omega
        · omega
      by_cases hb : h.scan < h.bottom
      · rw [if_pos hb] at hs
        cases h3 : lay ws (h.size - h.to).toNat h.fb.toNat S2 with
        | none => rw [h3] at hs; cases hs
        | some S3 =>
          rw [h3] at hs
          dsimp only at hs
          obtain ⟨c1, c2, c3, c4⟩ := lay_apart h3 (by omega) b1 b2 (fun a ha => by have := b5 a ha; have := b2 a; omega)
          have r3 := lay_row h3 (by omega) (by omega)
          have c5 : ∀ a : Nat, S3.getD a 0 ≠ 0 → (S2.getD a 0 ≠ 0 ∧ S3.getD a 0 = S2.getD a 0) ∨ ((h.size - h.to).toNat ≤ a ∧ (a : Int) + S3.getD a 0 ≤ h.fb.toNat) := c4
          obtain ⟨d1, d2, d3, d4⟩ := lay_apart hs (by omega) c1 c2 (fun a ha => by
            rcases c5 a ha with ⟨j1, j2⟩ | j
            · have := b5 a j1
              have := b2 a
              omega
            · omega)
          have r4 := lay_row hs (by omega) (by omega)
          refine ⟨fun a hS => ?_, r2.keep (fun j j1 j2 => (lay_else hs j (by omega)).trans (lay_else h3 j (by omega))), fun _ => ⟨r3.keep (fun j j1 j2 => lay_else hs j (by omega)), r4⟩⟩
          unfold Within
          rcases d4 a hS with ⟨j1, j2⟩ | j
          · rcases c5 a j1 with ⟨k1, k2⟩ | k
            · have := b5 a k1
              omega
            · omega
          · omega
      · rw [if_neg hb] at hs
        cases hs
        refine ⟨fun a hS => ?_, r2, fun h => absurd h hb⟩
        have := b5 a hS
        unfold Within
        omega

theorem ins_iff {h : HpN} {a : Nat} : InS h a ↔ inZ h (a : Int) = true := by
  rw [inZ_iff]
  exact Iff.rfl

theorem dyn_of_ok {ws S : List Int} {h : HpN} (ok : OkHeap ws S h) : Dyn (h.scan < h.bottom) S ws h := by
  obtain ⟨w1, w2, w3⟩ := lay_within ok.ord ok.spec
  obtain ⟨p1, p2, p3⟩ := lay_places ok.ord ok.spec
  have at_ : ∀ a : Nat, S.getD a 0 ≠ 0 → specAt ws S h a = true := fun a ha => by
    have ho := ok.objs
    unfold specObjs at ho
    rw [List.all_eq_true] at ho
    have h1 := ho a (List.mem_range.2 (ok.noted.2 a ha).1)
    rw [Bool.or_eq_true] at h1
    exact h1.resolve_left (by simpa using ha)
  refine ⟨ok.ord, ok.noted.1, fun a ha => (ok.noted.2 a ha).2.1, w1, p1, p3, w2, w3, fun hb => ⟨ok.scan hb, hb⟩, fun a ha hi => used_stays ok ha (ins_iff.1 hi), fun a ha hm => ?_, fun a ha hm i h1 h2 => ?_⟩
  · have e := at_ a ha
    unfold specAt at e
    rw [if_pos hm] at e
    unfold specMoved at e
    rw [Bool.and_eq_true, Bool.and_eq_true, Bool.and_eq_true, decide_eq_true_eq, decide_eq_true_eq] at e
    obtain ⟨⟨⟨-, e1⟩, e2⟩, e3⟩ := e
    obtain ⟨a1, a2, a3, a4⟩ := specLeads_at e2 e1
    rcases a4 with ⟨a4, -⟩ | ⟨-, a4⟩
    · refine ⟨e2, a1, ins_iff.2 (by rw [Int.toNat_of_nonneg a1]; exact a4), ?_⟩
      rw [(ok.noted.2 _ a3).2.1, (ok.noted.2 a ha).2.1, e3]
    · cases a4
  · have e := at_ a ha
    unfold specAt at e
    rw [if_neg hm, List.all_eq_true] at e
    have hz := (ok.noted.2 a ha).2.1
    have hc := sizeN_cast (ws.getD a 0)
    have e1 := e (i - 1) (List.mem_range.2 (by omega))
    rw [show a + (i - 1 + 1) = a + i by omega] at e1
    refine ⟨fun hx => ?_, fun hx => ?_⟩
    · unfold specLeads at e1
      rw [if_pos hx] at e1
      exact of_decide_eq_true e1
    · obtain ⟨a1, a2, a3, a4⟩ := specLeads_at hx e1
      refine ⟨a1, a2, a3, ?_⟩
      rcases a4 with ⟨a4, -⟩ | ⟨-, a4⟩
      · left
        exact ins_iff.2 (by rw [Int.toNat_of_nonneg a1]; exact a4)
      · right
        unfold oldZ at a4
        rw [Bool.or_eq_true] at a4
        rcases a4 with a4 | a4
        · left
          rw [ins_iff]
          simpa using a4
        · right
          simpa using a4

theorem lay_is {ws S : List Int} {p q : Nat} (r : LayRow S p q) (hA : Apart S) (hz : ∀ a : Nat, S.getD a 0 ≠ 0 → S.getD a 0 = sizeZ (ws.getD a 0)) : ∀ S0 : List Int, q ≤ S0.length → (∀ a, p ≤ a → a < q → S0.getD a 0 = 0) →
    ∃ S1, lay ws p q S0 = some S1 ∧ S1.length = S0.length ∧ ∀ a : Nat, S1.getD a 0 = if p ≤ a ∧ a < q then S.getD a 0 else S0.getD a 0 := by
  induction r with
  | nil p =>
    intro S0 _ _
    exact ⟨S0, lay_end ws S0 (Nat.lt_irrefl p), rfl, fun a => by rw [if_neg (by omega)]⟩
  | @cons p q n hn hd rest ih =>
    intro S0 hq h0
    have hle := rest.le
    have hS : S.getD p 0 ≠ 0 := by omega
    have e1 := hz p hS
    have e2 := sizeN_cast (ws.getD p 0)
    have e3 : sizeN (ws.getD p 0) = n := by omega
    have e4 := lay_next ws S0 (p := p) (to := q) (by omega) (by omega)
    rw [e3] at e4
    have g : ∀ a : Nat, (S0.set p (n : Int)).getD a 0 = if a = p then (n : Int) else S0.getD a 0 := fun a => by
      rw [getD_set]
      by_cases e : a = p
      · rw [if_pos ⟨e, by omega⟩, if_pos e]
      · rw [if_neg (by omega), if_neg e]
    obtain ⟨S1, i1, i2, i3⟩ := ih (S0.set p (n : Int)) (by rw [List.length_set]; exact hq) (fun a h1 h2 => by
      rw [g, if_neg (by omega)]
      exact h0 a (by omega) h2)
    refine ⟨S1, by rw [e4]; exact i1, by rw [i2, List.length_set], fun a => ?_⟩
    rw [i3, g]
    by_cases h1 : p + n ≤ a ∧ a < q
    · rw [if_pos h1, if_pos (by omega)]
    · rw [if_neg h1]
      by_cases h2 : a = p
      · rw [if_pos h2, if_pos (by omega), h2, hd]
      · rw [if_neg h2]
        by_cases h3 : p ≤ a ∧ a < q
        · rw [if_pos h3]
          have h4 : S.getD a 0 = 0 := by
            by_cases h5 : S.getD a 0 = 0
            · exact h5
            · have := hA p a (by omega) hS h5
              omega
          rw [h4]
          exact h0 a h3.1 h3.2
        · rw [if_neg h3]

theorem list_same {A B : List Int} (hl : A.length = B.length) (h : ∀ a : Nat, A.getD a 0 = B.getD a 0) : A = B := by
  apply List.ext_getElem hl
  intro i h1 h2
  have := h i
  simp only [List.getD, List.getElem?_eq_getElem h1, List.getElem?_eq_getElem h2] at this
  exact this

theorem ok_of_dyn {ws S : List Int} {h : HpN} (d : Dyn (h.scan < h.bottom) S ws h) : OkHeap ws S h := by
  have ho := d.ord
  obtain ⟨o1, o2, o3, o4, o5, o6, o7, o8, o9, o10, o11, o12, o13⟩ := id ho
  have hl := d.len
  have hspec : specLay ws h = some S := by
    obtain ⟨S1, l1, n1, g1⟩ := lay_is d.rowA d.apart d.size (List.replicate ws.length 0) (by simp; omega) (fun a _ _ => zeros_getD _ a)
    rw [List.length_replicate] at n1
    obtain ⟨S2, l2, n2, g2⟩ := lay_is d.rowB d.apart d.size S1 (by omega) (fun a h1 h2 => by rw [g1, if_neg (by omega), zeros_getD])
    unfold specLay
    rw [l1]
    dsimp only
    rw [l2]
    dsimp only
    by_cases hb : h.scan < h.bottom
    · rw [if_pos hb]
      obtain ⟨rc, rd⟩ := d.rowC hb
      obtain ⟨S3, l3, n3, g3⟩ := lay_is rc d.apart d.size S2 (by omega) (fun a h1 h2 => by rw [g2, if_neg (by omega), g1, if_neg (by omega), zeros_getD])
      obtain ⟨S4, l4, n4, g4⟩ := lay_is rd d.apart d.size S3 (by omega) (fun a h1 h2 => by rw [g3, if_neg (by omega), g2, if_neg (by omega), g1, if_neg (by omega), zeros_getD])
      rw [l3]
      dsimp only
      rw [l4]
      congr 1
      refine list_same (by omega) (fun a => ?_)
      rw [g4, g3, g2, g1, zeros_getD]
      by_cases hS : S.getD a 0 = 0
      · rw [hS]
        simp
      · have hw := d.ends a hS
        have h3 := d.three hS
        unfold Within at hw
        by_cases k4 : h.ft.toNat ≤ a ∧ a < (h.size - h.to + h.size).toNat
        · rw [if_pos k4]
        · rw [if_neg k4]
          by_cases k3 : (h.size - h.to).toNat ≤ a ∧ a < h.fb.toNat
          · rw [if_pos k3]
          · rw [if_neg k3]
            by_cases k2 : h.top.toNat ≤ a ∧ a < (h.to + h.size).toNat
            · rw [if_pos k2]
            · rw [if_neg k2, if_pos (by omega)]
    · rw [if_neg hb]
      congr 1
      refine list_same (by omega) (fun a => ?_)
      rw [g2, g1, zeros_getD]
      by_cases hS : S.getD a 0 = 0
      · rw [hS]
        simp
      · have hw := d.ends a hS
        have h3 := d.three hS
        unfold Within at hw
        by_cases k2 : h.top.toNat ≤ a ∧ a < (h.to + h.size).toNat
        · rw [if_pos k2]
        · rw [if_neg k2, if_pos (by omega)]
  have hobj : specObjs ws S h ws.length = true := by
    unfold specObjs
    rw [List.all_eq_true]
    intro a _
    rw [Bool.or_eq_true]
    by_cases hS : S.getD a 0 = 0
    · left
      rw [hS]
      rfl
    · right
      have lead : ∀ {x : Int} {b : Bool} {o : Prop}, Led S h ws.length o x → (o → b = true) → specLeads ws S h x b = true := by
        intro x b o l hb
        by_cases hx : x % 8 = 0
        · obtain ⟨l1, l2, l3, l4⟩ := l.2 hx
          refine specLeads_mk hx l1 l2 l3 ?_
          have hr : ((x / 8).toNat : Int) = x / 8 := Int.toNat_of_nonneg l1
          cases hi : inZ h (x / 8) with
          | true => exact Or.inl ⟨rfl, d.unm _ l3 (ins_iff.2 (by rw [hr]; exact hi))⟩
          | false =>
            refine Or.inr ⟨rfl, ?_⟩
            rcases l4 with l4 | l4
            · rw [ins_iff, hr, hi] at l4
              cases l4
            · exact hb l4
        · unfold specLeads
          rw [if_pos hx]
          exact decide_eq_true (l.1 hx)
      unfold specAt
      by_cases hm : ws.getD a 0 % 16 = 15
      · rw [if_pos hm]
        obtain ⟨f1, f2, f3, f4⟩ := d.fwd a hS hm
        have hni : ¬ InS h a := fun hi => d.unm a hS hi hm
        have hS' : S.getD (ws.getD (a + 1) 0 / 8).toNat 0 ≠ 0 := by rw [f4]; exact hS
        unfold specMoved
        rw [Bool.and_eq_true, Bool.and_eq_true, Bool.and_eq_true, decide_eq_true_eq, decide_eq_true_eq]
        refine ⟨⟨⟨?_, lead (o := False) ⟨fun hx => absurd f1 hx, fun _ => ⟨f2, ?_, hS', Or.inl f3⟩⟩ (fun h => h.elim)⟩, f1⟩, ?_⟩
        · rw [ins_iff] at hni
          simpa using hni
        · have := d.below hS'
          have := d.three hS'
          omega
        · rw [← d.size _ hS', ← d.size a hS, f4]
      · rw [if_neg hm, List.all_eq_true]
        intro i hi
        rw [List.mem_range] at hi
        have hz := d.size a hS
        have hc := sizeN_cast (ws.getD a 0)
        refine lead (d.flds a hS hm (i + 1) (by omega) (by push_cast; omega)) ?_
        intro ho
        unfold oldZ
        rw [Bool.or_eq_true]
        rcases ho with ho | ho
        · left
          rw [ins_iff] at ho
          simpa using ho
        · right
          simpa using ho
  have hk : specOk ws h = true := by
    unfold specOk
    rw [hspec]
    dsimp only
    rw [hobj, Bool.and_true]
    by_cases hb : h.scan < h.bottom
    · have := (d.scan hb).1
      rw [decide_eq_true hb, Bool.true_and]
      simpa using this
    · rw [decide_eq_false hb]
      rfl
  obtain ⟨S', ok⟩ := ok_facts ho hk
  obtain rfl : S' = S := Option.some.inj (ok.spec.symm.trans hspec)
  exact ok
end Go.Proofs.Ytebpgglegnljgaa

namespace Go.Proofs.Ytebpgglegnljgaa
open Go.RowKit

def nowZ (ws : List Int) (a : Nat) : Nat := if ws.getD a 0 % 16 = 15 then (ws.getD (a + 1) 0 / 8).toNat else a

def tellZ (ws : List Int) (met : List Nat) (x : Int) : List Nat × Int :=
  if x % 8 = 0 then
    if nowZ ws (x / 8).toNat ∈ met then (met, 8 * (met.idxOf (nowZ ws (x / 8).toNat) : Int)) else (met ++ [nowZ ws (x / 8).toNat], 8 * (met.length : Int))
  else (met, x)

def tellsRun (ws xs : List Int) : Nat → List Nat → List Nat × List Int
  | 0, met => (met, [])
  | k + 1, met => ((tellZ ws (tellsRun ws xs k met).1 (xs.getD k 0)).1, (tellsRun ws xs k met).2 ++ [(tellZ ws (tellsRun ws xs k met).1 (xs.getD k 0)).2])

def fieldsAtZ (ws : List Int) (a : Nat) : List Int := (List.range ((ws.getD a 0 / 16).toNat - 1)).map (fun i => ws.getD (a + 1 + i) 0)

def graphRun (ws : List Int) : Nat → List Nat → List Nat × List (Int × List Int)
  | 0, met => (met, [])
  | k + 1, met => ((tellsRun ws (fieldsAtZ ws ((graphRun ws k met).1.getD k 0)) (fieldsAtZ ws ((graphRun ws k met).1.getD k 0)).length (graphRun ws k met).1).1, (graphRun ws k met).2 ++ [(ws.getD ((graphRun ws k met).1.getD k 0) 0 % 16, (tellsRun ws (fieldsAtZ ws ((graphRun ws k met).1.getD k 0)) (fieldsAtZ ws ((graphRun ws k met).1.getD k 0)).length (graphRun ws k met).1).2)])

structure Node (ws S : List Int) (a : Nat) : Prop where
  here : S.getD a 0 ≠ 0
  kind : ws.getD a 0 % 16 ≠ 15

def Leads (ws S : List Int) (x : Int) : Prop := x % 8 = 0 → 0 ≤ x / 8 ∧ x / 8 < (ws.length : Int) ∧ S.getD (x / 8).toNat 0 ≠ 0

theorem leads_of {ws S : List Int} {h : HpN} {x : Int} {old : Bool} (e : specLeads ws S h x old = true) : Leads ws S x := by
  intro hx
  obtain ⟨a1, a2, a3, -⟩ := specLeads_at hx e
  exact ⟨a1, a2, a3⟩

theorem at_ok {ws S : List Int} {h : HpN} (ok : OkHeap ws S h) {a : Nat} (hS : S.getD a 0 ≠ 0) : specAt ws S h a = true := by
  have ho := ok.objs
  unfold specObjs at ho
  rw [List.all_eq_true] at ho
  have h1 := ho a (List.mem_range.2 (ok.noted.2 a hS).1)
  rw [Bool.or_eq_true] at h1
  rcases h1 with h1 | h1
  · rw [beq_iff_eq] at h1
    exact absurd h1 hS
  · exact h1

theorem node_at {ws S : List Int} {h : HpN} (ok : OkHeap ws S h) {a : Nat} (n : Node ws S a) : (ws.getD a 0 / 16 = 3 ∨ ws.getD a 0 / 16 = 6) ∧ a + (ws.getD a 0 / 16).toNat ≤ ws.length ∧ ∀ i, i < (ws.getD a 0 / 16).toNat - 1 → Leads ws S (ws.getD (a + 1 + i) 0) := by
  have hd := (heads_noted ok.noted).2 a n.here
  have e := at_ok ok n.here
  unfold specAt at e
  rw [if_neg n.kind] at e
  have hn := ok.noted.2 a n.here
  have hsz : sizeN (ws.getD a 0) = (ws.getD a 0 / 16).toNat := by
    unfold sizeN
    rw [← hn.2.1, hd.2.2]
  rw [hsz] at e
  rw [List.all_eq_true] at e
  refine ⟨by rw [hd.2.2]; exact hd.1, by rw [← hsz]; exact hn.2.2, fun i hi => ?_⟩
  have e1 := e i (List.mem_range.2 hi)
  rw [show a + (i + 1) = a + 1 + i by omega] at e1
  exact leads_of e1

theorem now_node {ws S : List Int} {h : HpN} (ok : OkHeap ws S h) {x : Int} (hl : Leads ws S x) (hx : x % 8 = 0) : Node ws S (nowZ ws (x / 8).toNat) := by
  obtain ⟨h0, h1, hS⟩ := hl hx
  unfold nowZ
  by_cases hk : ws.getD (x / 8).toNat 0 % 16 = 15
  · rw [if_pos hk]
    have e := at_ok ok hS
    unfold specAt at e
    rw [if_pos hk] at e
    unfold specMoved at e
    rw [Bool.and_eq_true, Bool.and_eq_true, Bool.and_eq_true, decide_eq_true_eq, decide_eq_true_eq] at e
    obtain ⟨⟨⟨-, e1⟩, e2⟩, -⟩ := e
    obtain ⟨a1, a2, a3, a4⟩ := specLeads_at e2 e1
    rcases a4 with ⟨-, a4⟩ | ⟨-, a4⟩
    · exact ⟨a3, a4⟩
    · cases a4
  · rw [if_neg hk]
    exact ⟨hS, hk⟩

structure Met (ws S : List Int) (met : List Nat) : Prop where
  once : met.Nodup
  nodes : ∀ a ∈ met, Node ws S a

theorem short_of_once : ∀ (N : Nat) (l : List Nat), l.Nodup → (∀ a ∈ l, a < N) → l.length ≤ N
  | 0, l, _, h => by
    cases l with
    | nil => exact Nat.le_refl _
    | cons a r => exact absurd (h a List.mem_cons_self) (by omega)
  | N + 1, l, hn, h => by
    by_cases hm : N ∈ l
    · have h1 := short_of_once N (l.erase N) (hn.erase N) (fun a ha => by
        have h2 := h a (List.mem_of_mem_erase ha)
        have h3 : a ≠ N := fun e => by
          subst e
          exact hn.not_mem_erase ha
        omega)
      have h4 := List.length_erase_of_mem hm
      have h5 : 0 < l.length := List.length_pos_of_mem hm
      omega
    · have := short_of_once N l hn (fun a ha => by
        have h2 := h a ha
        have h3 : a ≠ N := fun e => hm (e ▸ ha)
        omega)
      omega

theorem Met.short {ws S : List Int} {h : HpN} {met : List Nat} (ok : OkHeap ws S h) (m : Met ws S met) : met.length ≤ ws.length :=
  short_of_once _ _ m.once (fun a ha => (ok.noted.2 a (m.nodes a ha).here).1)

theorem Met.tell {ws S : List Int} {h : HpN} {met : List Nat} (ok : OkHeap ws S h) (m : Met ws S met) {x : Int} (hl : Leads ws S x) : Met ws S (tellZ ws met x).1 ∧ ∃ r, (tellZ ws met x).1 = met ++ r := by
  unfold tellZ
  by_cases hx : x % 8 = 0
  · rw [if_pos hx]
    by_cases hm : nowZ ws (x / 8).toNat ∈ met
    · rw [if_pos hm]
      exact ⟨m, [], by simp⟩
    · rw [if_neg hm]
      refine ⟨⟨?_, fun a ha => ?_⟩, _, rfl⟩
      · rw [List.nodup_append]
        refine ⟨m.once, by simp, fun a ha b hb => ?_⟩
        rw [List.mem_singleton] at hb
        subst hb
        exact fun e => hm (e ▸ ha)
      · rcases List.mem_append.1 ha with ha | ha
        · exact m.nodes a ha
        · rw [List.mem_singleton] at ha
          subst ha
          exact now_node ok hl hx
  · rw [if_neg hx]
    exact ⟨m, [], by simp⟩

theorem Met.tells {ws S xs : List Int} {h : HpN} {met : List Nat} (ok : OkHeap ws S h) (m : Met ws S met) (hl : ∀ i, i < xs.length → Leads ws S (xs.getD i 0)) : ∀ k, k ≤ xs.length → Met ws S (tellsRun ws xs k met).1 ∧ (∃ r, (tellsRun ws xs k met).1 = met ++ r) ∧ (tellsRun ws xs k met).2.length = k
  | 0, _ => ⟨m, ⟨[], by simp [tellsRun]⟩, rfl⟩
  | k + 1, hk => by
    obtain ⟨h1, ⟨r, h2⟩, h3⟩ := Met.tells ok m hl k (by omega)
    obtain ⟨h4, r', h5⟩ := h1.tell ok (hl k (by omega))
    unfold tellsRun
    refine ⟨h4, ⟨r ++ r', ?_⟩, by rw [List.length_append, h3]; rfl⟩
    dsimp only
    rw [h5, h2, List.append_assoc]

theorem fieldsAtZ_len (ws : List Int) (a : Nat) : (fieldsAtZ ws a).length = (ws.getD a 0 / 16).toNat - 1 := by
  unfold fieldsAtZ
  simp

theorem fieldsAtZ_get {ws : List Int} {a i : Nat} (hi : i < (ws.getD a 0 / 16).toNat - 1) : (fieldsAtZ ws a).getD i 0 = ws.getD (a + 1 + i) 0 := by
  unfold fieldsAtZ
  rw [List.getD_eq_getElem?_getD, List.getElem?_map, List.getElem?_range hi]
  rfl

theorem Met.graph {ws S : List Int} {h : HpN} {met : List Nat} (ok : OkHeap ws S h) (m : Met ws S met) : ∀ k, (∀ j, j < k → j < (graphRun ws j met).1.length) → Met ws S (graphRun ws k met).1 ∧ (∃ r, (graphRun ws k met).1 = met ++ r) ∧ (graphRun ws k met).2.length = k
  | 0, _ => ⟨m, ⟨[], by simp [graphRun]⟩, rfl⟩
  | k + 1, hj => by
    obtain ⟨h1, ⟨r, h2⟩, h3⟩ := Met.graph ok m k (fun j h => hj j (by omega))
    have hk := hj k (by omega)
    have hn : Node ws S ((graphRun ws k met).1.getD k 0) := h1.nodes _ (by simp [List.getD, hk])
    obtain ⟨-, -, hf⟩ := node_at ok hn
    obtain ⟨h4, ⟨r', h5⟩, h6⟩ := h1.tells ok (xs := fieldsAtZ ws ((graphRun ws k met).1.getD k 0)) (fun i hi => by
      rw [fieldsAtZ_len] at hi
      rw [fieldsAtZ_get hi]
      exact hf i hi) _ (Nat.le_refl _)
    unfold graphRun
    refine ⟨h4, ⟨r ++ r', ?_⟩, by rw [List.length_append, h3]; rfl⟩
    dsimp only
    rw [h5, h2, List.append_assoc]

def placeZ (met : List Nat) (a : Nat) : Int := if a ∈ met then (met.idxOf a : Int) else -1

theorem placeZ_new {met : List Nat} {a : Nat} (h : ¬ a ∈ met) (b : Nat) : placeZ (met ++ [a]) b = if b = a then (met.length : Int) else placeZ met b := by
  unfold placeZ
  by_cases hb : b = a
  · subst hb
    rw [if_pos (by simp), if_pos rfl, List.idxOf_append, if_neg h]
    simp
  · rw [if_neg hb]
    by_cases hm : b ∈ met
    · rw [if_pos (by simp [hm]), if_pos hm, List.idxOf_append, if_pos hm]
    · rw [if_neg (by simp [hm, hb]), if_neg hm]

theorem placeZ_range {met : List Nat} {a : Nat} : -1 ≤ placeZ met a ∧ placeZ met a < met.length := by
  unfold placeZ
  by_cases h : a ∈ met
  · rw [if_pos h]
    have := List.idxOf_lt_length_of_mem h
    omega
  · rw [if_neg h]
    omega

theorem placeZ_neg {met : List Nat} {a : Nat} : placeZ met a < 0 ↔ ¬ a ∈ met := by
  unfold placeZ
  by_cases h : a ∈ met
  · rw [if_pos h]
    constructor
    · intro h1
      omega
    · intro h1
      exact absurd h h1
  · rw [if_neg h]
    constructor
    · intro _
      exact h
    · intro _
      omega
end Go.Proofs.Ytebpgglegnljgaa

namespace Go.Proofs.Ytebpgglegnljgaa
open Go.RowKit

def WordR (P : Nat → Prop) (ws ws' : List Int) (f : Nat → Nat) (x x' : Int) : Prop :=
  (x % 8 ≠ 0 → x' = x) ∧ (x % 8 = 0 → x' % 8 = 0 ∧ P (nowZ ws (x / 8).toNat) ∧ nowZ ws' (x' / 8).toNat = f (nowZ ws (x / 8).toNat))

structure Iso (P : Nat → Prop) (ws ws' : List Int) (f : Nat → Nat) : Prop where
  head : ∀ a, P a → ws'.getD (f a) 0 = ws.getD a 0
  flds : ∀ a, P a → ∀ i : Nat, 1 ≤ i → (i : Int) < ws.getD a 0 / 16 → WordR P ws ws' f (ws.getD (a + i) 0) (ws'.getD (f a + i) 0)
  inj : ∀ a b, P a → P b → f a = f b → a = b

theorem WordR.comp {P P1 : Nat → Prop} {ws ws1 ws2 : List Int} {f g : Nat → Nat} {x x1 x2 : Int} (h : WordR P ws ws1 f x x1) (k : WordR P1 ws1 ws2 g x1 x2) : WordR P ws ws2 (fun a => g (f a)) x x2 := by
  refine ⟨fun hx => ?_, fun hx => ?_⟩
  · have e := h.1 hx
    rw [e] at k
    exact k.1 hx
  · obtain ⟨h1, h2, h3⟩ := h.2 hx
    obtain ⟨k1, k2, k3⟩ := k.2 h1
    exact ⟨k1, h2, by rw [k3, h3]⟩

theorem Iso.comp {P P1 : Nat → Prop} {ws ws1 ws2 : List Int} {f g : Nat → Nat} (h : Iso P ws ws1 f) (k : Iso P1 ws1 ws2 g) (hp : ∀ a, P a → P1 (f a)) : Iso P ws ws2 (fun a => g (f a)) := by
  refine ⟨fun a ha => by rw [k.head _ (hp a ha), h.head a ha], fun a ha i h1 h2 => ?_, fun a b ha hb e => h.inj a b ha hb (k.inj _ _ (hp a ha) (hp b hb) e)⟩
  exact (h.flds a ha i h1 h2).comp (k.flds (f a) (hp a ha) i h1 (by rw [h.head a ha]; exact h2))

theorem Iso.cut {P Q : Nat → Prop} {ws ws1 : List Int} {f : Nat → Nat} (h : Iso P ws ws1 f) (hq : ∀ b, Q b → ∀ i : Nat, 1 ≤ i → (i : Int) < ws1.getD b 0 / 16 → ws1.getD (b + i) 0 % 8 = 0 → Q (nowZ ws1 (ws1.getD (b + i) 0 / 8).toNat)) : Iso (fun a => P a ∧ Q (f a)) ws ws1 f := by
  refine ⟨fun a ha => h.head a ha.1, fun a ha i h1 h2 => ?_, fun a b ha hb e => h.inj a b ha.1 hb.1 e⟩
  have w := h.flds a ha.1 i h1 h2
  refine ⟨w.1, fun hx => ?_⟩
  obtain ⟨w1, w2, w3⟩ := w.2 hx
  refine ⟨w1, ⟨w2, ?_⟩, w3⟩
  rw [← w3]
  exact hq _ ha.2 i h1 (by rw [h.head a ha.1]; exact h2) w1

theorem idx_map {P : Nat → Prop} {f : Nat → Nat} (inj : ∀ a b, P a → P b → f a = f b → a = b) : ∀ (l : List Nat), (∀ a ∈ l, P a) → ∀ n, P n → (f n ∈ l.map f ↔ n ∈ l) ∧ (l.map f).idxOf (f n) = l.idxOf n
  | [], _, n, _ => ⟨by simp, rfl⟩
  | a :: l, h, n, hn => by
    obtain ⟨i1, i2⟩ := idx_map inj l (fun b hb => h b (List.mem_cons_of_mem _ hb)) n hn
    have ha := h a List.mem_cons_self
    by_cases e : a = n
    · subst e
      refine ⟨by simp, ?_⟩
      rw [List.map_cons, List.idxOf_cons_self, List.idxOf_cons_self]
    · have e' : ¬ f a = f n := fun k => e (inj a n ha hn k)
      refine ⟨?_, ?_⟩
      · rw [List.map_cons, List.mem_cons, List.mem_cons, i1]
        constructor
        · rintro (k | k)
          · exact absurd k.symm e'
          · exact Or.inr k
        · rintro (k | k)
          · exact absurd k.symm e
          · exact Or.inr k
      · rw [List.map_cons, List.idxOf_cons, List.idxOf_cons, i2, beq_eq_false_iff_ne.2 e', beq_eq_false_iff_ne.2 e]

theorem tell_same {P : Nat → Prop} {ws ws' : List Int} {f : Nat → Nat} (h : Iso P ws ws' f) {met : List Nat} (hm : ∀ a ∈ met, P a) {x x' : Int} (w : WordR P ws ws' f x x') :
    tellZ ws' (met.map f) x' = ((tellZ ws met x).1.map f, (tellZ ws met x).2) ∧ ∀ a ∈ (tellZ ws met x).1, P a := by
  unfold tellZ
  by_cases hx : x % 8 = 0
  · obtain ⟨w1, w2, w3⟩ := w.2 hx
    rw [if_pos w1, if_pos hx, w3]
    obtain ⟨i1, i2⟩ := idx_map h.inj met hm _ w2
    by_cases hn : nowZ ws (x / 8).toNat ∈ met
    · rw [if_pos (i1.2 hn), if_pos hn, i2]
      exact ⟨rfl, hm⟩
    · rw [if_neg (fun k => hn (i1.1 k)), if_neg hn, List.length_map]
      refine ⟨by rw [List.map_append]; rfl, fun a ha => ?_⟩
      rcases List.mem_append.1 ha with ha | ha
      · exact hm a ha
      · rw [List.mem_singleton] at ha
        rw [ha]
        exact w2
  · rw [w.1 hx, if_neg hx, if_neg hx]
    exact ⟨rfl, hm⟩

theorem tells_same {P : Nat → Prop} {ws ws' xs xs' : List Int} {f : Nat → Nat} (h : Iso P ws ws' f) {met : List Nat} (hm : ∀ a ∈ met, P a) : ∀ k, (∀ i, i < k → WordR P ws ws' f (xs.getD i 0) (xs'.getD i 0)) →
    tellsRun ws' xs' k (met.map f) = ((tellsRun ws xs k met).1.map f, (tellsRun ws xs k met).2) ∧ ∀ a ∈ (tellsRun ws xs k met).1, P a
  | 0, _ => ⟨rfl, hm⟩
  | k + 1, hw => by
    obtain ⟨i1, i2⟩ := tells_same (xs := xs) (xs' := xs') h hm k (fun i hi => hw i (by omega))
    obtain ⟨j1, j2⟩ := tell_same h i2 (hw k (by omega))
    unfold tellsRun
    rw [i1]
    dsimp only
    rw [j1]
    exact ⟨rfl, j2⟩

theorem getD_mem {l : List Nat} {k : Nat} (h : k < l.length) : l.getD k 0 ∈ l := by
  simp [List.getD, h]

theorem getD_map {l : List Nat} {f : Nat → Nat} {k : Nat} (h : k < l.length) : (l.map f).getD k 0 = f (l.getD k 0) := by
  simp [List.getD, h]

theorem graph_same {P : Nat → Prop} {ws ws' : List Int} {f : Nat → Nat} (h : Iso P ws ws' f) {met : List Nat} (hm : ∀ a ∈ met, P a) : ∀ k, (∀ j, j < k → j < (graphRun ws j met).1.length) →
    graphRun ws' k (met.map f) = ((graphRun ws k met).1.map f, (graphRun ws k met).2) ∧ ∀ a ∈ (graphRun ws k met).1, P a
  | 0, _ => ⟨rfl, hm⟩
  | k + 1, hj => by
    obtain ⟨i1, i2⟩ := graph_same h hm k (fun j hk => hj j (by omega))
    have hk := hj k (by omega)
    have hp := i2 _ (getD_mem hk)
    have e := h.head _ hp
    have hl : (fieldsAtZ ws' (f ((graphRun ws k met).1.getD k 0))).length = (fieldsAtZ ws ((graphRun ws k met).1.getD k 0)).length := by rw [fieldsAtZ_len, fieldsAtZ_len, e]
    obtain ⟨j1, j2⟩ := tells_same (xs := fieldsAtZ ws ((graphRun ws k met).1.getD k 0)) (xs' := fieldsAtZ ws' (f ((graphRun ws k met).1.getD k 0))) h i2 (fieldsAtZ ws ((graphRun ws k met).1.getD k 0)).length (fun i hi => by
      rw [fieldsAtZ_len] at hi
      rw [fieldsAtZ_get hi, fieldsAtZ_get (by rw [e]; exact hi)]
      have := h.flds _ hp (1 + i) (by omega) (by push_cast; omega)
      rw [← Nat.add_assoc, ← Nat.add_assoc] at this
      exact this)
    unfold graphRun
    rw [i1]
    dsimp only
    rw [getD_map hk, hl, j1, e]
    exact ⟨rfl, j2⟩
end Go.Proofs.Ytebpgglegnljgaa

namespace Go.Proofs.Ytebpgglegnljgaa
open Go.RowKit

def Pts (S : List Int) (N : Nat) (x : Int) : Prop := (x % 8 ≠ 0 → x % 8 ≤ 4) ∧ (x % 8 = 0 → 0 ≤ x / 8 ∧ x / 8 < (N : Int) ∧ S.getD (x / 8).toNat 0 ≠ 0)

theorem Led.pts {S : List Int} {h : HpN} {N : Nat} {o : Prop} {x : Int} (l : Led S h N o x) : Pts S N x := ⟨l.1, fun hx => ⟨(l.2 hx).1, (l.2 hx).2.1, (l.2 hx).2.2.1⟩⟩

theorem Pts.mono {S S' : List Int} {N : Nat} {x : Int} (l : Pts S N x) (hS : ∀ a : Nat, S.getD a 0 ≠ 0 → S'.getD a 0 ≠ 0) : Pts S' N x := ⟨l.1, fun hx => ⟨(l.2 hx).1, (l.2 hx).2.1, hS _ (l.2 hx).2.2⟩⟩

structure Step (S ws : List Int) (h : HpN) (S' ws' : List Int) (h' : HpN) (f : Nat → Nat) : Prop where
  dyn : Dyn True S' ws' h'
  len : ws'.length = ws.length
  iso : Iso (Node ws S) ws ws' f
  node : ∀ a, Node ws S a → Node ws' S' (f a)
  word : ∀ x, Pts S ws.length x → WordR (Node ws S) ws ws' f x x
  num : h' = { h with bottom := h'.bottom, scan := h'.scan }
  grow : h.bottom ≤ h'.bottom
  inn : ∀ a, InS h a → f a = a
  ext : ∀ a : Nat, S.getD a 0 ≠ 0 → S'.getD a 0 = S.getD a 0

theorem Step.ins {S ws : List Int} {h : HpN} {S' ws' : List Int} {h' : HpN} {f : Nat → Nat} (s : Step S ws h S' ws' h' f) (a : Nat) : InS h' a ↔ InS h a := by
  rw [s.num]
  exact Iff.rfl

theorem Step.pts {S ws : List Int} {h : HpN} {S' ws' : List Int} {h' : HpN} {f : Nat → Nat} (s : Step S ws h S' ws' h' f) {N : Nat} {x : Int} (p : Pts S N x) : Pts S' N x :=
  p.mono (fun a ha => by rw [s.ext a ha]; exact ha)

theorem Step.led {S ws : List Int} {h : HpN} {S' ws' : List Int} {h' : HpN} {f : Nat → Nat} (s : Step S ws h S' ws' h' f) {N : Nat} {x : Int} {o : Prop} (p : Led S h N o x) : Led S' h' N o x :=
  p.mono (fun a ha => by rw [s.ext a ha]; exact ha) (fun a ha => ha.imp (fun k => (s.ins a).2 k) id)

theorem Step.comp {S ws : List Int} {h : HpN} {S1 ws1 : List Int} {h1 : HpN} {S2 ws2 : List Int} {h2 : HpN} {f g : Nat → Nat} (a : Step S ws h S1 ws1 h1 f) (b : Step S1 ws1 h1 S2 ws2 h2 g) : Step S ws h S2 ws2 h2 (fun c => g (f c)) := by
  refine ⟨b.dyn, b.len.trans a.len, a.iso.comp b.iso a.node, fun c hc => b.node _ (a.node c hc), fun x hx => (a.word x hx).comp (b.word x (by rw [a.len]; exact a.pts hx)), ?_, Int.le_trans a.grow b.grow, fun c hc => ?_, fun c hc => ?_⟩
  · have e1 := b.num
    rw [a.num] at e1
    exact e1
  · rw [a.inn c hc]
    exact b.inn c ((a.ins c).2 hc)
  · have e1 := a.ext c hc
    rw [b.ext c (by rw [e1]; exact hc), e1]

theorem Dyn.now {c : Prop} {S ws : List Int} {h : HpN} (d : Dyn c S ws h) {a : Nat} (hS : S.getD a 0 ≠ 0) : Node ws S (nowZ ws a) := by
  unfold nowZ
  by_cases hk : ws.getD a 0 % 16 = 15
  · rw [if_pos hk]
    obtain ⟨f1, f2, f3, f4⟩ := d.fwd a hS hk
    have h1 : S.getD (ws.getD (a + 1) 0 / 8).toNat 0 ≠ 0 := by rw [f4]; exact hS
    exact ⟨h1, d.unm _ h1 f3⟩
  · rw [if_neg hk]
    exact ⟨hS, hk⟩

theorem Dyn.same {c : Prop} {S ws : List Int} {h : HpN} (d : Dyn c S ws h) {x : Int} (p : Pts S ws.length x) : WordR (Node ws S) ws ws id x x :=
  ⟨fun _ => rfl, fun hx => ⟨hx, d.now (p.2 hx).2.2, rfl⟩⟩

theorem Step.refl {S ws : List Int} {h : HpN} (d : Dyn True S ws h) : Step S ws h S ws h id := by
  refine ⟨d, rfl, ⟨fun _ _ => rfl, fun a ha i h1 h2 => ?_, fun _ _ _ _ e => e⟩, fun _ ha => ha, fun x hx => d.same hx, rfl, Int.le_refl _, fun _ _ => rfl, fun _ _ => rfl⟩
  have e := d.head ha.here
  exact d.same (d.flds a ha.here ha.kind i h1 (by omega)).pts

theorem LayRow.snoc {S : List Int} {p q : Nat} (r : LayRow S p q) (n : Nat) (hn : n ≠ 0) (hd : S.getD q 0 = n) : LayRow S p (q + n) := by
  induction r with
  | nil p => exact LayRow.cons n hn hd (LayRow.nil _)
  | cons m hm hd' _ ih => exact LayRow.cons m hm hd' (ih hd)

theorem size_mvd {n : Nat} (h : n = 3 ∨ n = 6) : sizeZ ((n : Int) * 16 + 15) = n := by
  unfold sizeZ
  rw [if_pos (by omega), if_pos (by omega)]
  omega

structure MoveTold (S : List Int) (s : CN) (x y : Int) (S' : List Int) (s' : CN) (f : Nat → Nat) : Prop where
  step : Step S s.ws s.h S' s'.ws s'.h f
  led : Led S' s'.h s.ws.length False y
  word : WordR (Node s.ws S) s.ws s'.ws f x y
  kept : ∀ j : Nat, InS s.h j → ((j : Int) < s.h.bottom ∨ s'.h.bottom ≤ (j : Int)) → s'.ws.getD j 0 = s.ws.getD j 0
  scan : s'.h.scan = s.h.scan
  new : (s'.h.bottom = s.h.bottom ∧ S' = S) ∨ (y = 8 * s.h.bottom ∧ ∃ n : Nat, (n = 3 ∨ n = 6) ∧ S' = S.set s.h.bottom.toNat n ∧ s'.h.bottom = s.h.bottom + n)

set_option maxHeartbeats 1000000 in
theorem dyn_move {S : List Int} {s s' : CN} {x y : Int} (d : Dyn True S s.ws s.h) (l : Pts S s.ws.length x) (hm : moveZ s x = (some y, s')) : ∃ S' f, MoveTold S s x y S' s' f := by
  obtain ⟨o1, o2, o3, o4, o5, o6, o7, o8, o9, o10, o11, o12, o13⟩ := id d.ord
  unfold moveZ at hm
  cases hl : lateZ s.h x with
  | false =>
    rw [if_pos hl] at hm
    cases hm
    refine ⟨S, id, Step.refl d, ⟨l.1, fun hx => ?_⟩, d.same l, fun _ _ _ => rfl, rfl, Or.inl ⟨rfl, rfl⟩⟩
    obtain ⟨l1, l2, l3⟩ := l.2 hx
    refine ⟨l1, l2, l3, Or.inl ?_⟩
    unfold lateZ at hl
    rw [decide_eq_true hx, Bool.true_and, decide_eq_false_iff_not] at hl
    unfold InS
    omega
  | true =>
    rw [if_neg (by rw [hl]; decide)] at hm
    obtain ⟨hx, hx0, hold⟩ := late_old hl (by omega)
    obtain ⟨l1, l2, hS⟩ := l.2 hx
    have hxw : ∀ {P : Nat → Prop} {ws ws' : List Int} {f : Nat → Nat} {y : Int}, (y % 8 = 0 ∧ P (nowZ ws (x / 8).toNat) ∧ nowZ ws' (y / 8).toNat = f (nowZ ws (x / 8).toNat)) → WordR P ws ws' f x y := fun k => ⟨fun h => absurd hx h, fun _ => k⟩
    generalize (x / 8).toNat = a at *
    have e3 := d.head hS
    have h3 := d.three hS
    by_cases hk : s.ws.getD a 0 % 16 = 15
    · rw [if_pos hk] at hm
      cases hm
      obtain ⟨f1, f2, f3, f4⟩ := d.fwd a hS hk
      have hS' : S.getD (s.ws.getD (a + 1) 0 / 8).toNat 0 ≠ 0 := by rw [f4]; exact hS
      have hb := d.below hS'
      have hb3 := d.three hS'
      refine ⟨S, id, Step.refl d, ⟨fun h => absurd f1 h, fun _ => ⟨f2, by omega, hS', Or.inl f3⟩⟩, hxw ⟨f1, d.now hS, ?_⟩, fun _ _ _ => rfl, rfl, Or.inl ⟨rfl, rfl⟩⟩
      unfold nowZ
      rw [if_pos hk, if_neg (d.unm _ hS' f3)]
      rfl
    · rw [if_neg hk] at hm
      have hroom : s.ws.getD a 0 / 16 ≤ s.h.top - s.h.bottom := by
        by_cases hr : s.ws.getD a 0 / 16 ≤ s.h.top - s.h.bottom
        · exact hr
        · rw [if_neg hr] at hm
          cases hm
      rw [if_pos hroom] at hm
      rw [e3] at hm hroom
      unfold Old at hold
      obtain ⟨b, hb⟩ := Int.eq_ofNat_of_zero_le (show 0 ≤ s.h.bottom by omega)
      obtain ⟨n, hnn⟩ := Int.eq_ofNat_of_zero_le (show 0 ≤ S.getD a 0 by omega)
      have hbn : s.h.bottom.toNat = b := by omega
      rw [hnn, hbn, Int.toNat_natCast] at hm
      rw [hnn] at hroom h3
      have hwi := d.ends a hS
      rw [hnn] at hwi
      unfold Within at hwi
      have hcw := copyW_at s.ws a b n (by omega) (by omega)
      have hat : ∀ j, (((copyW s.ws a b n).set a ((n : Int) * 16 + 15)).set (a + 1) (8 * s.h.bottom)).getD j 0 = if j = a + 1 then 8 * s.h.bottom else if j = a then (n : Int) * 16 + 15 else if b ≤ j ∧ j < b + n then s.ws.getD (a + (j - b)) 0 else s.ws.getD j 0 := fun j => by
        rw [getD_set, getD_set, hcw, List.length_set, copyW_length]
        by_cases h1 : j = a + 1
        · rw [if_pos ⟨h1, by omega⟩, if_pos h1]
        · rw [if_neg (by omega), if_neg h1]
          by_cases h2 : j = a
          · rw [if_pos ⟨h2, by omega⟩, if_pos h2]
          · rw [if_neg (by omega), if_neg h2]
      have hlen : (((copyW s.ws a b n).set a ((n : Int) * 16 + 15)).set (a + 1) (8 * s.h.bottom)).length = s.ws.length := by simp only [List.length_set, copyW_length]
      generalize ((copyW s.ws a b n).set a ((n : Int) * 16 + 15)).set (a + 1) (8 * s.h.bottom) = W' at hm hat hlen
      have hn3 : n = 3 ∨ n = 6 := by omega
      have gS : ∀ c : Nat, (S.set b (n : Int)).getD c 0 = if c = b then (n : Int) else S.getD c 0 := fun c => by
        rw [getD_set]
        by_cases e : c = b
        · rw [if_pos ⟨e, by have := d.len; omega⟩, if_pos e]
        · rw [if_neg (by omega), if_neg e]
      -- where objects lie
      have wi : ∀ c : Nat, S.getD c 0 ≠ 0 → (S.getD c 0 = 3 ∨ S.getD c 0 = 6) ∧ ((s.h.to ≤ (c : Int) ∧ (c : Int) + S.getD c 0 ≤ s.h.bottom) ∨ (s.h.top ≤ (c : Int) ∧ (c : Int) + S.getD c 0 ≤ s.h.to + s.h.size) ∨ (s.h.size - s.h.to ≤ (c : Int) ∧ (c : Int) + S.getD c 0 ≤ s.h.size - s.h.to + s.h.size)) := fun c hc => by
        have k := d.ends c hc
        unfold Within at k
        exact ⟨d.three hc, by omega⟩
      have ap : ∀ c : Nat, S.getD c 0 ≠ 0 → c ≠ a → (a : Int) + n ≤ (c : Int) ∨ (c : Int) + S.getD c 0 ≤ (a : Int) := fun c hc hca => by
        by_cases h : a < c
        · have := d.apart a c h hS hc
          omega
        · exact Or.inr (d.apart c a (by omega) hc hS)
      have sb : ∀ c : Nat, S.getD c 0 ≠ 0 → c ≠ b := fun c hc e => by
        have := wi c hc
        omega
      -- words of objects other than the one that is moved stay
      have st : ∀ c : Nat, S.getD c 0 ≠ 0 → c ≠ a → ∀ i : Nat, (i : Int) < S.getD c 0 → W'.getD (c + i) 0 = s.ws.getD (c + i) 0 := fun c hc hca i hi => by
        have k1 := wi c hc
        have k2 := ap c hc hca
        rw [hat, if_neg (by omega), if_neg (by omega), if_neg (by omega)]
      have st0 : ∀ c : Nat, S.getD c 0 ≠ 0 → c ≠ a → W'.getD c 0 = s.ws.getD c 0 := fun c hc hca => st c hc hca 0 (by have := wi c hc; omega)
      have wa : W'.getD a 0 = (n : Int) * 16 + 15 := by rw [hat, if_neg (by omega), if_pos rfl]
      have wa1 : W'.getD (a + 1) 0 = 8 * s.h.bottom := by rw [hat, if_pos rfl]
      have wb : ∀ i : Nat, i < n → W'.getD (b + i) 0 = s.ws.getD (a + i) 0 := fun i hi => by
        rw [hat, if_neg (by omega), if_neg (by omega), if_pos (by omega)]
        congr 1
        omega
      have wb0 : W'.getD b 0 = s.ws.getD a 0 := wb 0 (by omega)
      have md : ((n : Int) * 16 + 15) % 16 = 15 := by omega
      have hbi : InS s.h b := by unfold InS; omega
      have hnow : ∀ e : Nat, S.getD e 0 ≠ 0 → nowZ W' e = (fun c => if c = a then b else c) (nowZ s.ws e) := fun e he => by
        unfold nowZ
        by_cases hea : e = a
        · subst hea
          rw [wa, if_pos md, if_neg hk, wa1]
          dsimp only
          rw [if_pos rfl]
          omega
        · rw [st0 e he hea]
          by_cases hm2 : s.ws.getD e 0 % 16 = 15
          · rw [if_pos hm2, if_pos hm2]
            have hst := st e he hea 1 (by have := wi e he; omega)
            rw [hst]
            obtain ⟨f1, f2, f3, f4⟩ := d.fwd e he hm2
            dsimp only
            rw [if_neg]
            intro k
            rw [k] at f3
            unfold InS at f3
            omega
          · rw [if_neg hm2, if_neg hm2]
            dsimp only
            rw [if_neg hea]
      have hword : ∀ z, Pts S s.ws.length z → WordR (Node s.ws S) s.ws W' (fun c => if c = a then b else c) z z := fun z p => ⟨fun _ => rfl, fun hz => ⟨hz, d.now (p.2 hz).2.2, hnow _ (p.2 hz).2.2⟩⟩
      have ext0 : ∀ c : Nat, S.getD c 0 ≠ 0 → (S.set b (n : Int)).getD c 0 = S.getD c 0 := fun c hc => by rw [gS, if_neg (sb c hc)]
      have ext : ∀ c : Nat, S.getD c 0 ≠ 0 → (S.set b (n : Int)).getD c 0 ≠ 0 := fun c hc => by rw [ext0 c hc]; exact hc
      injection hm with hy hs
      injection hy with hy
      subst hy hs
      dsimp only
      refine ⟨S.set b (n : Int), (fun c => if c = a then b else c), ⟨⟨?_, by rw [List.length_set, hlen]; exact d.len, ?_, ?_, ?_, ?_, ?_, fun _ => ⟨?_, ?_⟩, fun hsb => ⟨?_, trivial⟩, ?_, ?_, ?_⟩, hlen, ⟨?_, ?_, ?_⟩, ?_, hword, rfl, by dsimp only; omega, ?_, ext0⟩, ⟨fun k => absurd (by omega) k, fun _ => ?_⟩, ?_, ?_, rfl, Or.inr ⟨rfl, n, hn3, by rw [hbn], rfl⟩⟩
      · -- ord
        rw [hlen]
        refine ⟨o1, o2, o3, o4, o5, o6, o7, ?_, ?_, o10, o11, o12, o13⟩ <;> dsimp only <;> omega
      · -- size
        intro c hc
        rw [gS] at hc ⊢
        by_cases hcb : c = b
        · rw [if_pos hcb, hcb, wb0, ← hnn]
          exact d.size a hS
        · rw [if_neg hcb] at hc ⊢
          by_cases hca : c = a
          · rw [hca, wa, size_mvd hn3]
            exact hnn
          · rw [st0 c hc hca]
            exact d.size c hc
      · -- ends
        intro c hc
        rw [gS] at hc ⊢
        unfold Within
        dsimp only
        by_cases hcb : c = b
        · rw [if_pos hcb]
          left
          omega
        · rw [if_neg hcb] at hc ⊢
          have k := d.ends c hc
          unfold Within at k
          rcases k with k | k | k
          · exact Or.inl ⟨k.1, by omega⟩
          · exact Or.inr (Or.inl k)
          · exact Or.inr (Or.inr k)
      · -- apart
        intro c e hce hc he
        rw [gS] at hc he ⊢
        by_cases hcb : c = b
        · rw [if_neg (by omega)] at he
          rw [if_pos hcb]
          have := wi e he
          omega
        · rw [if_neg hcb] at hc ⊢
          by_cases heb : e = b
          · have := wi c hc
            omega
          · rw [if_neg heb] at he
            exact d.apart c e hce hc he
      · -- rowA
        dsimp only
        rw [show (s.h.bottom + (n : Int)).toNat = b + n by omega]
        refine LayRow.snoc ?_ n (by omega) (by rw [gS, if_pos rfl])
        have r := d.rowA
        rw [hbn] at r
        exact r.keep (fun j j1 j2 => by rw [gS, if_neg (by omega)])
      · -- rowB
        exact d.rowB.keep (fun j j1 j2 => by rw [gS, if_neg (by omega)])
      · exact (d.rowC trivial).1.keep (fun j j1 j2 => by rw [gS, if_neg (by omega)])
      · exact (d.rowC trivial).2.keep (fun j j1 j2 => by rw [gS, if_neg (by omega)])
      · -- scan
        dsimp only at hsb ⊢
        by_cases h1 : s.h.scan < s.h.bottom
        · exact ext _ (d.scan h1).1
        · rw [gS, if_pos (by omega)]
          omega
      · -- unm
        intro c hc hi
        rw [gS] at hc
        by_cases hcb : c = b
        · rw [hcb, wb0]
          exact hk
        · rw [if_neg hcb] at hc
          unfold InS at hi
          dsimp only at hi
          have hca : c ≠ a := fun e => by omega
          rw [st0 c hc hca]
          exact d.unm c hc hi
      · -- fwd
        intro c hc hmv
        rw [gS] at hc
        by_cases hcb : c = b
        · rw [hcb, wb0] at hmv
          exact absurd hmv hk
        · rw [if_neg hcb] at hc
          by_cases hca : c = a
          · subst hca
            rw [wa1]
            have e1 : (8 * s.h.bottom / 8).toNat = b := by omega
            refine ⟨by omega, by omega, by rw [e1]; exact hbi, ?_⟩
            rw [e1, gS, if_pos rfl, gS, if_neg hcb, hnn]
          · have hst := st c hc hca 1 (by have := wi c hc; omega)
            rw [st0 c hc hca] at hmv
            rw [hst]
            obtain ⟨f1, f2, f3, f4⟩ := d.fwd c hc hmv
            refine ⟨f1, f2, f3, ?_⟩
            rw [ext0 _ (by rw [f4]; exact hc), ext0 c hc]
            exact f4
      · -- flds
        intro c hc hmv i h1 h2
        rw [hlen]
        rw [gS] at hc h2
        by_cases hcb : c = b
        · rw [if_pos hcb] at h2
          rw [hcb, wb i (by omega)]
          refine (d.flds a hS hk i h1 (by omega)).mono ext (fun q hq => ?_)
          right
          right
          dsimp only
          omega
        · rw [if_neg hcb] at hc h2
          have hca : c ≠ a := fun e => by rw [e, wa] at hmv; exact hmv md
          rw [st0 c hc hca] at hmv
          rw [st c hc hca i h2]
          refine (d.flds c hc hmv i h1 h2).mono ext (fun q hq => ?_)
          rcases hq with hq | hq | hq
          · exact Or.inl hq
          · exact Or.inr (Or.inl hq)
          · refine Or.inr (Or.inr ?_)
            dsimp only
            omega
      · -- iso.head
        intro c hc
        by_cases hca : c = a
        · rw [if_pos hca, wb0, hca]
        · rw [if_neg hca]
          exact st0 c hc.here hca
      · -- iso.flds
        intro c hc i h1 h2
        have e := d.head hc.here
        have hp := (d.flds c hc.here hc.kind i h1 (by omega)).pts
        by_cases hca : c = a
        · subst hca
          rw [if_pos rfl, wb i (by omega)]
          exact hword _ hp
        · rw [if_neg hca, st c hc.here hca i (by omega)]
          exact hword _ hp
      · -- iso.inj
        intro c e hc he h
        have h1 := sb c hc.here
        have h2 := sb e he.here
        by_cases hca : c = a
        · by_cases hea : e = a
          · omega
          · rw [if_pos hca, if_neg hea] at h
            omega
        · by_cases hea : e = a
          · rw [if_neg hca, if_pos hea] at h
            omega
          · rw [if_neg hca, if_neg hea] at h
            exact h
      · -- node
        intro c hc
        by_cases hca : c = a
        · rw [if_pos hca]
          exact ⟨by rw [gS, if_pos rfl]; omega, by rw [wb0]; exact hk⟩
        · rw [if_neg hca]
          exact ⟨ext c hc.here, by rw [st0 c hc.here hca]; exact hc.kind⟩
      · -- inn
        intro c hc
        unfold InS at hc
        rw [if_neg (by omega)]
      · -- led
        have e1 : (8 * s.h.bottom / 8).toNat = b := by omega
        rw [e1]
        exact ⟨by omega, by omega, by rw [gS, if_pos rfl]; omega, Or.inl hbi⟩
      · -- word
        refine hxw ⟨by omega, d.now hS, ?_⟩
        have e1 : (8 * s.h.bottom / 8).toNat = b := by omega
        rw [e1]
        unfold nowZ
        rw [wb0, if_neg hk, if_neg hk, if_pos rfl]
      · -- kept
        intro j hj hj2
        dsimp only at hj2 ⊢
        unfold InS at hj
        rw [hat, if_neg (by omega), if_neg (by omega), if_neg (by omega)]
end Go.Proofs.Ytebpgglegnljgaa

namespace Go.Proofs.Ytebpgglegnljgaa
open Go.RowKit

theorem dyn_write {S ws : List Int} {h : HpN} {p i : Nat} {y : Int} (d : Dyn True S ws h) (hp : S.getD p 0 ≠ 0) (hi : InS h p) (h1 : 1 ≤ i) (h2 : (i : Int) < S.getD p 0) (ly : Led S h ws.length False y) (hw : WordR (Node ws S) ws ws id (ws.getD (p + i) 0) y) :
    Step S ws h S (ws.set (p + i) y) h id ∧ ∀ j, (ws.set (p + i) y).getD j 0 = if j = p + i then y else ws.getD j 0 := by
  have hb := d.below hp
  have g : ∀ j, (ws.set (p + i) y).getD j 0 = if j = p + i then y else ws.getD j 0 := fun j => by
    rw [getD_set]
    by_cases e : j = p + i
    · rw [if_pos ⟨e, by omega⟩, if_pos e]
    · rw [if_neg (by omega), if_neg e]
  have ap : ∀ c : Nat, S.getD c 0 ≠ 0 → c ≠ p → (p : Int) + S.getD p 0 ≤ (c : Int) ∨ (c : Int) + S.getD c 0 ≤ (p : Int) := fun c hc hcp => by
    by_cases k : p < c
    · exact Or.inl (d.apart p c k hp hc)
    · exact Or.inr (d.apart c p (by omega) hc hp)
  have st : ∀ c : Nat, S.getD c 0 ≠ 0 → c ≠ p → ∀ k : Nat, (k : Int) < S.getD c 0 → (ws.set (p + i) y).getD (c + k) 0 = ws.getD (c + k) 0 := fun c hc hcp k hk => by
    have := ap c hc hcp
    rw [g, if_neg (by omega)]
  have st0 : ∀ c : Nat, S.getD c 0 ≠ 0 → (ws.set (p + i) y).getD c 0 = ws.getD c 0 := fun c hc => by
    by_cases e : c = p
    · rw [g, if_neg (by omega)]
    · exact st c hc e 0 (by have := d.three hc; omega)
  have st1 : ∀ c : Nat, S.getD c 0 ≠ 0 → ws.getD c 0 % 16 = 15 → (ws.set (p + i) y).getD (c + 1) 0 = ws.getD (c + 1) 0 := fun c hc hm => by
    have e : c ≠ p := fun e => d.unm p hp hi (e ▸ hm)
    exact st c hc e 1 (by have := d.three hc; omega)
  have hl : (ws.set (p + i) y).length = ws.length := List.length_set
  have hnow : ∀ e : Nat, S.getD e 0 ≠ 0 → nowZ (ws.set (p + i) y) e = nowZ ws e := fun e he => by
    unfold nowZ
    rw [st0 e he]
    by_cases hm : ws.getD e 0 % 16 = 15
    · rw [if_pos hm, if_pos hm, st1 e he hm]
    · rw [if_neg hm, if_neg hm]
  have tr : ∀ x z, Pts S ws.length z → WordR (Node ws S) ws ws id x z → WordR (Node ws S) ws (ws.set (p + i) y) id x z := fun x z pz w => by
    refine ⟨w.1, fun hx => ?_⟩
    obtain ⟨w1, w2, w3⟩ := w.2 hx
    refine ⟨w1, w2, ?_⟩
    rw [hnow _ (pz.2 w1).2.2]
    exact w3
  refine ⟨⟨⟨by rw [hl]; exact d.ord, by rw [hl]; exact d.len, fun a ha => by rw [st0 a ha]; exact d.size a ha, d.ends, d.apart, d.rowA, d.rowB, d.rowC, d.scan, fun a ha hia => by rw [st0 a ha]; exact d.unm a ha hia, fun a ha hm => ?_, fun a ha hm k k1 k2 => ?_⟩, hl, ⟨fun a ha => st0 a ha.here, fun a ha k k1 k2 => ?_, fun _ _ _ _ e => e⟩, fun a ha => ⟨ha.here, by rw [id, st0 a ha.here]; exact ha.kind⟩, fun x px => tr x x px (d.same px), rfl, Int.le_refl _, fun _ _ => rfl, fun _ _ => rfl⟩, g⟩
  · rw [st0 a ha] at hm
    rw [st1 a ha hm]
    exact d.fwd a ha hm
  · rw [st0 a ha] at hm
    rw [hl, g]
    by_cases e : a + k = p + i
    · rw [if_pos e]
      exact ly.mono (fun _ k => k) (fun _ k => k.imp id (fun k => k.elim))
    · rw [if_neg e]
      exact d.flds a ha hm k k1 k2
  · have e := d.head ha.here
    rw [id, g]
    have pz := (d.flds a ha.here ha.kind k k1 (by omega)).pts
    by_cases e : a + k = p + i
    · rw [if_pos e, e]
      exact tr _ _ ly.pts hw
    · rw [if_neg e]
      exact tr _ _ pz (d.same pz)

structure FieldT (S : List Int) (s : CN) (q : Nat) (y : Int) (S' : List Int) (s' : CN) (f : Nat → Nat) : Prop where
  step : Step S s.ws s.h S' s'.ws s'.h f
  led : Led S' s'.h s.ws.length False y
  word : WordR (Node s.ws S) s.ws s'.ws f (s.ws.getD q 0) y
  at_ : s'.ws.getD q 0 = y
  kept : ∀ j : Nat, InS s.h j → j ≠ q → ((j : Int) < s.h.bottom ∨ s'.h.bottom ≤ (j : Int)) → s'.ws.getD j 0 = s.ws.getD j 0
  scan : s'.h.scan = s.h.scan
  new : (s'.h.bottom = s.h.bottom ∧ S' = S) ∨ (y = 8 * s.h.bottom ∧ ∃ n : Nat, (n = 3 ∨ n = 6) ∧ S' = S.set s.h.bottom.toNat n ∧ s'.h.bottom = s.h.bottom + n)

theorem obj_side {c : Prop} {S ws : List Int} {h : HpN} (d : Dyn c S ws h) {p : Nat} (hp : S.getD p 0 ≠ 0) (hi : InS h p) : (h.to ≤ (p : Int) ∧ (p : Int) + S.getD p 0 ≤ h.bottom) ∨ (h.top ≤ (p : Int) ∧ (p : Int) + S.getD p 0 ≤ h.to + h.size) := by
  obtain ⟨o1, o2, o3, o4, o5, o6, o7, o8, o9, o10, o11, o12, o13⟩ := d.ord
  have k := d.ends p hp
  have k3 := d.three hp
  unfold Within at k
  unfold InS at hi
  omega

theorem dyn_field {S : List Int} {s s' : CN} {p i : Nat} {y : Int} (d : Dyn True S s.ws s.h) (hp : S.getD p 0 ≠ 0) (hi : InS s.h p) (h1 : 1 ≤ i) (h2 : (i : Int) < S.getD p 0) (he : fieldZ s (p + i) = (some y, s')) : ∃ S' f, FieldT S s (p + i) y S' s' f := by
  have hm := d.unm p hp hi
  have pq := (d.flds p hp hm i h1 h2).pts
  have hsd := obj_side d hp hi
  obtain ⟨o1, o2, o3, o4, o5, o6, o7, o8, o9, o10, o11, o12, o13⟩ := id d.ord
  have hqi : InS s.h (p + i) := by unfold InS at hi ⊢; push_cast; omega
  unfold fieldZ at he
  cases hl : lateZ s.h (s.ws.getD (p + i) 0) with
  | false =>
    rw [if_pos hl] at he
    cases he
    have hmv : moveZ s (s.ws.getD (p + i) 0) = (some (s.ws.getD (p + i) 0), s) := by
      unfold moveZ
      rw [if_pos hl]
    obtain ⟨S', f, t⟩ := dyn_move d pq hmv
    exact ⟨S', f, t.step, t.led, t.word, rfl, fun j k1 _ k2 => rfl, rfl, t.new⟩
  | true =>
    rw [if_neg (by rw [hl]; decide)] at he
    cases hmv : moveZ { s with r := s.r + 1 } (s.ws.getD (p + i) 0) with
    | mk o s2 =>
      rw [hmv] at he
      cases o with
      | none => cases he
      | some z =>
        cases he
        obtain ⟨S2, f, t⟩ := dyn_move (s := { s with r := s.r + 1 }) d pq hmv
        have t1 := t.step
        have t4 := t.kept
        dsimp only at t1 t4
        have hg := t1.grow
        have htop : s2.h.top = s.h.top := by rw [t1.num]
        have hbt : s2.h.bottom ≤ s2.h.top := by
          obtain ⟨-, -, -, -, -, -, -, -, k, -⟩ := t1.dyn.ord
          exact k
        have hq2 : s2.ws.getD (p + i) 0 = s.ws.getD (p + i) 0 := t4 (p + i) hqi (by push_cast; omega)
        have hp2 := t1.ext p hp
        have w1 := t1.word _ pq
        have w2 := t.word
        dsimp only at w2
        obtain ⟨st, g⟩ := dyn_write (y := y) t1.dyn (by rw [hp2]; exact hp) ((t1.ins p).2 hi) h1 (by rw [hp2]; exact h2) (by rw [t1.len]; exact t.led) (by
          rw [hq2]
          refine ⟨fun hx => ?_, fun hx => ?_⟩
          · exact w2.1 hx
          · obtain ⟨a1, a2, a3⟩ := w1.2 hx
            obtain ⟨b1, b2, b3⟩ := w2.2 hx
            refine ⟨b1, ?_, ?_⟩
            · rw [a3]
              exact t1.node _ a2
            · rw [b3, a3]
              rfl)
        have w3 := w2.comp (st.word y (by rw [t1.len]; exact t.led.pts))
        refine ⟨S2, _, t1.comp st, t.led, w3, by rw [g, if_pos rfl], fun j k1 k2 k3 => ?_, t.scan, t.new⟩
        dsimp only
        rw [g, if_neg k2]
        exact t4 j k1 k3

structure FieldsT (S : List Int) (s : CN) (p k : Nat) (S' : List Int) (s' : CN) (f : Nat → Nat) : Prop where
  step : Step S s.ws s.h S' s'.ws s'.h f
  led : ∀ i, 1 ≤ i → i ≤ k → Led S' s'.h s.ws.length False (s'.ws.getD (p + i) 0)
  scan : s'.h.scan = s.h.scan

theorem dyn_fields {S : List Int} {s : CN} {p : Nat} (d : Dyn True S s.ws s.h) (hp : S.getD p 0 ≠ 0) (hi : InS s.h p) : ∀ k : Nat, (k : Int) < S.getD p 0 → ∀ s', fieldsRun p k s = some s' → ∃ S' f, FieldsT S s p k S' s' f
  | 0, _, s', he => by
    cases he
    exact ⟨S, id, Step.refl d, fun i h1 h2 => by omega, rfl⟩
  | k + 1, hk, s', he => by
    unfold fieldsRun at he
    cases h1 : fieldsRun p k s with
    | none => rw [h1] at he; cases he
    | some s1 =>
      rw [h1] at he
      dsimp only at he
      obtain ⟨S1, f1, t1⟩ := dyn_fields d hp hi k (by push_cast at hk; omega) s1 h1
      cases h2 : fieldZ s1 (p + (k + 1)) with
      | mk o s2 =>
        rw [h2] at he
        cases o with
        | none => cases he
        | some y =>
          cases he
          have e1 := t1.step.ext p hp
          have hi1 := (t1.step.ins p).2 hi
          obtain ⟨S2, f2, t2⟩ := dyn_field t1.step.dyn (by rw [e1]; exact hp) hi1 (by omega) (by rw [e1]; exact hk) h2
          have hsd := obj_side t1.step.dyn (p := p) (by rw [e1]; exact hp) hi1
          rw [e1] at hsd
          obtain ⟨o1, o2, o3, o4, o5, o6, o7, o8, o9, o10, o11, o12, o13⟩ := id t1.step.dyn.ord
          have hg := t2.step.grow
          have htop : s'.h.top = s1.h.top := by rw [t2.step.num]
          have hbt : s'.h.bottom ≤ s'.h.top := by
            obtain ⟨-, -, -, -, -, -, -, -, k, -⟩ := t2.step.dyn.ord
            exact k
          refine ⟨S2, _, t1.step.comp t2.step, fun i k1 k2 => ?_, t2.scan.trans t1.scan⟩
          have hle := t1.step.len
          by_cases e : i = k + 1
          · rw [e, t2.at_, ← hle]
            exact t2.led
          · have hin : InS s1.h (p + i) := by unfold InS at hi1 ⊢; push_cast at hk ⊢; omega
            rw [t2.kept (p + i) hin (by omega) (by push_cast at hk ⊢; omega)]
            exact t2.step.led (t1.led i k1 (by omega))

theorem dyn_past {S ws : List Int} {h : HpN} {p : Nat} {n : Int} (d : Dyn True S ws h) (hs : h.scan = p) (hp : S.getD p 0 = n) (hn : n ≠ 0) (hi : InS h p) (hb : (p : Int) < h.bottom) (hl : ∀ i : Nat, 1 ≤ i → (i : Int) < n → Led S h ws.length False (ws.getD (p + i) 0)) :
    Dyn True S ws { h with scan := h.scan + n } := by
  have hp0 : S.getD p 0 ≠ 0 := by rw [hp]; exact hn
  have h3 := d.three hp0
  have hsd := obj_side d hp0 hi
  obtain ⟨o1, o2, o3, o4, o5, o6, o7, o8, o9, o10, o11, o12, o13⟩ := id d.ord
  rw [hp] at h3 hsd
  have hend : (p : Int) + n ≤ h.bottom := by omega
  obtain ⟨m, hm⟩ := Int.eq_ofNat_of_zero_le (show 0 ≤ n by omega)
  have r := d.rowA.from d.apart (c := p) (by omega) (by omega) hp0
  refine ⟨⟨o1, o2, o3, o4, o5, o6, by dsimp only; omega, by dsimp only; omega, o9, o10, o11, o12, o13⟩, d.len, d.size, d.ends, d.apart, d.rowA, d.rowB, d.rowC, fun hb2 => ⟨?_, trivial⟩, d.unm, d.fwd, fun a ha hmv i h1 h2 => ?_⟩
  · dsimp only at hb2 ⊢
    generalize hbt : h.bottom.toNat = b at r
    cases r with
    | nil => omega
    | cons n' hn' hd rest =>
      have e : n' = m := by omega
      rw [e] at rest
      rw [show (h.scan + n).toNat = p + m by omega]
      cases rest with
      | nil => omega
      | cons n2 hn2 hd2 _ => omega
  · dsimp only
    by_cases e : a = p
    · subst e
      exact (hl i h1 (by omega)).mono (fun _ k => k) (fun _ k => k.imp id (fun k => k.elim))
    · refine (d.flds a ha hmv i h1 h2).mono (fun _ k => k) (fun q k => ?_)
      rcases k with k | k | k
      · exact Or.inl k
      · exact Or.inr (Or.inl k)
      · refine Or.inr (Or.inr ?_)
        have := d.apart p a (by omega) hp0 ha
        omega

theorem Dyn.begin {S ws : List Int} {h : HpN} {c : Prop} (d : Dyn c S ws h) (hb : h.scan < h.bottom) : ∃ p : Nat, h.scan = p ∧ S.getD p 0 ≠ 0 ∧ InS h p ∧ ws.getD p 0 / 16 = S.getD p 0 := by
  obtain ⟨o1, o2, o3, o4, o5, o6, o7, o8, o9, o10, o11, o12, o13⟩ := id d.ord
  obtain ⟨p, hp⟩ := Int.eq_ofNat_of_zero_le (show 0 ≤ h.scan by omega)
  have hS := (d.scan hb).1
  rw [hp, Int.toNat_natCast] at hS
  exact ⟨p, hp, hS, by unfold InS; omega, d.head hS⟩

theorem dyn_scan {S : List Int} {s s' : CN} (d : Dyn True S s.ws s.h) (he : scanOne s = some s') : ∃ S' f, Step S s.ws s.h S' s'.ws s'.h f := by
  unfold scanOne at he
  by_cases hb : s.h.scan = s.h.bottom
  · rw [if_pos hb] at he
    cases he
    exact ⟨S, id, Step.refl d⟩
  · rw [if_neg hb] at he
    obtain ⟨o1, o2, o3, o4, o5, o6, o7, o8, o9, o10, o11, o12, o13⟩ := id d.ord
    obtain ⟨p, hp, hS, hi, hd⟩ := d.begin (by omega)
    have h3 := d.three hS
    rw [hp, Int.toNat_natCast, hd] at he
    obtain ⟨n, hn⟩ := Int.eq_ofNat_of_zero_le (show 0 ≤ S.getD p 0 by omega)
    rw [hn, Int.toNat_natCast] at he
    cases h1 : fieldsRun p (n - 1) { s with r := s.r + 1 } with
    | none => rw [h1] at he; cases he
    | some s1 =>
      rw [h1] at he
      cases he
      obtain ⟨S1, f, t⟩ := dyn_fields (s := { s with r := s.r + 1 }) d hS hi (n - 1) (by omega) s1 h1
      have t1 := t.step
      have t2 := t.led
      have t3 := t.scan
      dsimp only at t1 t2 t3
      have e1 := t1.ext p hS
      have hg := t1.grow
      have dd := dyn_past (p := p) t1.dyn (by omega) e1 hS ((t1.ins p).2 hi) (by omega) (fun i k1 k2 => by rw [t1.len]; exact t2 i k1 (by omega))
      have hnum := t1.num
      refine ⟨S1, f, ⟨?_, t1.len, t1.iso, t1.node, t1.word, ?_, hg, t1.inn, t1.ext⟩⟩
      · dsimp only
        rw [show (p : Int) + (n : Int) = s1.h.scan + S.getD p 0 by omega]
        exact dd
      · dsimp only
        rw [hnum]

theorem dyn_scans {S : List Int} {s : CN} (d : Dyn True S s.ws s.h) : ∀ k s', scanRun k s = some s' → ∃ S' f, Step S s.ws s.h S' s'.ws s'.h f
  | 0, s', he => by
    cases he
    exact ⟨S, id, Step.refl d⟩
  | k + 1, s', he => by
    unfold scanRun at he
    cases h1 : scanRun k s with
    | none => rw [h1] at he; cases he
    | some s1 =>
      rw [h1] at he
      obtain ⟨S1, f1, t1⟩ := dyn_scans d k s1 h1
      obtain ⟨S2, f2, t2⟩ := dyn_scan t1.dyn he
      exact ⟨S2, _, t1.comp t2⟩
end Go.Proofs.Ytebpgglegnljgaa

namespace Go.Proofs.Ytebpgglegnljgaa
open Go.RowKit

def dropS (S : List Int) (h : HpN) : List Int := (List.range S.length).map (fun a : Nat => if h.to ≤ (a : Int) ∧ (a : Int) < h.to + h.size then S.getD a 0 else 0)

theorem dropS_len (S : List Int) (h : HpN) : (dropS S h).length = S.length := by
  unfold dropS
  simp

theorem dropS_get (S : List Int) (h : HpN) (a : Nat) : (dropS S h).getD a 0 = if h.to ≤ (a : Int) ∧ (a : Int) < h.to + h.size then S.getD a 0 else 0 := by
  unfold dropS
  by_cases ha : a < S.length
  · rw [List.getD_eq_getElem?_getD, List.getElem?_map, List.getElem?_range ha]
    rfl
  · have e : S.getD a 0 = 0 := by
      rw [List.getD_eq_getElem?_getD, List.getElem?_eq_none (by omega)]
      rfl
    rw [e, List.getD_eq_getElem?_getD, List.getElem?_eq_none (by simp; omega)]
    simp

theorem dropS_in {S : List Int} {h : HpN} {a : Nat} (hi : InS h a) : (dropS S h).getD a 0 = S.getD a 0 := by
  unfold InS at hi
  rw [dropS_get, if_pos hi]

theorem dropS_of {S : List Int} {h : HpN} {a : Nat} (ha : (dropS S h).getD a 0 ≠ 0) : InS h a ∧ S.getD a 0 ≠ 0 := by
  rw [dropS_get] at ha
  by_cases hi : h.to ≤ (a : Int) ∧ (a : Int) < h.to + h.size
  · rw [if_pos hi] at ha
    exact ⟨hi, ha⟩
  · rw [if_neg hi] at ha
    exact absurd rfl ha

theorem Dyn.of_iff {c c' : Prop} {S ws : List Int} {h : HpN} (d : Dyn c S ws h) (e : c ↔ c') : Dyn c' S ws h := by
  have := propext e
  subst this
  exact d

theorem Dyn.touch {c : Prop} {S ws : List Int} {h : HpN} (d : Dyn c S ws h) {t : Int} (ht : 0 ≤ t) : Dyn c S ws { h with touched := t } := by
  obtain ⟨o1, o2, o3, o4, o5, o6, o7, o8, o9, o10, o11, o12, o13⟩ := id d.ord
  exact ⟨⟨o1, o2, o3, o4, o5, ht, o7, o8, o9, o10, o11, o12, o13⟩, d.len, d.size, d.ends, d.apart, d.rowA, d.rowB, d.rowC, d.scan, d.unm, d.fwd, d.flds⟩

theorem Dyn.inner {c : Prop} {S ws : List Int} {h : HpN} (d : Dyn c S ws h) (hb : ¬ h.scan < h.bottom) {a : Nat} (ha : S.getD a 0 ≠ 0) (hi : InS h a) {i : Nat} (h1 : 1 ≤ i) (h2 : (i : Int) < S.getD a 0) : Led S h ws.length False (ws.getD (a + i) 0) := by
  refine (d.flds a ha (d.unm a ha hi) i h1 h2).mono (fun _ k => k) (fun q k => ?_)
  rcases k with k | k | k
  · exact Or.inl k
  · exact absurd hi k
  · exact absurd (by omega) hb

theorem Led.drop {S : List Int} {h : HpN} {N : Nat} {x : Int} (l : Led S h N False x) : Led (dropS S h) h N False x := by
  refine ⟨l.1, fun hx => ?_⟩
  obtain ⟨l1, l2, l3, l4⟩ := l.2 hx
  have hi : InS h (x / 8).toNat := l4.resolve_right id
  exact ⟨l1, l2, by rw [dropS_in hi]; exact l3, Or.inl hi⟩

theorem dyn_drop {c : Prop} {S ws : List Int} {h : HpN} (d : Dyn c S ws h) (hb : ¬ h.scan < h.bottom) : Dyn False (dropS S h) ws h := by
  obtain ⟨o1, o2, o3, o4, o5, o6, o7, o8, o9, o10, o11, o12, o13⟩ := id d.ord
  refine ⟨d.ord, by rw [dropS_len]; exact d.len, fun a ha => ?_, fun a ha => ?_, fun a b hab ha hb' => ?_, d.rowA.keep (fun j j1 j2 => dropS_in ?_), d.rowB.keep (fun j j1 j2 => dropS_in ?_), fun k => k.elim, fun k => absurd k hb, fun a ha hi => d.unm a (dropS_of ha).2 hi, fun a ha hm => ?_, fun a ha hm i h1 h2 => ?_⟩
  · obtain ⟨hi, hS⟩ := dropS_of ha
    rw [dropS_in hi]
    exact d.size a hS
  · obtain ⟨hi, hS⟩ := dropS_of ha
    rw [dropS_in hi]
    rcases obj_side d hS hi with k | k
    · exact Or.inl k
    · exact Or.inr (Or.inl k)
  · rw [dropS_in (dropS_of ha).1]
    exact d.apart a b hab (dropS_of ha).2 (dropS_of hb').2
  · unfold InS
    omega
  · unfold InS
    omega
  · exact absurd hm (d.unm a (dropS_of ha).2 (dropS_of ha).1)
  · obtain ⟨hi, hS⟩ := dropS_of ha
    rw [dropS_in hi] at h2
    exact (d.inner hb hS hi h1 h2).drop.mono (fun _ k => k) (fun _ k => k.imp id (fun k => k.elim))

theorem dyn_flip {c : Prop} {S ws : List Int} {h : HpN} (d : Dyn c S ws h) (hb : ¬ h.scan < h.bottom) (hf : h.flips < 4000000000) : Dyn True (dropS S h) ws (flipH h) := by
  obtain ⟨o1, o2, o3, o4, o5, o6, o7, o8, o9, o10, o11, o12, o13⟩ := id d.ord
  have hw : wrap64 (h.flips + 1) = h.flips + 1 := by unfold wrap64; omega
  have no : ∀ a, InS h a → ¬ InS (flipH h) a := fun a hi k => by
    unfold InS flipH at k
    unfold InS at hi
    dsimp only at k
    omega
  refine ⟨?_, by rw [dropS_len]; exact d.len, fun a ha => ?_, fun a ha => ?_, fun a b hab ha hb' => ?_, ?_, ?_, fun _ => ⟨?_, ?_⟩, fun k => ?_, fun a ha hi => absurd hi (no a (dropS_of ha).1), fun a ha hm => ?_, fun a ha hm i h1 h2 => ?_⟩
  · unfold flipH Ordered
    rw [hw]
    dsimp only
    omega
  · obtain ⟨hi, hS⟩ := dropS_of ha
    rw [dropS_in hi]
    exact d.size a hS
  · obtain ⟨hi, hS⟩ := dropS_of ha
    rw [dropS_in hi]
    refine Or.inr (Or.inr ⟨trivial, ?_⟩)
    unfold flipH
    dsimp only
    rcases obj_side d hS hi with k | k
    · left
      omega
    · right
      omega
  · rw [dropS_in (dropS_of ha).1]
    exact d.apart a b hab (dropS_of ha).2 (dropS_of hb').2
  · exact LayRow.nil _
  · exact LayRow.nil _
  · unfold flipH
    dsimp only
    rw [show h.size - (h.size - h.to) = h.to by omega]
    exact d.rowA.keep (fun j j1 j2 => dropS_in (by unfold InS; omega))
  · unfold flipH
    dsimp only
    rw [show h.size - (h.size - h.to) = h.to by omega]
    exact d.rowB.keep (fun j j1 j2 => dropS_in (by unfold InS; omega))
  · unfold flipH at k
    dsimp only at k
    omega
  · exact absurd hm (d.unm a (dropS_of ha).2 (dropS_of ha).1)
  · obtain ⟨hi, hS⟩ := dropS_of ha
    rw [dropS_in hi] at h2
    exact (d.inner hb hS hi h1 h2).drop.mono (fun _ k => k) (fun _ k => Or.inr (Or.inl (no a hi)))

theorem drop_closed {c : Prop} {S ws : List Int} {h : HpN} (d : Dyn c S ws h) (hb : ¬ h.scan < h.bottom) : ∀ b, Node ws (dropS S h) b → ∀ i : Nat, 1 ≤ i → (i : Int) < ws.getD b 0 / 16 → ws.getD (b + i) 0 % 8 = 0 → Node ws (dropS S h) (nowZ ws (ws.getD (b + i) 0 / 8).toNat) := by
  intro b nb i h1 h2 hx
  have dd := dyn_drop d hb
  have e := dd.head nb.here
  exact dd.now ((dd.flds b nb.here nb.kind i h1 (by omega)).2 hx).2.2.1

structure MovesT (S : List Int) (s : CN) (xs : List Int) (k : Nat) (ys : List Int) (S' : List Int) (s' : CN) (f : Nat → Nat) : Prop where
  step : Step S s.ws s.h S' s'.ws s'.h f
  len : ys.length = xs.length
  done : ∀ i, i < k → Led S' s'.h s.ws.length False (ys.getD i 0) ∧ WordR (Node s.ws S) s.ws s'.ws f (xs.getD i 0) (ys.getD i 0)
  rest : ∀ i, k ≤ i → ys.getD i 0 = xs.getD i 0
  scan : s'.h.scan = s.h.scan

theorem dyn_moves {S : List Int} {s : CN} {xs : List Int} (d : Dyn True S s.ws s.h) (hx : ∀ i, i < xs.length → Pts S s.ws.length (xs.getD i 0)) : ∀ k, k ≤ xs.length → ∀ ys s', movesRun xs k s = some (ys, s') → ∃ S' f, MovesT S s xs k ys S' s' f
  | 0, _, ys, s', he => by
    cases he
    exact ⟨S, id, Step.refl d, rfl, fun i h => by omega, fun _ _ => rfl, rfl⟩
  | k + 1, hk, ys, s', he => by
    unfold movesRun at he
    cases h1 : movesRun xs k s with
    | none => rw [h1] at he; cases he
    | some r =>
      obtain ⟨zs, s1⟩ := r
      rw [h1] at he
      dsimp only at he
      obtain ⟨S1, f1, t1⟩ := dyn_moves d hx k (by omega) zs s1 h1
      have ez := t1.rest k (Nat.le_refl _)
      have px := hx k (by omega)
      have px1 : Pts S1 s1.ws.length (zs.getD k 0) := by rw [ez, t1.step.len]; exact t1.step.pts px
      cases h2 : moveZ s1 (zs.getD k 0) with
      | mk o s2 =>
        rw [h2] at he
        cases o with
        | none => cases he
        | some y =>
          cases he
          obtain ⟨S2, f2, t2⟩ := dyn_move t1.step.dyn px1 h2
          have hl := t1.len
          have g : ∀ j, (zs.set k y).getD j 0 = if j = k then y else zs.getD j 0 := fun j => by
            rw [getD_set]
            by_cases e : j = k
            · rw [if_pos ⟨e, by omega⟩, if_pos e]
            · rw [if_neg (by omega), if_neg e]
          refine ⟨S2, _, t1.step.comp t2.step, by rw [List.length_set]; exact hl, fun i hi => ?_, fun i hi => by rw [g, if_neg (by omega)]; exact t1.rest i (by omega), t2.scan.trans t1.scan⟩
          rw [g]
          by_cases e : i = k
          · rw [if_pos e, e]
            refine ⟨by rw [← t1.step.len]; exact t2.led, ?_⟩
            have w := t2.word
            rw [ez] at w
            exact (t1.step.word _ px).comp w
          · rw [if_neg e]
            obtain ⟨l1, w1⟩ := t1.done i (by omega)
            exact ⟨t2.step.led l1, w1.comp (t2.step.word _ (by rw [t1.step.len]; exact l1.pts))⟩

theorem writesRun_get (fs : List Int) (a : Nat) (s : CN) : ∀ k, a + 1 + k ≤ s.ws.length → ∀ j, (writesRun fs a k s).ws.getD j 0 = if a + 1 ≤ j ∧ j < a + 1 + k then fs.getD (j - (a + 1)) 0 else s.ws.getD j 0
  | 0, _, j => by
    rw [if_neg (by omega)]
    rfl
  | k + 1, hk, j => by
    unfold writesRun
    dsimp only
    rw [getD_set, (writesRun_keeps fs a s k).1, writesRun_get fs a s k (by omega)]
    by_cases e : j = a + 1 + k
    · rw [if_pos ⟨e, by omega⟩, if_pos (by omega), e]
      congr 1
      omega
    · rw [if_neg (by omega)]
      by_cases h : a + 1 ≤ j ∧ j < a + 1 + k
      · rw [if_pos h, if_pos (by omega)]
      · rw [if_neg h, if_neg (by omega)]

theorem size_made {n : Nat} {kind : Int} (hk : fieldsZ kind = n) (hn : n = 2 ∨ n = 5) (h0 : 0 ≤ kind) (h1 : kind < 15) : sizeZ (((1 + n : Nat) : Int) * 16 + kind) = ((1 + n : Nat) : Int) ∧ (((1 + n : Nat) : Int) * 16 + kind) % 16 ≠ 15 := by
  have e1 : (((1 + n : Nat) : Int) * 16 + kind) % 16 = kind := by omega
  have e2 : (((1 + n : Nat) : Int) * 16 + kind) / 16 = ((1 + n : Nat) : Int) := by omega
  refine ⟨?_, by omega⟩
  unfold sizeZ
  rw [e1, e2, hk, if_neg (by omega), if_neg (by push_cast; omega)]

structure PutT (c : Prop) (S : List Int) (s : CN) (n : Nat) (S' : List Int) (s' : CN) : Prop where
  dyn : Dyn c S' s'.ws s'.h
  len : s'.ws.length = s.ws.length
  iso : Iso (Node s.ws S) s.ws s'.ws id
  word : ∀ x, Pts S s.ws.length x → WordR (Node s.ws S) s.ws s'.ws id x x
  num : s'.h = { s.h with top := s.h.top - n }
  ext : ∀ a : Nat, S.getD a 0 ≠ 0 → S'.getD a 0 = S.getD a 0
  new : S'.getD s'.h.top.toNat 0 = n
  inn : InS s'.h s'.h.top.toNat

set_option maxHeartbeats 1000000 in
theorem dyn_put {c : Prop} {S : List Int} {s : CN} {fs : List Int} {kind : Int} (d : Dyn c S s.ws s.h) (hk : fieldsZ kind = fs.length) (hn : fs.length = 2 ∨ fs.length = 5) (h0 : 0 ≤ kind) (h15 : kind < 15) (hr : ¬ s.h.top - s.h.bottom < (1 + fs.length : Nat)) (hl : ∀ i, i < fs.length → Led S s.h s.ws.length False (fs.getD i 0)) :
    ∃ S', PutT c S s (1 + fs.length) S' (putZ kind fs s) := by
  obtain ⟨o1, o2, o3, o4, o5, o6, o7, o8, o9, o10, o11, o12, o13⟩ := id d.ord
  obtain ⟨sz1, sz2⟩ := size_made hk hn h0 h15
  obtain ⟨n, hnn⟩ : ∃ n, 1 + fs.length = n := ⟨_, rfl⟩
  obtain ⟨a, ha⟩ := Int.eq_ofNat_of_zero_le (show 0 ≤ s.h.top - (n : Int) by omega)
  have hput : putZ kind fs s = writesRun fs a fs.length (headZ kind n a s) := by
    unfold putZ
    rw [hnn, ha, Int.toNat_natCast]
  have hkeep := writesRun_keeps fs a (headZ kind n a s) fs.length
  have hhl : (headZ kind n a s).ws.length = s.ws.length := by unfold headZ; dsimp only; rw [List.length_set]
  have hg := writesRun_get fs a (headZ kind n a s) fs.length (by rw [hhl]; omega)
  rw [← hput] at hkeep hg
  have hlen : (putZ kind fs s).ws.length = s.ws.length := by rw [hkeep.1, hhl]
  have hh : (putZ kind fs s).h = { s.h with top := s.h.top - n } := by rw [hkeep.2.1]; unfold headZ; dsimp only; rw [ha]
  have hat : ∀ j, (putZ kind fs s).ws.getD j 0 = if j = a then (n : Int) * 16 + kind else if a + 1 ≤ j ∧ j < a + n then fs.getD (j - (a + 1)) 0 else s.ws.getD j 0 := fun j => by
    rw [hg]
    by_cases e : j = a
    · rw [if_neg (by omega), if_pos e]
      unfold headZ
      dsimp only
      rw [getD_set, if_pos ⟨e, by omega⟩]
    · rw [if_neg e]
      by_cases k : a + 1 ≤ j ∧ j < a + n
      · rw [if_pos (by omega), if_pos k]
      · rw [if_neg (by omega), if_neg k]
        unfold headZ
        dsimp only
        rw [getD_set, if_neg (by omega)]
  rw [hnn] at sz1 sz2 hr ⊢
  generalize putZ kind fs s = s' at hlen hh hat ⊢
  obtain ⟨W', H', r', t'⟩ := s'
  dsimp only at hlen hh hat
  subst hh
  have gS : ∀ c : Nat, (S.set a (n : Int)).getD c 0 = if c = a then (n : Int) else S.getD c 0 := fun c => by
    rw [getD_set]
    by_cases e : c = a
    · rw [if_pos ⟨e, by have := d.len; omega⟩, if_pos e]
    · rw [if_neg (by omega), if_neg e]
  have wi : ∀ c : Nat, S.getD c 0 ≠ 0 → (S.getD c 0 = 3 ∨ S.getD c 0 = 6) ∧ ((s.h.to ≤ (c : Int) ∧ (c : Int) + S.getD c 0 ≤ s.h.bottom) ∨ (s.h.top ≤ (c : Int) ∧ (c : Int) + S.getD c 0 ≤ s.h.to + s.h.size) ∨ (s.h.size - s.h.to ≤ (c : Int) ∧ (c : Int) + S.getD c 0 ≤ s.h.size - s.h.to + s.h.size)) := fun c hc => by
    have k := d.ends c hc
    unfold Within at k
    exact ⟨d.three hc, by omega⟩
  have sa : ∀ c : Nat, S.getD c 0 ≠ 0 → c ≠ a := fun c hc e => by
    have := wi c hc
    omega
  have st : ∀ c : Nat, S.getD c 0 ≠ 0 → ∀ i : Nat, (i : Int) < S.getD c 0 → W'.getD (c + i) 0 = s.ws.getD (c + i) 0 := fun c hc i hi => by
    have k1 := wi c hc
    rw [hat, if_neg (by omega), if_neg (by omega)]
  have st0 : ∀ c : Nat, S.getD c 0 ≠ 0 → W'.getD c 0 = s.ws.getD c 0 := fun c hc => st c hc 0 (by have := wi c hc; omega)
  have wa : W'.getD a 0 = (n : Int) * 16 + kind := by rw [hat, if_pos rfl]
  have ext0 : ∀ c : Nat, S.getD c 0 ≠ 0 → (S.set a (n : Int)).getD c 0 = S.getD c 0 := fun c hc => by rw [gS, if_neg (sa c hc)]
  have ext : ∀ c : Nat, S.getD c 0 ≠ 0 → (S.set a (n : Int)).getD c 0 ≠ 0 := fun c hc => by rw [ext0 c hc]; exact hc
  have hnow : ∀ e : Nat, S.getD e 0 ≠ 0 → nowZ W' e = id (nowZ s.ws e) := fun e he => by
    unfold nowZ
    rw [st0 e he]
    by_cases hm2 : s.ws.getD e 0 % 16 = 15
    · rw [if_pos hm2, if_pos hm2, st e he 1 (by have := wi e he; omega)]
      rfl
    · rw [if_neg hm2, if_neg hm2]
      rfl
  have hword : ∀ z, Pts S s.ws.length z → WordR (Node s.ws S) s.ws W' id z z := fun z p => ⟨fun _ => rfl, fun hz => ⟨hz, d.now (p.2 hz).2.2, hnow _ (p.2 hz).2.2⟩⟩
  refine ⟨S.set a (n : Int), ⟨?_, by rw [List.length_set]; dsimp only; rw [hlen]; exact d.len, ?_, ?_, ?_, ?_, ?_, fun hc => ⟨?_, ?_⟩, fun hsb => ⟨?_, ?_⟩, ?_, ?_, ?_⟩, hlen, ⟨fun b hb => st0 b hb.here, ?_, fun _ _ _ _ e => e⟩, hword, rfl, ext0, ?_, by unfold InS; dsimp only; omega⟩
  · dsimp only
    rw [hlen]
    refine ⟨o1, o2, o3, o4, o5, o6, o7, o8, ?_, ?_, o11, o12, o13⟩ <;> dsimp only <;> omega
  · intro b hb
    rw [gS] at hb ⊢
    dsimp only
    by_cases e : b = a
    · rw [if_pos e, e, wa, sz1]
    · rw [if_neg e] at hb ⊢
      rw [st0 b hb]
      exact d.size b hb
  · intro b hb
    rw [gS] at hb ⊢
    unfold Within
    dsimp only
    by_cases e : b = a
    · rw [if_pos e]
      right
      left
      omega
    · rw [if_neg e] at hb ⊢
      have k := d.ends b hb
      unfold Within at k
      rcases k with k | k | k
      · exact Or.inl k
      · exact Or.inr (Or.inl ⟨by omega, k.2⟩)
      · exact Or.inr (Or.inr k)
  · intro b e hbe hb he
    rw [gS] at hb he ⊢
    by_cases hba : b = a
    · rw [if_neg (by omega)] at he
      rw [if_pos hba]
      have := wi e he
      omega
    · rw [if_neg hba] at hb ⊢
      by_cases hea : e = a
      · have := wi b hb
        omega
      · rw [if_neg hea] at he
        exact d.apart b e hbe hb he
  · exact d.rowA.keep (fun j j1 j2 => by rw [gS, if_neg (by omega)])
  · dsimp only
    rw [ha, Int.toNat_natCast]
    refine LayRow.cons n (by omega) (by rw [gS, if_pos rfl]) ?_
    rw [show a + n = s.h.top.toNat by omega]
    exact d.rowB.keep (fun j j1 j2 => by rw [gS, if_neg (by omega)])
  · exact (d.rowC hc).1.keep (fun j j1 j2 => by rw [gS, if_neg (by omega)])
  · exact (d.rowC hc).2.keep (fun j j1 j2 => by rw [gS, if_neg (by omega)])
  · exact ext _ (d.scan hsb).1
  · exact (d.scan hsb).2
  · intro b hb hi
    rw [gS] at hb
    dsimp only
    by_cases e : b = a
    · rw [e, wa]
      exact sz2
    · rw [if_neg e] at hb
      rw [st0 b hb]
      exact d.unm b hb hi
  · intro b hb hm
    rw [gS] at hb
    dsimp only at hm ⊢
    by_cases e : b = a
    · rw [e, wa] at hm
      exact absurd hm sz2
    · rw [if_neg e] at hb
      rw [st0 b hb] at hm
      rw [st b hb 1 (by have := wi b hb; omega)]
      obtain ⟨f1, f2, f3, f4⟩ := d.fwd b hb hm
      exact ⟨f1, f2, f3, by rw [ext0 _ (by rw [f4]; exact hb), ext0 b hb]; exact f4⟩
  · intro b hb hm i h1 h2
    rw [gS] at hb h2
    dsimp only at hm ⊢
    rw [hlen]
    by_cases e : b = a
    · rw [if_pos e] at h2
      rw [e, hat, if_neg (by omega), if_pos (by omega), show a + i - (a + 1) = i - 1 by omega]
      exact (hl (i - 1) (by omega)).mono ext (fun _ k => k.imp id (fun k => k.elim))
    · rw [if_neg e] at hb h2
      rw [st0 b hb] at hm
      rw [st b hb i h2]
      exact (d.flds b hb hm i h1 h2).mono ext (fun _ k => k)
  · intro b hb i h1 h2
    have e := d.head hb.here
    rw [id]
    dsimp only
    rw [st b hb.here i (by omega)]
    exact hword _ (d.flds b hb.here hb.kind i h1 (by omega)).pts
  · dsimp only
    rw [ha, Int.toNat_natCast, gS, if_pos rfl]
end Go.Proofs.Ytebpgglegnljgaa

namespace Go.Proofs.Ytebpgglegnljgaa
open Go.RowKit

noncomputable def objsBody : Code := ((Try.f30.body.bind implLoopOf).getD .skip)

theorem iobjs_true {ws S : List Int} {h : HpN} {N : Nat} (H : ∀ k, k < N → S.getD k 0 = 0 ∨ implAt ws S h k = true) : implObjs ws S h N = true := by
  unfold implObjs
  rw [List.all_eq_true]
  intro k hk
  rcases H k (List.mem_range.1 hk) with e | e
  · rw [e]
    rfl
  · simp [e]

theorem iobjs_false {ws S : List Int} {h : HpN} {N a : Nat} (ha : a < N) (h0 : S.getD a 0 ≠ 0) (hf : implAt ws S h a = false) : implObjs ws S h N = false := by
  unfold implObjs
  rw [List.all_eq_false]
  exact ⟨a, List.mem_range.2 ha, by simp [hf]; simpa using h0⟩

theorem LSt.ist {w W : World} {b off bR bL gb N : Nat} {ws : List Int} {v : Value} {h : HpN} {S : List Int} (s : LSt w b off bR bL gb N ws v h S W) : ISt b off gb N ws S W :=
  ⟨s.wlen, s.len, s.blt, s.words, s.row.lt, fun k hk => by rw [Nat.zero_add]; exact s.row.cell hk⟩

set_option maxHeartbeats 4000000 in
set_option maxRecDepth 1000000 in
theorem objsLoop (b off cap gb bR bL N : Nat) (ws S : List Int) (h : HpN) (w W : World) (ho : Ordered h N) (hcap : N ≤ cap) (hS : Noted ws S) (hB : LSt w b off bR bL gb N ws (.slice (some ⟨b, off, none⟩) N cap) h S W)
    (Q0 : Exit → Act → World → Prop) (c0 c1 c5 c6 c7 c8 c9 c10 c11 c12 c13 c14 c15 c16 c17 c18 c19 c20 c21 c22 c23 c24 c25 c26 c27 c28 c29 c30 c31 c32 c33 c34 c35 c36 c37 c38 c39 c40 c41 c42 c43 c44 c45 c46 c47 c48 c49 c50 c51 c52 c53 c54 c55 c56 c57 c58 c59 c60 c61 c62 c63 c64 c65 c66 c67 c68 c69 c70 c71 c72 c73 c77 c78 c79 c80 c81 c82 c83 c84 c85 c86 c87 c88 c89 c90 c91 : Value)
    (hret : ∀ (tmps : Array Value) (w' : World), tmps.getD 2 undef = .pointer (some ⟨bR, 0, none⟩) → tmps.getD 3 undef = .bool false → LayBlk w' bR (.slice none 0 0) ⟨0, 0, 0, 0, 0, 0, 0, 0, 0⟩ (.slice none 0 0) → implObjs ws S h N = false → Below w.heap.size w w' → Q0 .ret ⟨tmps, []⟩ w')
    (hexit : ∀ (d3 d5 d6 d76 d77 d78 d79 d80 d81 d82 d83 d84 d85 d86 d87 d88 d89 d90 : Value) (w' : World), implObjs ws S h N = true → LSt w b off bR bL gb N ws (.slice (some ⟨b, off, none⟩) N cap) h S w' → Q0 (.exit 0) ⟨(List.toArray (c0 :: c1 :: .pointer (some ⟨bR, 0, none⟩) :: d3 :: .pointer (some ⟨bL, 0, none⟩) :: d5 :: d6 :: c7 :: c8 :: c9 :: c10 :: c11 :: c12 :: c13 :: c14 :: c15 :: c16 :: c17 :: c18 :: c19 :: c20 :: c21 :: c22 :: c23 :: c24 :: c25 :: c26 :: c27 :: c28 :: c29 :: c30 :: c31 :: c32 :: c33 :: c34 :: c35 :: c36 :: c37 :: c38 :: c39 :: c40 :: c41 :: c42 :: c43 :: c44 :: c45 :: c46 :: c47 :: c48 :: c49 :: c50 :: c51 :: c52 :: c53 :: c54 :: c55 :: c56 :: c57 :: c58 :: c59 :: c60 :: c61 :: c62 :: c63 :: c64 :: c65 :: c66 :: c67 :: c68 :: c69 :: c70 :: c71 :: c72 :: c73 :: .slice (some ⟨gb, 0, none⟩) N N :: .int .i64 (N : Int) :: d76 :: d77 :: d78 :: d79 :: d80 :: d81 :: d82 :: d83 :: d84 :: d85 :: d86 :: d87 :: d88 :: d89 :: d90 :: c91 :: [])), []⟩ w')
    : Code.wp Try.prog (Code.loop objsBody) Q0 ⟨(List.toArray (c0 :: c1 :: .pointer (some ⟨bR, 0, none⟩) :: .bool false :: .pointer (some ⟨bL, 0, none⟩) :: c5 :: c6 :: c7 :: c8 :: c9 :: c10 :: c11 :: c12 :: c13 :: c14 :: c15 :: c16 :: c17 :: c18 :: c19 :: c20 :: c21 :: c22 :: c23 :: c24 :: c25 :: c26 :: c27 :: c28 :: c29 :: c30 :: c31 :: c32 :: c33 :: c34 :: c35 :: c36 :: c37 :: c38 :: c39 :: c40 :: c41 :: c42 :: c43 :: c44 :: c45 :: c46 :: c47 :: c48 :: c49 :: c50 :: c51 :: c52 :: c53 :: c54 :: c55 :: c56 :: c57 :: c58 :: c59 :: c60 :: c61 :: c62 :: c63 :: c64 :: c65 :: c66 :: c67 :: c68 :: c69 :: c70 :: c71 :: c72 :: c73 :: .slice (some ⟨gb, 0, none⟩) N N :: .int .i64 (N : Int) :: .int .i64 0 :: c77 :: c78 :: c79 :: c80 :: c81 :: c82 :: c83 :: c84 :: c85 :: c86 :: c87 :: c88 :: c89 :: c90 :: c91 :: [])), []⟩ W := by
  have HOb := hid (fun (w' : World) (a : Nat) (s' : ISt b off gb N ws S w') (ha : S.getD a 0 ≠ 0) => objectOk_calls b off cap gb N N a ws S h w' ho hcap hS s' ha)
  have HB0 := hid hB
  have HRet := hid hret
  have HExit := hid hexit
  have HNo := hid hS
  have hN8 : N ≤ 8000 := by obtain ⟨o1, o2, o3, _⟩ := ho; omega
  have HN8 := hid hN8
  clear ho hcap hS hB hret hexit hN8
  obtain ⟨g1, g2, g3, g4, g5, g6, g7, g8, g9⟩ := h
  unfold layV at HOb
  dsimp only at *
  conv => arg 2; arg 1; whnf
  go_loopw [76] (fun i wr => ∃ a : Nat, i = .int .i64 a ∧ Hid (LSt w b off bR bL gb N ws (.slice (some ⟨b, off, none⟩) N cap) ⟨g1, g2, g3, g4, g5, g6, g7, g8, g9⟩ S wr ∧ a ≤ N ∧ ∀ k, k < a → S.getD k 0 = 0 ∨ implAt ws S ⟨g1, g2, g3, g4, g5, g6, g7, g8, g9⟩ k = true)) (fun i _ => N - (intOf i).toNat)
  case atStart => exact ⟨0, rfl, HB0.out, Nat.zero_le _, fun k hk => absurd hk (by omega)⟩
  case round =>
    obtain ⟨a, rfl, HI⟩ := hrel
    clear HB0
    by_cases hlt : (a : Int) < (N : Int)
    · have HWA := hid (show wrap64 ((a : Int) + 1) = ((a + 1 : Nat) : Int) from wrap_inc (n := N) (by omega) (by have := HN8.out; omega))
      have q0 := HI.out.1.row.cell (i := a) (by omega)
      unfold intCells at q0
      have hs : Hid (N - (intOf (.int .i64 ((a + 1 : Nat) : Int))).toNat < N - (intOf (.int .i64 (a : Int))).toNat) := by simp only [intOf, Int.toNat_natCast]; show _ < _; omega
      by_cases hS0 : S.getD a 0 = 0
      · rw [hS0] at q0
        go_wp2_with fail
        rw [HWA.out]
        exact ⟨⟨a + 1, rfl, HI.out.1, by omega, fun k hk => by
          by_cases hka : k < a
          · exact HI.out.2.2 k hka
          · rw [show k = a by omega]
            exact Or.inl hS0⟩, hs.out⟩
      · have hpos : 0 < S.getD a 0 := by
          have e1 := HNo.out.2 a hS0
          have e2 := size_three (ws.getD a 0)
          omega
        have HSn : Hid (S.getD a 0 ≠ 0) := hS0
        have HOa := hid (HOb.out wr a HI.out.1.ist hS0)
        obtain ⟨l0, l1, l2, l3, l4, l5, l6, l7, l8, l9, l10⟩ := HI.out.1.blk.cells
        dsimp only at l0 l1 l2 l3 l4 l5 l6 l7 l8 l9 l10
        generalize hq : S.getD a 0 = q at q0 hpos
        clear hq
        generalize hP : implAt ws S ⟨g1, g2, g3, g4, g5, g6, g7, g8, g9⟩ a = p at *
        have HP := hid hP
        clear hS0 hP HOb
        go_wp2_with fail
        refine HOa.out.mono ?_
        rintro e W5 ⟨rfl, hb5⟩
        have HL5 := hid (HI.out.1.keep hb5)
        clear hb5 HOa l0 l1 l2 l3 l4 l5 l6 l7 l8 l9 l10 q0
        cases p
        · obtain ⟨z0, z1, z2, z3, z4, z5, z6, z7, z8, z9, z10⟩ := LayBlk.cells (h := ⟨0, 0, 0, 0, 0, 0, 0, 0, 0⟩) HL5.out.res
          dsimp only at z0 z1 z2 z3 z4 z5 z6 z7 z8 z9 z10
          have f0 := frozen_of_heap HL5.out.res 0
          have f1 := frozen_of_heap HL5.out.res 1
          have f2 := frozen_of_heap HL5.out.res 2
          have f3 := frozen_of_heap HL5.out.res 3
          have f4 := frozen_of_heap HL5.out.res 4
          have f5 := frozen_of_heap HL5.out.res 5
          have f6 := frozen_of_heap HL5.out.res 6
          have f7 := frozen_of_heap HL5.out.res 7
          have f8 := frozen_of_heap HL5.out.res 8
          have f9 := frozen_of_heap HL5.out.res 9
          have f10 := frozen_of_heap HL5.out.res 10
          go_wp2_with fail
          refine lay_use HL5.out.res (.slice none 0 0) ⟨0, 0, 0, 0, 0, 0, 0, 0, 0⟩ (.slice none 0 0) _ ?_
          intro W9 hL9 hb9 _ _
          exact HRet.out _ W9 rfl rfl hL9 (iobjs_false (by omega) HSn.out HP.out) (HL5.out.below.trans (hb9 _ HL5.out.lowR))
        · go_wp2_with fail
          rw [HWA.out]
          exact ⟨⟨a + 1, rfl, HL5.out, by omega, fun k hk => by
            by_cases hka : k < a
            · exact HI.out.2.2 k hka
            · rw [show k = a by omega]
              exact Or.inr HP.out⟩, hs.out⟩
    · go_wp2_with fail
      exact HExit.out _ _ _ _ _ _ _ _ _ _ _ _ _ _ _ _ _ _ wr (iobjs_true (fun k hk => HI.out.2.2 k (by omega))) HI.out.1
end Go.Proofs.Ytebpgglegnljgaa
