/- The program looks through objects. -/
import Derived.Test.YtebpgglegnljgaaScanRun
namespace Go.Proofs.Ytebpgglegnljgaa
open Go.RowKit

theorem Col.scanned {w0 W : World} {bc bw N cap : Nat} {ws : List Int} {h : HpN} {r t : Int} (c : Col w0 bc bw N cap ws h r t W) (x : Int) : Col w0 bc bw N cap ws { h with scan := x } r t (W.setCell ⟨bc, 5, none⟩ (.int .i64 x)) :=
  ⟨by simpa [ColBlk] using set_block c.blk 5 (.int .i64 x), c.row.of_block (Below.heap_setCell _ _ _ _ (fun e => c.ne e.symm)), c.len, c.ne, c.frame.set (Or.inl rfl) _⟩

/-- The collector is in this state. -/
def ColAt (w0 : World) (bc bw N cap : Nat) (s : CN) (W : World) : Prop := Col w0 bc bw N cap s.ws s.h s.r s.t W

/-- What looking through comes to. -/
def LookPost (w0 : World) (bc bw N cap : Nat) (o : Option CN) (e : Ending) (w' : World) : Prop :=
  match o with
  | some s => e = .returned (.bool true) ∧ ColAt w0 bc bw N cap s w'
  | none => e = .returned (.bool false) ∧ ∃ s, ColAt w0 bc bw N cap s w'

theorem fieldsRun_none {p : Nat} {s : CN} {k : Nat} (h : fieldsRun p k s = none) : ∀ j, fieldsRun p (k + j) s = none
  | 0 => h
  | j + 1 => by
    rw [← Nat.add_assoc]
    unfold fieldsRun
    rw [fieldsRun_none h j]

theorem fieldsRun_more {p : Nat} {s s' s'' : CN} {k : Nat} {y : Int} (h : fieldsRun p k s = some s') (he : fieldZ s' (p + (k + 1)) = (some y, s'')) : fieldsRun p (k + 1) s = some s'' := by
  unfold fieldsRun
  rw [h]
  dsimp only
  rw [he]

theorem fieldsRun_stop {p : Nat} {s s' s'' : CN} {k : Nat} (h : fieldsRun p k s = some s') (he : fieldZ s' (p + (k + 1)) = (none, s'')) : fieldsRun p (k + 1) s = none := by
  unfold fieldsRun
  rw [h]
  dsimp only
  rw [he]

theorem scanRun_more {s s' : CN} {k p n : Nat} (h : scanRun k s = some s') (hp : s'.h.scan = p) (hn : s'.ws.getD p 0 / 16 = n) (hb : s'.h.scan ≠ s'.h.bottom) : scanRun (k + 1) s = match fieldsRun p (n - 1) { s' with r := s'.r + 1 } with
    | none => none
    | some s2 => some { s2 with h := { s2.h with scan := (p : Int) + n } } := by
  unfold scanRun
  rw [h]
  dsimp only
  unfold scanOne
  rw [if_neg hb, show s'.h.scan.toNat = p by omega, hn, hp, Int.toNat_natCast]
  rfl

set_option maxHeartbeats 4000000 in
set_option maxRecDepth 100000 in
theorem look_calls {w0 W : World} {bc bw N cap : Nat} {S : List Int} (s : CN) (c : ColAt w0 bc bw N cap s W) (hs : Scn S N s) (m : Nat) (hm : m ≤ 4000) :
    Calls Try.prog 50 #[.pointer (some ⟨bc, 0, none⟩), .int .i64 (m : Int)] W (LookPost w0 bc bw N cap (scanRun m s)) := by
  have HC := hid c
  have HS := hid hs
  obtain ⟨R, hR⟩ : ∃ R, scanRun m s = R := ⟨_, rfl⟩
  rw [hR]
  have HR := hid hR
  clear c hs hR
  go_enter Try.func50, Try.ntmps50
  go_wp2_with fail
  go_loopw [1] (fun o wr => ∃ (j : Int) (k : Nat) (s' : CN), o = .int .i64 j ∧ Hid (0 ≤ j ∧ (k : Int) + j = m) ∧ Hid (scanRun k s = some s') ∧ Hid (ColAt w0 bc bw N cap s' wr)) (fun o _ => (intOf o).toNat)
  case atStart => exact ⟨m, 0, s, rfl, ⟨by omega, by omega⟩, rfl, HC.out⟩
  case round =>
    obtain ⟨j, k, s', rfl, HJ, HK, HI⟩ := hrel
    clear HC
    have HSc := hid (scanRun_scn HS.out k s' HK.out)
    have c5 := HI.out.blk.cells.2.2.2.2.2.1
    have c3 := HI.out.blk.cells.2.2.2.1
    have hfin : ∀ (hx : s'.h.scan = s'.h.bottom ∨ j = 0), Hid (R = some s') := fun hx => by
      rcases hx with hx | hx
      · have := scanRun_end HK.out hx j.toNat
        rw [show k + j.toNat = m by have := HJ.out; omega, HR.out] at this
        exact this
      · have h1 : k = m := by have := HJ.out; omega
        have := HK.out
        rw [h1, HR.out] at this
        exact this
    rename World => wo
    by_cases hj : 0 < j
    case neg =>
      have HF := hfin (Or.inr (by have := HJ.out; omega))
      have hd : decide (0 < j) = false := decide_eq_false hj
      clear hfin hj
      go_wp2_with fail
      go_quiet (fail)
      go_wp2_with fail
      go_ret
      rw [HF.out]
      exact ⟨rfl, HI.out.keep (below_drewN (Below.refl _ _) _)⟩
    case pos =>
    have hd : decide (0 < j) = true := decide_eq_true hj
    by_cases hb : s'.h.scan < s'.h.bottom
    case neg =>
      have HF := hfin (Or.inl (by
        have h1 := HSc.out.row.le
        have h2 := HSc.out.sc0
        have h3 := HSc.out.nums.to
        have h4 := HSc.out.nums.s0
        have h5 := HSc.out.nums.b0
        omega))
      clear hfin hj
      go_wp2_with fail
      go_quiet (fail)
      go_wp2_with fail
      go_ret
      rw [HF.out]
      exact ⟨rfl, HI.out.keep (below_drewN (Below.refl _ _) _)⟩
    case pos =>
    clear hfin
    obtain ⟨p, n, hp, hn, hin⟩ := HSc.out.enter (by omega)
    have HIn := hid hin
    have hn3 := hin.hn
    have hpN : p < N := by have := hin.asks (by omega); omega
    have hr0 := HSc.out.r0
    have hr1 : s'.r ≤ 60000 := by have := (hin.asks (by omega)); have := this.2.2.2.2.2.2.2.2.1; dsimp only at this; omega
    have HMo := hid (scanRun_more HK.out hp hn (by omega))
    have HRd := hid (fun nq => read_calls (HI.out.keep (below_drewN (Below.refl _ _) nq)) (i := p) hpN hr0 (by omega))
    rw [hp] at c5
    have c5' : ∀ nq, (wo.drewN nq).cell? ⟨bc, 5, none⟩ = some (.int .i64 (p : Int)) := fun nq => c5
    rw [hp] at hb
    clear hin
    have HPn := hid hn
    have HPp := hid hp
    clear hn hp
    go_wp2_with fail
    go_quiet (fail)
    have HRd' := hid (HRd.out nq)
    have c5n := c5' nq
    clear HRd c5 c5' c3
    generalize wo.drewN nq = W2 at *
    generalize hF : s'.ws.getD p 0 = F at *
    have HPn' : F / 16 = (n : Int) := HPn.out
    go_wp2_with fail
    refine HRd'.out.mono ?_
    rintro e W3 ⟨rfl, hC3⟩
    have HC3 : Hid (ColAt w0 bc bw N cap { s' with r := s'.r + 1 } W3) := hC3
    clear hC3 HRd' HI
    clear c5n hr0 hr1
    go_wp2_with fail
    go_loopw [6] (fun i wr => ∃ (ii : Int) (q : Nat) (s2 : CN), i = .int .i64 ii ∧ Hid (ii = (q : Int) + 1 ∧ q + 1 ≤ n) ∧ Hid (fieldsRun p q { s' with r := s'.r + 1 } = some s2) ∧ Hid (ColAt w0 bc bw N cap s2 wr)) (fun i _ => n - (intOf i).toNat)
    case atStart => exact ⟨1, 0, _, rfl, ⟨rfl, by omega⟩, rfl, HC3.out⟩
    case round =>
      obtain ⟨ii, q, s2, rfl, HQ, HK2, HI2⟩ := hrel
      clear HC3
      have HIq := hid (fieldsRun_inn HIn.out q (by have := HQ.out; omega) s2 HK2.out)
      have c5 := HI2.out.blk.cells.2.2.2.2.2.1
      rw [HIq.out.sc] at c5
      have h1n : 1 ≤ ii := by have := HQ.out; omega
      by_cases hlt : ii < (n : Int)
      · have hq1 : q + 1 < n := by have := HQ.out; omega
        obtain ⟨k1, k2, k3, k4, k5, k6, k7, k8, k9, k10, k11, k12⟩ := HIq.out.asks hq1
        have HFd := hid (field_calls s2 HI2.out (p + (q + 1)) k1 k2 k3 k4 k5 k6 k7 k8 HIq.out.r0 k9 HIq.out.t0 k10 k11)
        rw [show ((p + (q + 1) : Nat) : Int) = (p : Int) + ii by have := HQ.out; omega] at HFd
        obtain ⟨o, s3, hz⟩ : ∃ o s3, fieldZ s2 (p + (q + 1)) = (o, s3) := ⟨_, _, rfl⟩
        rw [hz] at HFd
        have HZ := hid hz
        have hpb : (p : Int) ≤ 8000 := by omega
        clear k1 k2 k3 k4 k5 k6 k7 k9 k10 k11 k12 hz HI2
        cases o with
        | some y =>
          dsimp only [moveV] at HFd
          go_wp2_with fail
          refine HFd.out.mono ?_
          rintro e W4 ⟨rfl, hC4⟩
          have HC4 : Hid (ColAt w0 bc bw N cap s3 W4) := hC4
          clear hC4 HFd c5
          go_wp2_with fail
          have hs : n - (intOf (.int .i64 (ii + 1))).toNat < n - (intOf (.int .i64 ii)).toNat := by simp only [intOf]; have := HQ.out; omega
          exact ⟨⟨ii + 1, q + 1, s3, rfl, ⟨by have := HQ.out; push_cast; omega, by omega⟩, fieldsRun_more HK2.out HZ.out, HC4.out⟩, hs⟩
        | none =>
          dsimp only [moveV] at HFd
          have HF : Hid (R = none) := by
            have h1 := fieldsRun_none (fieldsRun_stop HK2.out HZ.out) (n - 1 - (q + 1))
            rw [show q + 1 + (n - 1 - (q + 1)) = n - 1 by omega] at h1
            have h2 := HMo.out
            rw [h1] at h2
            have h3 := scanRun_none h2 (m - (k + 1))
            rw [show k + 1 + (m - (k + 1)) = m by have := HJ.out; omega, HR.out] at h3
            exact h3
          go_wp2_with fail
          refine HFd.out.mono ?_
          rintro e W4 ⟨rfl, hC4⟩
          have HC4 : Hid (ColAt w0 bc bw N cap s3 W4) := hC4
          clear hC4 HFd c5
          go_wp2_with fail
          go_ret
          rw [HF.out]
          exact ⟨rfl, s3, HC4.out⟩
      · have hqn : q = n - 1 := by have := HQ.out; omega
        have f5 := frozen_of_heap HI2.out.blk 5
        have hpb : (p : Int) + n ≤ 8000 := by
          have h1 := HIq.out.pn
          have h2 := HIq.out.nums.bt
          have h3 := HIq.out.nums.te
          have h4 := HIq.out.nums.to
          have h5 := HIq.out.nums.s1
          omega
        have HF : Hid (scanRun (k + 1) s = some { s2 with h := { s2.h with scan := (p : Int) + n } }) := by
          have h2 := HMo.out
          have h1 := HK2.out
          rw [hqn] at h1
          rw [h1] at h2
          exact h2
        have HC4 := hid (Col.scanned HI2.out ((p : Int) + n))
        clear HI2 HIq hqn
        go_wp2_with fail
        have hs : (intOf (.int .i64 (j - 1))).toNat < (intOf (.int .i64 j)).toNat := by simp only [intOf]; omega
        have hw : wrap64 (j - 1) = j - 1 := by have := HJ.out; unfold wrap64; omega
        rw [hw]
        exact ⟨⟨j - 1, k + 1, _, rfl, ⟨by have := HJ.out; omega, by have := HJ.out; push_cast; omega⟩, HF.out, HC4.out⟩, hs⟩
end Go.Proofs.Ytebpgglegnljgaa
