/- The specification looks through an object. -/
import Derived.Test.YtebpgglegnljgaaImplScan
import Derived.Test.YtebpgglegnljgaaSpecWkBD
namespace Go.Proofs.Ytebpgglegnljgaa
open Go.RowKit

/-- What looking through an object comes to. -/
def ScanPost (w0 : World) (bm bw N cap : Nat) (o : Option CN) (e : Ending) (w' : World) : Prop :=
  e = .returned (.tuple #[]) ∧ match o with
  | some s => Wk w0 bm bw N cap s false w'
  | none => ∃ s, Wk w0 bm bw N cap s true w'

set_option maxHeartbeats 4000000 in
set_option maxRecDepth 100000 in
theorem sscan_full {w0 W : World} {bm bw N cap : Nat} {s : CN} (c : Wk w0 bm bw N cap s true W) :
    Calls Try.prog 56 #[.pointer (some ⟨bm, 0, none⟩)] W fun e w' => e = .returned (.tuple #[]) ∧ Wk w0 bm bw N cap s true w' := by
  have HC := hid c
  obtain ⟨-, -, -, c3, -, c5, -, -, -, -, c10⟩ := c.blk.cells
  clear c
  generalize s.h.scan = sc at *
  generalize s.h.bottom = bt at *
  go_enter Try.func56, Try.ntmps56
  by_cases hb : sc = bt
  · have hbb : (sc == bt) = true := by simpa using hb
    go_wp2_with fail
    go_quiet (fail)
    have HC2 := hid (HC.out.keep (below_drewN (Below.refl _ _) nq))
    generalize W.drewN nq = W2 at *
    go_wp2_with fail
    exact bodyPost_ret (v := .tuple #[]) (by simp [results, Try.results56, go_sem]) rfl ⟨rfl, HC2.out⟩
  · have hbb : (sc == bt) = false := by simpa using hb
    go_wp2_with fail
    go_quiet (fail)
    have HC2 := hid (HC.out.keep (below_drewN (Below.refl _ _) nq))
    generalize W.drewN nq = W2 at *
    go_wp2_with fail
    exact bodyPost_ret (v := .tuple #[]) (by simp [results, Try.results56, go_sem]) rfl ⟨rfl, HC2.out⟩

theorem fieldZ_stays {s : CN} {q : Nat} (h : lateZ s.h (s.ws.getD q 0) = false) : fieldZ s q = (some (s.ws.getD q 0), { s with r := s.r + 1 }) := by
  unfold fieldZ
  rw [if_pos h]

theorem fieldZ_some {s s2 : CN} {q : Nat} {y : Int} (h : lateZ s.h (s.ws.getD q 0) = true) (hm : moveZ { s with r := s.r + 1 } (s.ws.getD q 0) = (some y, s2)) : fieldZ s q = (some y, ⟨s2.ws.set q y, s2.h, s2.r, s2.t + 1⟩) := by
  unfold fieldZ
  rw [if_neg (by rw [h]; decide), hm]

theorem fieldZ_none {s s2 : CN} {q : Nat} (h : lateZ s.h (s.ws.getD q 0) = true) (hm : moveZ { s with r := s.r + 1 } (s.ws.getD q 0) = (none, s2)) : fieldZ s q = (none, s2) := by
  unfold fieldZ
  rw [if_neg (by rw [h]; decide), hm]

theorem scanOne_is {s : CN} {p n : Nat} (hp : s.h.scan = p) (hn : s.ws.getD p 0 / 16 = n) (hb : s.h.scan ≠ s.h.bottom) : scanOne s = match fieldsRun p (n - 1) { s with r := s.r + 1 } with
    | none => none
    | some s2 => some { s2 with h := { s2.h with scan := (p : Int) + n } } := by
  unfold scanOne
  rw [if_neg hb, show s.h.scan.toNat = p by omega, hn, hp, Int.toNat_natCast]
  rfl

set_option maxHeartbeats 4000000 in
set_option maxRecDepth 100000 in
theorem sscan_calls {w0 W : World} {bm bw N cap : Nat} {S : List Int} {s : CN} (c : Wk w0 bm bw N cap s false W) (hs : Scn S N s) :
    Calls Try.prog 56 #[.pointer (some ⟨bm, 0, none⟩)] W (ScanPost w0 bm bw N cap (scanOne s)) := by
  have HC := hid c
  have HS := hid hs
  obtain ⟨-, -, -, c3, -, c5, -, -, -, -, c10⟩ := c.blk.cells
  clear c hs
  obtain ⟨R, hR⟩ : ∃ R, scanOne s = R := ⟨_, rfl⟩
  rw [hR]
  have HR := hid hR
  clear hR
  by_cases hb : s.h.scan = s.h.bottom
  · have HF : Hid (R = some s) := by
      have := HR.out
      unfold scanOne at this
      rw [if_pos hb] at this
      exact this.symm
    generalize s.h.scan = sc at *
    generalize s.h.bottom = bt at *
    have hbb : (sc == bt) = true := by simpa using hb
    go_enter Try.func56, Try.ntmps56
    go_wp2_with fail
    go_quiet (fail)
    have HC2 := hid (HC.out.keep (below_drewN (Below.refl _ _) nq))
    generalize W.drewN nq = W2 at *
    go_wp2_with fail
    exact bodyPost_ret (v := .tuple #[]) (by simp [results, Try.results56, go_sem]) rfl (by rw [HF.out]; exact ⟨rfl, HC2.out⟩)
  obtain ⟨p, n, hp, hn, hin⟩ := HS.out.enter hb
  have HIn := hid hin
  have hn3 := hin.hn
  have hpN : p < N := by have := hin.asks (by omega); omega
  have hN8 : N ≤ 8000 := by have := hin.asks (by omega); exact this.2.2.2.2.2.2.2.1
  have HMo := hid ((scanOne_is hp hn hb).symm.trans HR.out)
  have HRd := hid (fun nq => sread_calls (HC.out.keep (below_drewN (Below.refl _ _) nq)) (i := p) hpN)
  rw [hp] at c5 hb
  generalize s.h.bottom = bt at *
  have hbb : ((p : Int) == bt) = false := by simpa using hb
  have c5' : ∀ nq, (W.drewN nq).cell? ⟨bm, 5, none⟩ = some (.int .i64 (p : Int)) := fun nq => c5
  have HPn := hid hn
  clear hin hn hp HC HS HR
  go_enter Try.func56, Try.ntmps56
  go_wp2_with fail
  go_quiet (fail)
  have HRd' := hid (HRd.out nq)
  have c5n := c5' nq
  clear HRd c5 c5' c3 c10
  generalize W.drewN nq = W2 at *
  generalize hF : s.ws.getD p 0 = F at *
  have HPn' : F / 16 = (n : Int) := HPn.out
  go_wp2_with fail
  refine HRd'.out.mono ?_
  rintro e W3 ⟨rfl, hC3⟩
  have HC3 := hid hC3
  clear hC3 HRd' c5n
  go_wp2_with fail
  go_loopw [4] (fun i wr => ∃ (ii : Int) (q : Nat), i = .int .i64 ii ∧ Hid (1 ≤ ii ∧ ii ≤ n) ∧ ((∃ s2, Hid (ii = (q : Int) + 1) ∧ Hid (fieldsRun p q { s with r := s.r + 1 } = some s2) ∧ Hid (Wk w0 bm bw N cap s2 false wr)) ∨ (Hid (fieldsRun p (n - 1) { s with r := s.r + 1 } = none) ∧ ∃ s2, Hid (Wk w0 bm bw N cap s2 true wr)))) (fun i _ => n - (intOf i).toNat)
  case atStart => exact ⟨1, 0, rfl, ⟨by omega, by omega⟩, Or.inl ⟨_, rfl, rfl, HC3.out⟩⟩
  case round =>
    obtain ⟨ii, q, rfl, HQ, hcase⟩ := hrel
    clear HC3
    rcases hcase with ⟨s2, HQ2, HK2, HI2⟩ | ⟨HN, s2, HI2⟩
    case inr =>
      have c10 := HI2.out.blk.cells.2.2.2.2.2.2.2.2.2.2
      have HF : Hid (R = none) := by
        have h2 := HMo.out
        rw [HN.out] at h2
        exact h2.symm
      by_cases hlt : ii < (n : Int)
      · have hd : decide (ii < (n : Int)) = true := decide_eq_true hlt
        go_wp2_with fail
        go_end0
        rw [HF.out]
        exact ⟨rfl, s2, HI2.out⟩
      · have hd : decide (ii < (n : Int)) = false := decide_eq_false hlt
        go_wp2_with fail
        go_end0
        rw [HF.out]
        exact ⟨rfl, s2, HI2.out⟩
    case inl =>
      have HIq := hid (fieldsRun_inn HIn.out q (by have := HQ.out; have := HQ2.out; omega) s2 HK2.out)
      have c10 := HI2.out.blk.cells.2.2.2.2.2.2.2.2.2.2
      by_cases hlt : ii < (n : Int)
      · have hd : decide (ii < (n : Int)) = true := decide_eq_true hlt
        have hq1 : q + 1 < n := by have := HQ2.out; omega
        obtain ⟨k1, k2, k3, k4, k5, k6, k7, k8, k9, k10, k11, k12⟩ := HIq.out.asks hq1
        have h1n : 1 ≤ ii := HQ.out.1
        have HRd := hid (sread_calls HI2.out (i := p + (q + 1)) k1)
        rw [show ((p + (q + 1) : Nat) : Int) = (p : Int) + ii by have := HQ2.out; omega] at HRd
        have HHe := hid (fun (X : World) (hX : Wk w0 bm bw N cap ⟨s2.ws, s2.h, s2.r + 1, s2.t⟩ false X) => here_calls hX (s2.ws.getD (p + (q + 1)) 0) k2 (show s2.h.to ≤ 4000 by omega) (show 0 ≤ s2.h.size by omega) k4)
        have HMv := hid (fun (X : World) (hX : Wk w0 bm bw N cap ⟨s2.ws, s2.h, s2.r + 1, s2.t⟩ false X) => smove_calls hX (s2.ws.getD (p + (q + 1)) 0) k2 k3 k4 k5 k6 k7 k8 k11 k12)
        dsimp only at HHe
        have hpb : (p : Int) ≤ 8000 := by omega
        cases ho : lateZ s2.h (s2.ws.getD (p + (q + 1)) 0) with
        | false =>
          rw [here_not k12 ho] at HHe
          have HZ := hid (fieldZ_stays ho)
          clear k1 k2 k3 k4 k5 k6 k7 k9 k10 k11 k12 ho HMv
          generalize s2.ws.getD (p + (q + 1)) 0 = x at *
          clear HI2
          go_wp2_with fail
          refine HRd.out.mono ?_
          rintro e W5 ⟨rfl, hC5⟩
          have HC5 := hid hC5
          clear hC5 HRd c10
          go_wp2_with fail
          refine (HHe.out _ HC5.out).mono ?_
          rintro e W6 ⟨rfl, hb6⟩
          have HC6 := hid (HC5.out.keep hb6)
          clear hb6 HC5 HHe
          go_wp2_with fail
          have hs : n - (intOf (.int .i64 (ii + 1))).toNat < n - (intOf (.int .i64 ii)).toNat := by simp only [intOf]; omega
          exact ⟨⟨ii + 1, q + 1, rfl, ⟨by omega, by omega⟩, Or.inl ⟨_, by have := HQ2.out; show _ = _; push_cast; omega, fieldsRun_more HK2.out HZ.out, HC6.out⟩⟩, hs⟩
        | true =>
          rw [here_not k12 ho] at HHe
          obtain ⟨o, s3, hz⟩ : ∃ o s3, moveZ ⟨s2.ws, s2.h, s2.r + 1, s2.t⟩ (s2.ws.getD (p + (q + 1)) 0) = (o, s3) := ⟨_, _, rfl⟩
          rw [hz] at HMv
          have HO := hid ho
          have HZ := hid hz
          have HK1 := hid k1
          clear k1 k2 k3 k4 k5 k6 k7 k9 k10 k11 k12 ho hz
          obtain ⟨x, hx⟩ : ∃ x, s2.ws.getD (p + (q + 1)) 0 = x := ⟨_, rfl⟩
          rw [hx] at HRd HHe HMv
          clear hx
          clear HI2
          go_wp2_with fail
          refine HRd.out.mono ?_
          rintro e W5 ⟨rfl, hC5⟩
          have HC5 := hid hC5
          clear hC5 HRd c10
          go_wp2_with fail
          refine (HHe.out _ HC5.out).mono ?_
          rintro e W6 ⟨rfl, hb6⟩
          have HC6 := hid (HC5.out.keep hb6)
          clear hb6 HC5 HHe
          go_wp2_with fail
          refine (HMv.out _ HC6.out).mono ?_
          rintro e W7 ⟨rfl, hC7⟩
          clear HMv HC6
          cases o with
          | some y =>
            have HWr := hid (swrite_calls (W := W7) hC7 (i := p + (q + 1)) HK1.out y)
            rw [show ((p + (q + 1) : Nat) : Int) = (p : Int) + ii by have := HQ2.out; omega] at HWr
            dsimp only [smoveV]
            clear hC7
            go_wp2_with fail
            refine HWr.out.mono ?_
            rintro e W8 ⟨rfl, hC8⟩
            have HC8 := hid hC8
            clear hC8 HWr
            go_wp2_with fail
            have hs : n - (intOf (.int .i64 (ii + 1))).toNat < n - (intOf (.int .i64 ii)).toNat := by simp only [intOf]; omega
            exact ⟨⟨ii + 1, q + 1, rfl, ⟨by omega, by omega⟩, Or.inl ⟨_, by have := HQ2.out; show _ = _; push_cast; omega, fieldsRun_more HK2.out (fieldZ_some HO.out HZ.out), HC8.out⟩⟩, hs⟩
          | none =>
            have HC7 : Hid (Wk w0 bm bw N cap s3 true W7) := hC7
            have HWr := hid (fun i x => swrite_full HC7.out i x)
            dsimp only [smoveV]
            clear hC7
            go_wp2_with fail
            refine (HWr.out _ _).mono ?_
            rintro e W8 ⟨rfl, rfl⟩
            clear HWr
            go_wp2_with fail
            have hs : n - (intOf (.int .i64 (ii + 1))).toNat < n - (intOf (.int .i64 ii)).toNat := by simp only [intOf]; omega
            have h1 := fieldsRun_none (fieldsRun_stop HK2.out (fieldZ_none HO.out HZ.out)) (n - 1 - (q + 1))
            rw [show q + 1 + (n - 1 - (q + 1)) = n - 1 by omega] at h1
            exact ⟨⟨ii + 1, q + 1, rfl, ⟨by omega, by omega⟩, Or.inr ⟨h1, s3, HC7.out⟩⟩, hs⟩
      · have hd : decide (ii < (n : Int)) = false := decide_eq_false hlt
        have hqn : q = n - 1 := by have := HQ.out; have := HQ2.out; omega
        have HF : Hid (R = some { s2 with h := { s2.h with scan := (p : Int) + n } }) := by
          have h2 := HMo.out
          have h1 := HK2.out
          rw [hqn] at h1
          rw [h1] at h2
          exact h2.symm
        have c5' := HI2.out.blk.cells.2.2.2.2.2.1
        have f5' := frozen_of_heap HI2.out.blk 5
        have HI4 := hid (HI2.out.scanned ((p : Int) + n))
        clear HI2 HIq
        have hpb : (p : Int) + n ≤ 8000 + 6 := by omega
        go_wp2_with fail
        go_end0
        rw [HF.out]
        exact ⟨rfl, HI4.out⟩
end Go.Proofs.Ytebpgglegnljgaa
