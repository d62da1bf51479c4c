/- The specification's read of a field. -/
import Derived.Test.YtebpgglegnljgaaSpecWkC
namespace Go.Proofs.Ytebpgglegnljgaa
open Go.RowKit

set_option maxRecDepth 100000 in
theorem sfield_calls {w0 W : World} {bm bw N cap : Nat} {s : CN} (c : Wk w0 bm bw N cap s false W) (y i : Int) (q : Nat) (hq : q < N) (hqy : y / 8 + 1 + i = q) (hy0 : 0 ≤ y / 8) (hy1 : y / 8 ≤ 8000) (hi0 : 0 ≤ i) (hi1 : i ≤ 8000) (h0 : 0 ≤ s.h.to) (h1 : s.h.to ≤ s.h.size) (h3 : s.h.size ≤ 4000) (hb0 : 0 ≤ s.h.bottom) (hbt : s.h.bottom ≤ s.h.top) (htN : s.h.top ≤ N) (hN : N ≤ 8000)
    (hm : MoveOk s.ws s.h N (s.ws.getD q 0)) (hg : hereZ s.h (s.ws.getD q 0) = !lateZ s.h (s.ws.getD q 0)) :
    Calls Try.prog 55 #[.pointer (some ⟨bm, 0, none⟩), .int .i64 y, .int .i64 i] W fun e w' => (∃ z : Int, e = .returned (.int .i64 z) ∧ ∀ u, (fieldZ s q).1 = some u → z = u) ∧ Wk w0 bm bw N cap (fieldZ s q).2 (fieldZ s q).1.isNone w' := by
  have HNum := hid (fun w => specNum_calls y w)
  unfold numZ at HNum
  have HRd := hid (sread_calls c (i := q) hq)
  have HQ := hid hqy
  generalize y / 8 = k at *
  have HMv := hid (fun (X : World) (hX : Wk w0 bm bw N cap ⟨s.ws, s.h, s.r + 1, s.t⟩ false X) => smove_calls hX (s.ws.getD q 0) h0 h1 h3 hb0 hbt htN hN hm hg)
  have HHe := hid (fun (X : World) (hX : Wk w0 bm bw N cap ⟨s.ws, s.h, s.r + 1, s.t⟩ false X) => here_calls hX (s.ws.getD q 0) h0 (show s.h.to ≤ 4000 by omega) (show 0 ≤ s.h.size by omega) h3)
  rw [← hqy] at HRd
  clear hm c hqy
  unfold fieldZ
  dsimp only at HHe
  cases ho : lateZ s.h (s.ws.getD q 0) with
  | false =>
    rw [here_not hg ho] at HHe
    rw [if_pos rfl]
    clear hg ho HMv
    go_enter Try.func55, Try.ntmps55
    go_wp2_with fail
    refine (HNum.out _).mono ?_
    rintro e W1 ⟨rfl, rfl⟩
    go_wp2_with fail
    refine HRd.out.mono ?_
    rintro e W2 ⟨rfl, hC2⟩
    have HC2 := hid hC2
    clear hC2
    go_wp2_with fail
    refine (HHe.out _ HC2.out).mono ?_
    rintro e W3 ⟨rfl, hb3⟩
    have HC3 := hid (HC2.out.keep hb3)
    clear hb3 HHe HRd
    go_wp2_with fail
    go_ret
    exact ⟨⟨_, rfl, fun u hu => Option.some.inj hu⟩, HC3.out⟩
  | true =>
    rw [here_not hg ho] at HHe
    rw [if_neg (by decide)]
    clear hg ho
    generalize moveZ ⟨s.ws, s.h, s.r + 1, s.t⟩ (s.ws.getD q 0) = m at *
    obtain ⟨o, s2⟩ := m
    go_enter Try.func55, Try.ntmps55
    go_wp2_with fail
    refine (HNum.out _).mono ?_
    rintro e W1 ⟨rfl, rfl⟩
    go_wp2_with fail
    refine HRd.out.mono ?_
    rintro e W2 ⟨rfl, hC2⟩
    have HC2 := hid hC2
    clear hC2
    go_wp2_with fail
    refine (HHe.out _ HC2.out).mono ?_
    rintro e W3 ⟨rfl, hb3⟩
    have HC3 := hid (HC2.out.keep hb3)
    clear hb3 HHe HRd HC2
    go_wp2_with fail
    refine (HMv.out _ HC3.out).mono ?_
    rintro e W4 ⟨rfl, hC4⟩
    clear HMv HC3
    cases o with
    | some z =>
      have HWr := hid (swrite_calls (W := W4) hC4 (i := q) hq z)
      rw [← HQ.out] at HWr
      dsimp only [smoveV]
      clear hC4
      go_wp2_with fail
      refine HWr.out.mono ?_
      rintro e W5 ⟨rfl, hC5⟩
      have HC5 := hid hC5
      clear hC5 HWr
      go_wp2_with fail
      go_ret
      exact ⟨rfl, HC5.out⟩
    | none =>
      have HC4 : Hid (Wk w0 bm bw N cap s2 true W4) := hC4
      have HWr := hid (fun i x => swrite_full HC4.out i x)
      dsimp only [smoveV]
      clear hC4
      generalize s.ws.getD q 0 = z at *
      go_wp2_with fail
      refine (HWr.out _ _).mono ?_
      rintro e W5 ⟨rfl, rfl⟩
      clear HWr
      go_wp2_with fail
      go_ret
      exact ⟨⟨_, rfl⟩, HC4.out⟩
end Go.Proofs.Ytebpgglegnljgaa
