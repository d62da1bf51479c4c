/- Whether all of a list are instructions: the program's test. -/
import Derived.Test.YtfmkgppkgmjpfaaDoorCodePure
import Derived.Test.YtfmkgppkgmjpfaaDoorInsImpl
namespace Go.Proofs.YtfmkgppkgmjpfaaDoor
open Go.RowKit

set_option maxRecDepth 100000 in
theorem bad_calls (op a b c : Int) (w : World) :
    Calls Tryd.prog 32 #[.agg #[.int .i64 op, .int .i64 a, .int .i64 b, .int .i64 c]] w fun e w' => e = .returned (.bool (!insOkZ op a b c)) ∧ Below w.heap.size w w' := by
  go_enter Tryd.func32, Tryd.ntmps32
  go_wp2_with fail
  refine (implInsOk_calls _ _ _ _ _).mono ?_
  rintro e w2 ⟨rfl, hb2⟩
  go_wp2_with fail
  go_ret
  exact ⟨rfl, one_below hb2⟩

set_option maxHeartbeats 1000000 in
set_option maxRecDepth 100000 in
theorem indexBad_calls (b off cap : Nat) (cs : List In) (w : World) (hb : b < w.heap.size) (hn : InsAt w b off cs) (hm : cs.length ≤ 1500) :
    Calls Tryd.prog 40 #[.slice (some ⟨b, off, none⟩) cs.length cap, .func (.func 32) #[] #[]] w fun e w' => (∃ r : Int, e = .returned (.int .i64 r) ∧ decide (0 ≤ r) = !cs.all In.ok) ∧ Below w.heap.size w w' := by
  obtain ⟨len, hlen⟩ : ∃ len, cs.length = len := ⟨_, rfl⟩
  have Hlen : Hid (cs.length = len) := hlen
  have HM : Hid (len ≤ 1500) := by show _ ≤ _; omega
  have HN : Hid (InsAt w b off cs) := hn
  obtain ⟨R, hR⟩ : ∃ R, cs.all In.ok = R := ⟨_, rfl⟩
  have HR : Hid (cs.all In.ok = R) := hR
  rw [hlen, hR]
  clear hlen hm hn hR
  go_enter Tryd.func40, Tryd.ntmps40
  go_wp2_with fail
  go_loopw [8] (fun i wr => ∃ k : Nat, i = .int .i64 k ∧ k ≤ len ∧ Hid ((cs.take k).all In.ok = true) ∧ Below w.heap.size w wr) (fun i _ => len - (intOf i).toNat)
  case atStart => exact ⟨0, rfl, Nat.zero_le _, by simp [Hid], Below.refl _ _⟩
  case round =>
    obtain ⟨k, rfl, hk, HA, hnx⟩ := hrel
    by_cases hkl : (k : Int) < (len : Int)
    · have hkn : k < cs.length := by rw [Hlen.out]; omega
      have hcell := fun c (hc : c < 4) => (hnx.cell (p := ⟨b, off + k * 4 + c, none⟩) hb).trans (HN.out k hkn c hc)
      have HD : Hid (cs.take (k + 1) = cs.take k ++ [cs.getD k default]) := ins_drop hkn
      generalize cs.getD k default = n at hcell HD
      obtain ⟨op, x, y, z⟩ := n
      have c0 := hcell 0 (by omega)
      have c1 := hcell 1 (by omega)
      have c2 := hcell 2 (by omega)
      have c3 := hcell 3 (by omega)
      simp only [In.cell, Nat.add_zero] at c0 c1 c2 c3
      clear hcell hkn
      go_wp2_with fail
      refine (bad_calls _ _ _ _ _).mono ?_
      rintro e w2 ⟨rfl, hb2⟩
      have hnx2 := hnx.trans (hb2.mono hnx.size)
      clear hb2 hnx c0 c1 c2 c3
      cases hok : insOkZ op x y z with
      | false =>
        have HF : Hid (R = false) := by
          show _ = _
          rw [← HR.out]
          have h1 : (cs.take (k + 1)).all In.ok = false := by
            rw [HD.out, List.all_append]
            simp [In.ok, hok]
          rw [← List.take_append_drop (k + 1) cs, List.all_append, h1, Bool.false_and]
        clear HA HD HR
        go_wp2_with fail
        go_ret
        exact ⟨⟨_, rfl, by rw [HF.out]; exact decide_eq_true (by omega)⟩, hnx2⟩
      | true =>
        have HA1 : Hid ((cs.take (k + 1)).all In.ok = true) := by
          show _ = _
          rw [HD.out, List.all_append, HA.out]
          simp [In.ok, hok]
        clear HA HD
        go_wp2_with fail
        have hs : len - (intOf (.int .i64 ((k + 1 : Nat) : Int))).toNat < len - (intOf (.int .i64 (k : Int))).toNat := by simp only [intOf, Int.toNat_natCast]; omega
        try rw [wrap_one (k := k) (len := len) (by omega) (by have := HM.out; omega)]
        exact ⟨⟨k + 1, rfl, by omega, HA1, hnx2⟩, hs⟩
    · have HF : Hid (R = true) := by
        show _ = _
        rw [← HR.out, ← List.take_of_length_le (l := cs) (i := k) (by rw [Hlen.out]; omega)]
        exact HA.out
      clear HA HR
      go_wp2_with fail
      go_ret
      exact ⟨⟨-1, rfl, by rw [HF.out]; rfl⟩, hnx⟩

set_option maxHeartbeats 1000000 in
set_option maxRecDepth 100000 in
theorem listOk_calls (b off cap : Nat) (cs : List In) (w : World) (hb : b < w.heap.size) (hn : InsAt w b off cs) :
    Calls Tryd.prog 24 #[.slice (some ⟨b, off, none⟩) cs.length cap] w fun e w' => e = .returned (.bool (codeOkZ cs)) ∧ Below w.heap.size w w' := by
  by_cases hbig : (cs.length : Int) ≤ 1500
  · rw [show codeOkZ cs = cs.all In.ok by unfold codeOkZ; rw [decide_eq_true (by omega), Bool.true_and]]
    have HX : Hid (Calls _ _ _ _ _) := indexBad_calls b off cap cs w hb hn (by omega)
    generalize cs.length = len at *
    generalize cs.all In.ok = R at *
    clear hn
    have HY : Hid (Calls Tryd.prog 31 #[.slice (some ⟨b, off, none⟩) len cap, .func (.func 32) #[] #[]] w fun e w' => e = .returned (.bool (!R)) ∧ Below w.heap.size w w') := by
      show Calls _ _ _ _ _
      go_enter Tryd.func31, Tryd.ntmps31
      go_wp2_with fail
      refine HX.out.mono ?_
      rintro e w2 ⟨⟨r, rfl, hr⟩, hb2⟩
      have Hr : Hid (decide (0 ≤ r) = !R) := hr
      clear hr
      go_wp2_with fail
      go_ret
      exact ⟨by rw [← Hr.out]; rfl, hb2⟩
    clear HX
    go_enter Tryd.func24, Tryd.ntmps24
    go_wp2_with fail
    refine HY.out.mono ?_
    rintro e w2 ⟨rfl, hb2⟩
    cases R
    all_goals
      go_wp2_with fail
      go_ret
      exact ⟨rfl, hb2⟩
  · rw [show codeOkZ cs = false by unfold codeOkZ; rw [decide_eq_false (by omega)]; rfl]
    generalize cs.length = len at *
    clear hn
    go_enter Tryd.func24, Tryd.ntmps24
    go_wp2_with fail
    go_ret
    exact ⟨rfl, Below.refl _ _⟩
end Go.Proofs.YtfmkgppkgmjpfaaDoor
