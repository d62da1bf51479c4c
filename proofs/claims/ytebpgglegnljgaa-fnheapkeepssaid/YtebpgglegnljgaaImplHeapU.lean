/- A field that cannot be moved. -/
import Derived.Test.YtebpgglegnljgaaImplHeapT
namespace Go.Proofs.Ytebpgglegnljgaa
open Go.RowKit

set_option maxRecDepth 100000 in
/-- A field that leads to what is old, and there is no room for it. -/
theorem field_fails {w0 W : World} {bc bw N cap : Nat} {ws : List Int} {h : HpN} {r t : Int} (c : Col w0 bc bw N cap ws h r t W) (q : Nat) (hq : q < N) (h0 : 0 ≤ h.to) (h1 : h.to ≤ h.size) (h3 : h.size ≤ 4000) (hr0 : 0 ≤ r) (hr1 : r ≤ 70000) (hold : lateZ h (ws.getD q 0) = true)
    (ws' : List Int) (h' : HpN) (r' t' : Int)
    (hm : ∀ X, Col w0 bc bw N cap ws h (r + 1) t X → Calls Try.prog 80 #[.pointer (some ⟨bc, 0, none⟩), .int .i64 (ws.getD q 0)] X fun e w' => e = .returned (.tuple #[.int .i64 0, .bool false]) ∧ Col w0 bc bw N cap ws' h' r' t' w') :
    Calls Try.prog 53 #[.pointer (some ⟨bc, 0, none⟩), .int .i64 (q : Int)] W fun e w' => e = .returned (.tuple #[.int .i64 0, .bool false]) ∧ Col w0 bc bw N cap ws' h' r' t' w' := by
  have HRd := hid (read_calls c (i := q) hq hr0 (by omega))
  have HM := hid hm
  clear c hm
  go_enter Try.func53, Try.ntmps53
  go_wp2_with fail
  refine HRd.out.mono ?_
  rintro e W1 ⟨rfl, hC1⟩
  have HIo := hid (fun (X : World) (b : Below W1.heap.size W1 X) => isOld_calls (hC1.keep b) (ws.getD q 0) h0 h1 h3)
  rw [hold] at HIo
  have HC1 := hid hC1
  clear hC1 HRd
  go_wp2_with fail
  refine (HIo.out _ (by first | exact Below.refl _ _ | exact (Below.refl _ _).drew)).mono ?_
  rintro e W2 ⟨rfl, hb2⟩
  have HC2 := hid (HC1.out.keep (by first | exact hb2 | exact (Below.refl _ _).drew.trans hb2))
  clear hb2 HIo HC1
  go_wp2_with fail
  refine (HM.out _ (by first | exact HC2.out | exact HC2.out.keep (Below.refl _ _).drew)).mono ?_
  rintro e W3 ⟨rfl, hC3⟩
  have HC4 := hid hC3
  clear hC3 HM HC2
  go_wp2_with fail
  exact bodyPost_ret (v := .tuple #[.int .i64 0, .bool false]) (by simp [results, Try.results53, go_sem]) rfl ⟨rfl, by first | exact HC4.out | exact HC4.out.keep (Below.refl _ _).drew⟩
end Go.Proofs.Ytebpgglegnljgaa
