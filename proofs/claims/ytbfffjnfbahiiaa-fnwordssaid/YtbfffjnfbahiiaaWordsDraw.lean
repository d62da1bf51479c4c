/- The draws of a tag and a number, and of a word, return, whatever the bytes are. -/
import Derived.Test.YtbfffjnfbahiiaaRows
import Derived.Test.YtbfffjnfbahiiaaDrawKit
import Derived.WalkKit
import Derived.ProofKit
import Derived.OwnWalk
import Derived.Deep.RegionHeld
namespace Go.Proofs.Ytbfffjnfbahiiaa
open Go.RowKit

set_option maxHeartbeats 4000000 in
set_option maxRecDepth 100000 in
theorem drawNum_calls (a0 : Option Addr) (len cap : Nat) (w : World) (hlen : len ≤ 1000000000) (hb : len ≤ cap) (hB : BytesAt w a0 len) :
    Calls Try.prog 14 #[.slice a0 len cap] w fun e w' => (∃ x : Int, e = .returned (.int .i64 x) ∧ -100 ≤ x ∧ x < 100) ∧ Below w.heap.size w w' := by
  go_enter Try.func14, Try.ntmps14
  go_wp2_with fail
  refine (rd_open a0 len cap w hlen hb hB).mono ?_
  rintro e w1 ⟨rfl, n, hn, hS⟩
  go_wp2_with fail
  refine (rd_pick hS (by omega) 200 (by decide)).mono ?_
  rintro e w2 ⟨m, rfl, hm, hS2⟩
  go_wp2
  go_ret
  exact ⟨⟨_, rfl, by omega, by omega⟩, hS2.below⟩

set_option maxHeartbeats 4000000 in
set_option maxRecDepth 100000 in
theorem drawMake_calls (a0 : Option Addr) (len cap : Nat) (w : World) (hlen : len ≤ 1000000000) (hb : len ≤ cap) (hB : BytesAt w a0 len) :
    Calls Try.prog 9 #[.slice a0 len cap] w fun e w' => (∃ x y : Int, e = .returned (.tuple #[.int .i64 x, .int .i64 y]) ∧ -1 ≤ x ∧ x < 7 ∧ -50 ≤ y ∧ y < 50) ∧ Below w.heap.size w w' := by
  go_enter Try.func9, Try.ntmps9
  go_wp2_with fail
  refine (rd_open a0 len cap w hlen hb hB).mono ?_
  rintro e w1 ⟨rfl, n, hn, hS⟩
  go_wp2_with fail
  refine (rd_pick hS (by omega) 8 (by decide)).mono ?_
  rintro e w2 ⟨m, rfl, hm, hS2⟩
  go_wp2_with fail
  refine (rd_pick hS2 (by omega) 100 (by decide)).mono ?_
  rintro e w3 ⟨m2, rfl, hm2, hS3⟩
  have hB2 := hS3.below
  go_wp2
  exact bodyPost_ret (results_tmp2 (fn := Try.f9) rfl _ _ _) rfl ⟨⟨(m : Int) - 1, (m2 : Int) - 50, rfl, by omega, by omega, by omega, by omega⟩, hB2⟩
end Go.Proofs.Ytbfffjnfbahiiaa
