/- The specification's HeapOk, in plain words: numbers that are not in order; objects, one by one. -/
import Derived.Test.YtebpgglegnljgaaSpecHeapC
namespace Go.Proofs.Ytebpgglegnljgaa
open Go.RowKit

/-- What the specification asks of the object that begins at a. -/
def oldZ (h : HpN) (a : Nat) : Bool := !inZ h a || decide (h.scan ≤ (a : Int) ∧ (a : Int) < h.bottom)

def specMoved (ws S : List Int) (h : HpN) (a : Nat) : Bool :=
  !inZ h a && specLeads ws S h (ws.getD (a + 1) 0) false && decide (ws.getD (a + 1) 0 % 8 = 0) && decide (sizeZ (ws.getD (ws.getD (a + 1) 0 / 8).toNat 0) = sizeZ (ws.getD a 0))

def specAt (ws S : List Int) (h : HpN) (a : Nat) : Bool :=
  if ws.getD a 0 % 16 = 15 then specMoved ws S h a
  else (List.range (sizeN (ws.getD a 0) - 1)).all (fun i => specLeads ws S h (ws.getD (a + (i + 1)) 0) (oldZ h a))

def specObjs (ws S : List Int) (h : HpN) (N : Nat) : Bool := (List.range N).all (fun a => S.getD a 0 == 0 || specAt ws S h a)

def specOk (ws : List Int) (h : HpN) : Bool :=
  match specLay ws h with
  | none => false
  | some S => !(decide (h.scan < h.bottom) && S.getD h.scan.toNat 0 == 0) && specObjs ws S h ws.length

set_option maxHeartbeats 10000000 in
set_option maxRecDepth 100000 in
theorem specOk_bad (ad : Option Addr) (N cap : Nat) (h : HpN) (w : World) (hm : N ≤ 1048576) (hbad : ¬ Ordered h N) :
    Calls Try.prog 35 #[heapV (.slice ad N cap) h] w fun e w' => e = .returned (.bool false) ∧ Below w.heap.size w w' := by
  have HBAD := hid hbad
  have HM := hid hm
  clear hbad hm
  obtain ⟨g1, g2, g3, g4, g5, g6, g7, g8, g9⟩ := h
  unfold heapV
  dsimp only at *
  by_cases hA : 20 ≤ g1 ∧ g1 ≤ 4000 ∧ (N : Int) = 2 * g1 ∧ (g2 = 0 ∨ g2 = g1) ∧ 0 ≤ g8 ∧ 0 ≤ g9
  · obtain ⟨a1, a2, a3, a4, a5, a6⟩ := hA
    rcases a4 with rfl | rfl
    all_goals
      go_enter Try.func35, Try.ntmps35
      go_wp2_with fail
      refine (specFrom_calls _ ⟨_, _, g3, g4, g5, g6, g7, g8, g9⟩ _ (by dsimp only; omega) (by dsimp only; omega) (by dsimp only; omega) (by dsimp only; omega)).mono ?_
      rintro e W1 ⟨rfl, hb1⟩
      obtain ⟨eA, hbw⟩ := one_kept hb1
      obtain ⟨c0, c1, c2, c3, c4, c5, c6, c7, c8, c9⟩ := HeapBlk.cells (h := ⟨_, _, g3, g4, g5, g6, g7, g8, g9⟩) eA
      dsimp only at c0 c1 c2 c3 c4 c5 c6 c7 c8 c9
      have HBW := hid hbw
      clear hb1 hbw eA
      dsimp only
      go_wp2_with fail
      all_goals first
        | (go_ret
           exact ⟨rfl, HBW.out⟩)
        | (exfalso
           apply HBAD.out
           unfold Ordered
           dsimp only
           omega)
  · go_enter Try.func35, Try.ntmps35
    go_wp2_with fail
    all_goals first
      | (go_ret
         exact ⟨rfl, (Below.refl _ _).alloc (Nat.le_refl _) _⟩)
      | (exfalso
         apply hA
         omega)
end Go.Proofs.Ytebpgglegnljgaa
