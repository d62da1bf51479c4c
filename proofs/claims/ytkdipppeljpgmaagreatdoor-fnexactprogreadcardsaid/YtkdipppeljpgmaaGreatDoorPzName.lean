/- The specification's reader of words: a name, whether an atom begins. -/
import Derived.Test.YtkdipppeljpgmaaGreatDoorPzSt
namespace Go.Proofs.YtkdipppeljpgmaaGreatDoor
open Go.RowKit Go.Deep
section
variable {d : Dr} {ws : List Wd} {ad : Option Addr} {cp : Nat}

set_option maxHeartbeats 4000000 in
set_option maxRecDepth 100000 in
theorem pname_calls (s : Ps) (W : World) (h : PsAt d ws ad cp s W) :
    Calls Tryz.prog 28 #[.pointer (some ⟨d.B, 0, none⟩)] W fun e W' => e = .returned (.string (nameS ws s).1) ∧ StepP d ws ad cp (nameS ws s).2 W W' := by
  have p0 := cell_of_heap h.blk 0
  have p1 := cell_of_heap h.blk 1
  have p2 := cell_of_heap h.blk 2
  have z1 := frozen_of_heap h.blk 1
  have z2 := frozen_of_heap h.blk 2
  simp at p0 p1 p2
  obtain ⟨L, hL⟩ : ∃ L, ws.length = L := ⟨_, rfl⟩
  have hle : s.at_ ≤ L := by rw [← hL]; exact h.lt
  have hfew : L ≤ 1500 := by rw [← hL]; exact h.few
  have HF := hid hfew
  have H := hid h
  have HL := hid hL
  rw [hL] at p0
  clear h hL hfew
  obtain ⟨i, bad⟩ := s
  dsimp only at p1 p2 hle
  have bad1 : ∀ (nq : Nat), StepP d ws ad cp ⟨i, true⟩ W ((W.drewN nq).setCell ⟨d.B, 2, none⟩ (.bool true)) := fun nq => by
    have h1 := H.out.below (below_drawn W.heap.size W nq)
    exact ⟨h1.fails, (Grew.of_below (below_drawn _ _ _)).trans (grew_set _ 2 _)⟩
  have HBad := hid bad1
  clear bad1
  go_enter Tryz.func28, Tryz.ntmps28
  cases bad with
  | true =>
    have ht : nameS ws ⟨i, true⟩ = (⟨#[]⟩, ⟨i, true⟩) := by unfold nameS isNm; simp [Ps.fail]
    have HN := hid ht
    clear ht
    go_wp2_with fail
    go_quiet (fail)
    go_wp2_with fail
    go_ret
    rw [HN.out]
    exact ⟨rfl, HBad.out _⟩
  | false =>
    by_cases hi : L ≤ i
    · have ht : nameS ws ⟨i, false⟩ = (⟨#[]⟩, ⟨i, true⟩) := by unfold nameS isNm; rw [if_neg (by have := HL.out; simp; omega)]; rfl
      have HN := hid ht
      clear ht
      go_wp2_with fail
      go_quiet (fail)
      go_wp2_with fail
      go_ret
      rw [HN.out]
      exact ⟨rfl, HBad.out _⟩
    · have hlt : i < ws.length := by have := HL.out; omega
      obtain ⟨b, rfl, hw⟩ := H.out.lies (by omega)
      obtain ⟨w0, w1, -⟩ := hw i hlt
      have hi0 : (0 : Int) ≤ (i : Int) := by omega
      have hd : decide (L ≤ i) = false := decide_eq_false hi
      have hi1 : i < L := by omega
      by_cases hk : (curW ws i).kind = 2
      · have ht : nameS ws ⟨i, false⟩ = ((curW ws i).text, ⟨i + 1, false⟩) := by unfold nameS isNm; rw [if_pos (by simp [hlt, hk])]; rfl
        have HN := hid ht
        have hd2 : ((curW ws i).kind != 2) = false := by simp [hk]
        have hw1 : wrap64 ((i : Int) + 1) = ((i + 1 : Nat) : Int) := wrap_succ (by have := HF.out; omega)
        have HW1 := hid hw1
        have hmv : ∀ nq : Nat, StepP d ws (some ⟨b, 0, none⟩) cp ⟨i + 1, false⟩ W ((W.drewN nq).setCell ⟨d.B, 1, none⟩ (.int .i64 ((i + 1 : Nat) : Int))) := fun nq => by
          have h1 := H.out.below (below_drawn W.heap.size W nq)
          exact ⟨h1.move (i := i + 1) (by omega), (Grew.of_below (below_drawn _ _ _)).trans (grew_set _ 1 _)⟩
        have HMv := hid hmv
        clear hw ht hmv hw1 hlt
        go_wp2_with fail
        go_quiet (fail)
        go_wp2_with fail
        rw [HW1.out]
        have HS := hid (HMv.out nq)
        obtain ⟨X, hX⟩ : ∃ X, (W.drewN nq).setCell ⟨d.B, 1, none⟩ (.int .i64 ((i + 1 : Nat) : Int)) = X := ⟨_, rfl⟩
        rw [hX] at HS ⊢
        obtain ⟨b2, e2, hw2⟩ := HS.out.1.lies (by have := HL.out; omega)
        cases e2
        obtain ⟨-, x1, -⟩ := hw2 i (by have := HL.out; omega)
        have y0 := cell_of_heap HS.out.1.blk 0
        have y1 := cell_of_heap HS.out.1.blk 1
        simp only [HL.out] at y0
        simp at y0 y1
        obtain ⟨m, hm⟩ : ∃ m : Int, (i : Int) + 1 = m := ⟨_, rfl⟩
        rw [hm] at y1
        have hsb : wrap64 (m - 1) = (i : Int) := by unfold wrap64; have := HF.out; omega
        clear hm
        clear hw2 hX p0 p1 p2 z1 z2 w0 w1
        go_wp2_with fail
        go_quiet (fail)
        go_wp2_with fail
        go_ret
        rw [HN.out]
        exact ⟨rfl, HS.out.1.below (below_drawn _ _ _), HS.out.2.trans (Grew.of_below (below_drawn _ _ _))⟩
      · have ht : nameS ws ⟨i, false⟩ = (⟨#[]⟩, ⟨i, true⟩) := by unfold nameS isNm; rw [if_neg (by simp [hk])]; rfl
        have HN := hid ht
        have hd2 : ((curW ws i).kind != 2) = true := by simp [hk]
        clear hw ht hlt
        go_wp2_with fail
        go_quiet (fail)
        go_wp2_with fail
        go_ret
        rw [HN.out]
        exact ⟨rfl, HBad.out _⟩
end
end Go.Proofs.YtkdipppeljpgmaaGreatDoor
