/- Where clauses stand, as the specification asks it. -/
import Derived.Test.YtgiejnmphfgmgaaGreatDoorPureClauses
import Derived.Test.YtgiejnmphfgmgaaGreatDoorSpecDeep
import Derived.Test.YtgiejnmphfgmgaaGreatDoorKeyWalks
import Derived.Test.YtgiejnmphfgmgaaGreatDoorKept
import Derived.Laws.OwnMore
namespace Go.Proofs.YtgiejnmphfgmgaaGreatDoor
open Go.RowKit

def strs (ops : List ByteArray) : List Value := ops.map Value.string

set_option maxRecDepth 100000 in
/-- Whether a name is among those of a list of the call's own. -/
theorem isIn_calls (B : Nat) (v : Value) (ops : List ByteArray) (s : ByteArray) (w : World) (hl : ops.length ≤ 1000000) (hown : w.ownsRow B 9 1 v ops.length (strs ops)) :
    Calls Tryz.prog 75 #[v, .string s] w fun e w' => e = .returned (.bool (isIn ops s)) ∧ w = w' := by
  cases ops with
  | nil =>
    obtain ⟨a, c, rfl⟩ : ∃ a c, v = .slice a 0 c := by
      rcases hown.2 with ⟨h, _⟩ | ⟨g, c, cur, h, _⟩
      · exact ⟨none, 0, h⟩
      · exact ⟨_, _, h⟩
    clear hown
    go_enter Tryz.func75, Tryz.ntmps75
    go_wp2_with fail
    go_loop [5] (fun i => i = .int .i64 0) (fun _ => 0)
    case atStart => rfl
    case round =>
      subst hrel
      go_wp2_with fail
      go_ret
      exact ⟨rfl, rfl⟩
  | cons x r =>
    obtain ⟨g, c, rfl⟩ : ∃ g c, v = .slice (some ⟨g, 0, none⟩) (x :: r).length c := by
      rcases hown.2 with ⟨_, h⟩ | ⟨g, c, cur, h, _⟩
      · simp at h
      · exact ⟨_, _, h⟩
    refine (in_calls g 0 (x :: r).length c (x :: r) s w (Nat.le_refl _) hl (fun j hj => ?_)).mono ?_
    · rw [Nat.zero_add, hown.cellAt j (by omega)]
      rw [strs, List.getElem?_map, List.getElem?_eq_getElem hj, List.getD, List.getElem?_eq_getElem hj]
      rfl
    · rintro e w' ⟨rfl, rfl⟩
      exact ⟨by rw [List.take_length]; rfl, rfl⟩

set_option maxHeartbeats 1000000 in
set_option maxRecDepth 100000 in
/-- A node that may not stand there. -/
theorem clauses_bad (b off len cap : Nat) (n : Nd) (k : Fo) (p c : Nat) (w : World) (hpl : p < len)
    (c0 : w.cell? ⟨b, off + p * 6, none⟩ = some (.int .i64 n.kind)) (c1 : w.cell? ⟨b, off + p * 6 + 1, none⟩ = some (.int .i64 n.num)) (c2 : w.cell? ⟨b, off + p * 6 + 2, none⟩ = some (.string n.a))
    (c3 : w.cell? ⟨b, off + p * 6 + 3, none⟩ = some (.string n.b)) (c4 : w.cell? ⟨b, off + p * 6 + 4, none⟩ = some (.string n.c)) (c5 : w.cell? ⟨b, off + p * 6 + 5, none⟩ = some (.int .i64 n.kids)) (hc : c ≤ 2) (hh : headOk n c = false) :
    Calls Tryz.prog 71 #[.slice (some ⟨b, off, none⟩) len cap, .int .i64 p, .int .i64 c] w fun e w' => e = .returned (.bool (specTree n k c)) ∧ Below w.heap.size w w' := by
  have HO : Hid (specTree n k c = false) := by show _ = _; rw [specTree, hh]; rfl
  obtain ⟨kd, num, a, bb, cc, kids⟩ := n
  dsimp only at *
  have hc3 : c = 0 ∨ c = 1 ∨ c = 2 := by omega
  by_cases h5 : kd = 25
  · subst h5
    rcases hc3 with rfl | rfl | rfl
    all_goals first
      | (exfalso; simp [headOk, ok26] at hh; done)
      | (clear hh hc
         go_enter Tryz.func71, Tryz.ntmps71
         go_wp2_with fail
         go_ret
         exact ⟨by rw [HO.out]; rfl, (Below.refl _ _).alloc (Nat.le_refl _) _⟩)
  · by_cases h6 : kd = 26
    · subst h6
      clear h5
      rcases hc3 with rfl | rfl | rfl
      · clear hh hc
        go_enter Tryz.func71, Tryz.ntmps71
        go_wp2_with fail
        go_ret
        exact ⟨by rw [HO.out]; rfl, (Below.refl _ _).alloc (Nat.le_refl _) _⟩
      · clear hh hc
        go_enter Tryz.func71, Tryz.ntmps71
        go_wp2_with fail
        go_ret
        exact ⟨by rw [HO.out]; rfl, (Below.refl _ _).alloc (Nat.le_refl _) _⟩
      · have h4 : (bb.toList == cc.toList) = true := by
          simp [headOk, ok26] at hh
          simpa using hh
        clear hh hc
        go_enter Tryz.func71, Tryz.ntmps71
        go_wp2_with fail
        go_ret
        exact ⟨by rw [HO.out]; rfl, (Below.refl _ _).alloc (Nat.le_refl _) _⟩
    · have k5 : (kd == 25) = false := by rw [beq_eq_false_iff_ne]; exact h5
      have k6 : (kd == 26) = false := by rw [beq_eq_false_iff_ne]; exact h6
      rcases hc3 with rfl | rfl | rfl
      · exfalso
        simp [headOk, ok26, k5, k6] at hh
      all_goals
        clear hh hc h5 h6
        go_enter Tryz.func71, Tryz.ntmps71
        go_wp2_with fail
        go_ret
        exact ⟨by rw [HO.out]; rfl, (Below.refl _ _).alloc (Nat.le_refl _) _⟩
end Go.Proofs.YtgiejnmphfgmgaaGreatDoor
