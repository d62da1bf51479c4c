/- The numbers that an instruction has, as the program lists them. -/
import Derived.Test.YtmjcifaihmecmaaDoorImplList
import Derived.Deep.RegionHeld3
namespace Go.Proofs.YtmjcifaihmecmaaDoor
open Go.RowKit

theorem numsZ_range (op : Int) : ∃ m : Nat, numsZ op = (m : Int) ∧ m ≤ 3 := by
  have h0 : 0 ≤ numsZ op ∧ numsZ op ≤ 3 := by
    unfold numsZ
    repeat' split
    all_goals omega
  exact ⟨(numsZ op).toNat, by omega, by omega⟩

set_option maxHeartbeats 1000000 in
set_option maxRecDepth 100000 in
theorem numbers_calls (op a b c : Int) (m : Nat) (w : World) (hm : numsZ op = (m : Int)) (h3 : m ≤ 3) :
    Calls Tryd.prog 16 #[.agg #[.int .i64 op, .int .i64 a, .int .i64 b, .int .i64 c]] w fun e w' => e = .returned (.slice (some ⟨w.heap.size + 1, 0, none⟩) m 3) ∧ w'.heap[w.heap.size + 1]? = some (.cells #[.int .i64 a, .int .i64 b, .int .i64 c] 3) ∧ Below w.heap.size w w' := by
  have HI : Hid (∀ w, _) := fun w => insNumbers_calls op w
  rw [hm] at HI
  clear hm
  have h3' : (m : Int) ≤ 3 := by omega
  have h0' : (0 : Int) ≤ (m : Int) := by omega
  go_enter Tryd.func16, Tryd.ntmps16
  go_wp2_with fail
  go_region_held3 (fun w' => w'.cell? ⟨w.heap.size, 0, none⟩ = some (.int .i64 op) ∧ w'.cell? ⟨w.heap.size, 1, none⟩ = some (.int .i64 a) ∧ w'.cell? ⟨w.heap.size, 2, none⟩ = some (.int .i64 b) ∧ w'.cell? ⟨w.heap.size, 3, none⟩ = some (.int .i64 c)) (go_keep) (first | (go_at_call 24; refine (HI.out _).mono ?_; rintro e w1 ⟨rfl, rfl⟩))
  all_goals
    go_wp2_with fail
    go_ret
    refine ⟨rfl, ?_, ?_⟩
    · have := (MapKept.heap_alloc (w.alloc (.cells #[.int .i64 op, .int .i64 a, .int .i64 b, .int .i64 c] 31)) (.cells #[.int .i64 a, .int .i64 b, .int .i64 c] 3)).1
      show ((w.alloc (.cells #[.int .i64 op, .int .i64 a, .int .i64 b, .int .i64 c] 31)).alloc (.cells #[.int .i64 a, .int .i64 b, .int .i64 c] 3)).heap[w.heap.size + 1]? = _
      simpa using this
    · exact (((Below.refl _ _).alloc (Nat.le_refl _) _).alloc (by simp) _).drew

end Go.Proofs.YtmjcifaihmecmaaDoor
