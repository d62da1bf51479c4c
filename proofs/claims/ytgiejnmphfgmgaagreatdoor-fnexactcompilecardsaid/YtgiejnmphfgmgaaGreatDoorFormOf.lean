/- A node's form, made of its kids' forms. -/
import Derived.Test.YtgiejnmphfgmgaaGreatDoorFormRel
namespace Go.Proofs.YtgiejnmphfgmgaaGreatDoor
open Go.RowKit

/-- A node as a value. -/
def nodeVal (n : Nd) : Value := .agg #[.int .i64 n.kind, .int .i64 n.num, .string n.a, .string n.b, .string n.c, .int .i64 n.kids]

def FormPost (n : Nd) (G : Nat) (us : List Value) (w : World) (e : Ending) (w' : World) : Prop :=
  ∃ v, e = .returned v ∧ Shape G w' n us v ∧ Below w.heap.size w w'

set_option maxHeartbeats 1000000 in
set_option maxRecDepth 100000 in
theorem formOf_leaf (n : Nd) (G : Nat) (sv : Value) (w : World) (h : n.kind = 1 ∨ n.kind = 2 ∨ n.kind = 3 ∨ n.kind = 4 ∨ n.kind = 5) :
    Calls Tryz.prog 99 #[nodeVal n, sv] w (FormPost n G [] w) := by
  obtain ⟨k, num, a, b, c, kids⟩ := n
  unfold nodeVal
  dsimp only at *
  rcases h with rfl | rfl | rfl | rfl | rfl
  all_goals
    go_enter Tryz.func99, Tryz.ntmps99
    go_wp2_with fail
    go_ret
    exact ⟨_, rfl, by constructor, (Below.refl _ _).alloc (Nat.le_refl _) _⟩

set_option maxHeartbeats 4000000 in
set_option maxRecDepth 100000 in
theorem formOf_one (n : Nd) (G cap : Nat) (T0 : TypeId) (p0 : Value) (w : World) (hG : G < w.heap.size) (h0 : w.cell? ⟨G, 0, none⟩ = some (.iface T0 p0))
    (h : n.kind = 6 ∨ n.kind = 17 ∨ n.kind = 18 ∨ n.kind = 21 ∨ n.kind = 22 ∨ n.kind = 25 ∨ n.kind = 26) :
    Calls Tryz.prog 99 #[nodeVal n, .slice (some ⟨G, 0, none⟩) 1 cap] w (FormPost n G [.iface T0 p0] w) := by
  obtain ⟨k, num, a, b, c, kids⟩ := n
  unfold nodeVal
  dsimp only at *
  rcases h with rfl | rfl | rfl | rfl | rfl | rfl | rfl
  all_goals
    go_enter Tryz.func99, Tryz.ntmps99
    go_wp2_with fail
    go_quiet (fail)
    go_wp2_with fail
    go_ret
    exact ⟨_, rfl, by constructor <;> simp, ((Below.refl _ _).alloc (Nat.le_refl _) _).trans (below_draws _ _ _)⟩

set_option maxHeartbeats 4000000 in
set_option maxRecDepth 100000 in
theorem formOf_two (n : Nd) (G cap : Nat) (T0 T1 : TypeId) (p0 p1 : Value) (w : World) (hG : G < w.heap.size) (h0 : w.cell? ⟨G, 0, none⟩ = some (.iface T0 p0)) (h1 : w.cell? ⟨G, 1, none⟩ = some (.iface T1 p1))
    (h : n.kind = 7 ∨ n.kind = 8 ∨ n.kind = 9 ∨ n.kind = 11 ∨ n.kind = 12 ∨ n.kind = 13 ∨ n.kind = 14 ∨ n.kind = 15 ∨ n.kind = 16 ∨ n.kind = 19) :
    Calls Tryz.prog 99 #[nodeVal n, .slice (some ⟨G, 0, none⟩) 2 cap] w (FormPost n G [.iface T0 p0, .iface T1 p1] w) := by
  obtain ⟨k, num, a, b, c, kids⟩ := n
  unfold nodeVal
  dsimp only at *
  rcases h with rfl | rfl | rfl | rfl | rfl | rfl | rfl | rfl | rfl | rfl
  all_goals
    go_enter Tryz.func99, Tryz.ntmps99
    go_wp2_with fail
    go_quiet (fail)
    go_wp2_with fail
    go_ret
    exact ⟨_, rfl, by constructor <;> simp, ((Below.refl _ _).alloc (Nat.le_refl _) _).trans (below_draws _ _ _)⟩

set_option maxHeartbeats 4000000 in
set_option maxRecDepth 100000 in
theorem formOf_three (n : Nd) (G cap : Nat) (T0 T1 T2 : TypeId) (p0 p1 p2 : Value) (w : World) (hG : G < w.heap.size) (h0 : w.cell? ⟨G, 0, none⟩ = some (.iface T0 p0)) (h1 : w.cell? ⟨G, 1, none⟩ = some (.iface T1 p1)) (h2 : w.cell? ⟨G, 2, none⟩ = some (.iface T2 p2))
    (h : n.kind = 10 ∨ n.kind = 20) :
    Calls Tryz.prog 99 #[nodeVal n, .slice (some ⟨G, 0, none⟩) 3 cap] w (FormPost n G [.iface T0 p0, .iface T1 p1, .iface T2 p2] w) := by
  obtain ⟨k, num, a, b, c, kids⟩ := n
  unfold nodeVal
  dsimp only at *
  rcases h with rfl | rfl
  all_goals
    go_enter Tryz.func99, Tryz.ntmps99
    go_wp2_with fail
    go_quiet (fail)
    go_wp2_with fail
    go_ret
    exact ⟨_, rfl, by constructor, ((Below.refl _ _).alloc (Nat.le_refl _) _).trans (below_draws _ _ _)⟩

set_option maxHeartbeats 4000000 in
set_option maxRecDepth 100000 in
theorem formOf_handler (n : Nd) (G L cap : Nat) (T0 : TypeId) (p0 : Value) (us : List Value) (w : World) (hG : G < w.heap.size) (h0 : w.cell? ⟨G, 0, none⟩ = some (.iface T0 p0)) (hc : ∀ j, j < us.length → w.cell? ⟨G, 1 + j, none⟩ = us[j]?)
    (hL : L = us.length + 1) (hl : us.length ≤ 5) (_hcap : L ≤ cap) (hcap2 : 2 ≤ cap) (h : n.kind = 23 ∨ n.kind = 24) :
    Calls Tryz.prog 99 #[nodeVal n, .slice (some ⟨G, 0, none⟩) L cap] w (FormPost n G (.iface T0 p0 :: us) w) := by
  obtain ⟨k, num, a, b, c, kids⟩ := n
  unfold nodeVal
  dsimp only at *
  have hL1 : 1 ≤ L := by omega
  have HL : Hid (L = us.length + 1) := hL
  have HC : Hid (∀ j, j < us.length → w.cell? ⟨G, 1 + j, none⟩ = us[j]?) := hc
  clear hL hc
  rcases h with rfl | rfl
  all_goals
    go_enter Tryz.func99, Tryz.ntmps99
    go_wp2_with fail
    go_quiet (fail)
    go_wp2_with fail
    go_ret
    have e : L - 1 = us.length := by have := HL.out; omega
    have hb : ∀ o q, Below w.heap.size w ((w.alloc o).drewN q) := fun o q => ((Below.refl _ _).alloc (Nat.le_refl _) _).trans (below_draws _ _ _)
    refine ⟨_, rfl, Shape.handler (by simp) ?_ hl, hb _ _⟩
    show RowAt G _ (.slice (some ⟨G, 1, none⟩) (L - 1) (cap - 1)) us
    rw [e]
    refine ⟨G, 1, cap - 1, rfl, Nat.le_refl _, Nat.lt_of_lt_of_le hG (hb _ _).size, fun j hj => ?_⟩
    rw [← HC.out j hj]
    exact (hb _ _).cell (p := ⟨G, 1 + j, none⟩) hG

theorem fits_cases {n : Nd} {m : Nat} (h : Fits n m) :
    (m = 0 ∧ (n.kind = 1 ∨ n.kind = 2 ∨ n.kind = 3 ∨ n.kind = 4 ∨ n.kind = 5)) ∨
    (m = 1 ∧ (n.kind = 6 ∨ n.kind = 17 ∨ n.kind = 18 ∨ n.kind = 21 ∨ n.kind = 22 ∨ n.kind = 25 ∨ n.kind = 26)) ∨
    (m = 2 ∧ (n.kind = 7 ∨ n.kind = 8 ∨ n.kind = 9 ∨ n.kind = 11 ∨ n.kind = 12 ∨ n.kind = 13 ∨ n.kind = 14 ∨ n.kind = 15 ∨ n.kind = 16 ∨ n.kind = 19)) ∨
    (m = 3 ∧ (n.kind = 10 ∨ n.kind = 20)) ∨
    (2 ≤ m ∧ m ≤ 6 ∧ (n.kind = 23 ∨ n.kind = 24)) := by
  obtain ⟨h1, h2, h3, h4⟩ := h
  rcases kinds n.kind with h | h | h | h | h | h | h | h | h | h | h | h | h | h | h | h | h | h | h | h | h | h | h | h | h | h | h
  all_goals try (
    rw [h] at h1 h2
    simp [leastZ, greatZ, arityZ, tab] at h1 h2
    omega)
  omega

theorem formOf_calls (n : Nd) (G cap : Nat) (us : List Value) (sv : Value) (w : World) (hsv : us ≠ [] → sv = .slice (some ⟨G, 0, none⟩) us.length cap) (hG : us ≠ [] → G < w.heap.size)
    (hc : ∀ j, j < us.length → w.cell? ⟨G, j, none⟩ = us[j]?) (hi : ∀ u ∈ us, ∃ T p, u = .iface T p) (hf : Fits n us.length) (hcap : us.length ≤ cap) :
    Calls Tryz.prog 99 #[nodeVal n, sv] w (FormPost n G us w) := by
  rcases fits_cases hf with ⟨hm, hk⟩ | ⟨hm, hk⟩ | ⟨hm, hk⟩ | ⟨hm, hk⟩ | ⟨hm, hm', hk⟩
  · have := len0 hm
    subst this
    exact formOf_leaf n G sv w hk
  · obtain ⟨u, rfl⟩ := len1 hm
    obtain ⟨T0, p0, rfl⟩ := hi u (by simp)
    rw [hsv (by simp)]
    exact formOf_one n G cap T0 p0 w (hG (by simp)) (hc 0 (by simp)) hk
  · obtain ⟨u, v, rfl⟩ := len2 hm
    obtain ⟨T0, p0, rfl⟩ := hi u (by simp)
    obtain ⟨T1, p1, rfl⟩ := hi v (by simp)
    rw [hsv (by simp)]
    exact formOf_two n G cap T0 T1 p0 p1 w (hG (by simp)) (hc 0 (by simp)) (hc 1 (by simp)) hk
  · obtain ⟨u, v, x, rfl⟩ := len3 hm
    obtain ⟨T0, p0, rfl⟩ := hi u (by simp)
    obtain ⟨T1, p1, rfl⟩ := hi v (by simp)
    obtain ⟨T2, p2, rfl⟩ := hi x (by simp)
    rw [hsv (by simp)]
    exact formOf_three n G cap T0 T1 T2 p0 p1 p2 w (hG (by simp)) (hc 0 (by simp)) (hc 1 (by simp)) (hc 2 (by simp)) hk
  · match us, hm, hm' with
    | u :: us', hm, hm' =>
      obtain ⟨T0, p0, rfl⟩ := hi u (by simp)
      rw [hsv (by simp)]
      simp only [List.length_cons] at hm hm' hcap
      refine formOf_handler n G _ cap T0 p0 us' w (hG (by simp)) (hc 0 (by simp)) (fun j hj => ?_) rfl (by omega) hcap (by omega) hk
      have := hc (1 + j) (by simp; omega)
      rw [this, Nat.add_comm 1 j]
      simp
end Go.Proofs.YtgiejnmphfgmgaaGreatDoor
