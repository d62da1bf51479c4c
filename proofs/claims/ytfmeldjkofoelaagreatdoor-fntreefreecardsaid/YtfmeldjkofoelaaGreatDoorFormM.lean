/- The program's forms: what value stands for a node and its kids. -/
import Derived.Test.YtfmeldjkofoelaaGreatDoorPureForest
import Derived.Test.YtfmeldjkofoelaaGreatDoorPureTree
import Derived.Test.YtfmeldjkofoelaaGreatDoorKept
import Derived.BigQuiet
import Derived.Test.YtfmeldjkofoelaaGreatDoorSpecDeep
import Derived.Deep.OwnRows
import Derived.Test.YtfmeldjkofoelaaGreatDoorClausesA
namespace Go.Proofs.YtfmeldjkofoelaaGreatDoor
open Go.RowKit

/-- A slice of these values, in a block that is not below 'B'. -/
def RowAt (B : Nat) (w : World) (sl : Value) (us : List Value) : Prop :=
  ∃ g o cap, sl = .slice (some ⟨g, o, none⟩) us.length cap ∧ B ≤ g ∧ g < w.heap.size ∧ ∀ j, j < us.length → w.cell? ⟨g, o + j, none⟩ = us[j]?

/-- This value is the form of a node whose kids' forms are these. -/
inductive Shape (B : Nat) (w : World) : Nd → List Value → Value → Prop
  | int {num : Int} {a b c : ByteArray} {kids : Int} : Shape B w ⟨1, num, a, b, c, kids⟩ [] (.iface 121 (.agg #[.int .i64 num]))
  | bool {num : Int} {a b c : ByteArray} {kids : Int} : Shape B w ⟨2, num, a, b, c, kids⟩ [] (.iface 122 (.agg #[.int .i64 num]))
  | unit {num : Int} {a b c : ByteArray} {kids : Int} : Shape B w ⟨3, num, a, b, c, kids⟩ [] (.iface 124 (.agg #[]))
  | nil {num : Int} {a b c : ByteArray} {kids : Int} : Shape B w ⟨4, num, a, b, c, kids⟩ [] (.iface 125 (.agg #[]))
  | var {num : Int} {a b c : ByteArray} {kids : Int} : Shape B w ⟨5, num, a, b, c, kids⟩ [] (.iface 127 (.agg #[.string a]))
  | fn {num : Int} {a b c : ByteArray} {kids : Int} {u : Value} : Shape B w ⟨6, num, a, b, c, kids⟩ [u] (.iface 130 (.agg #[.string a, u]))
  | app {num : Int} {a b c : ByteArray} {kids : Int} {u v : Value} : Shape B w ⟨7, num, a, b, c, kids⟩ [u, v] (.iface 132 (.agg #[u, v]))
  | bind {num : Int} {a b c : ByteArray} {kids : Int} {u v : Value} : Shape B w ⟨8, num, a, b, c, kids⟩ [u, v] (.iface 134 (.agg #[.string a, u, v]))
  | recur {num : Int} {a b c : ByteArray} {kids : Int} {u v : Value} : Shape B w ⟨9, num, a, b, c, kids⟩ [u, v] (.iface 136 (.agg #[.string a, .string b, u, v]))
  | cond {num : Int} {a b c : ByteArray} {kids : Int} {u v x : Value} : Shape B w ⟨10, num, a, b, c, kids⟩ [u, v, x] (.iface 138 (.agg #[u, v, x]))
  | sign {k num : Int} {a b c : ByteArray} {kids : Int} {u v : Value} (h : k = 11 ∨ k = 12 ∨ k = 13 ∨ k = 14 ∨ k = 15) : Shape B w ⟨k, num, a, b, c, kids⟩ [u, v] (.iface 155 (.agg #[.int .i64 k, u, v]))
  | pair {num : Int} {a b c : ByteArray} {kids : Int} {u v : Value} : Shape B w ⟨16, num, a, b, c, kids⟩ [u, v] (.iface 140 (.agg #[u, v]))
  | take {k num : Int} {a b c : ByteArray} {kids : Int} {u : Value} (h : k = 17 ∨ k = 18 ∨ k = 21) : Shape B w ⟨k, num, a, b, c, kids⟩ [u] (.iface 142 (.agg #[.int .i64 k, u]))
  | cons {num : Int} {a b c : ByteArray} {kids : Int} {u v : Value} : Shape B w ⟨19, num, a, b, c, kids⟩ [u, v] (.iface 144 (.agg #[u, v]))
  | case {num : Int} {a b c : ByteArray} {kids : Int} {u v x : Value} : Shape B w ⟨20, num, a, b, c, kids⟩ [u, v, x] (.iface 146 (.agg #[u, v, .string a, .string b, x]))
  | perform {num : Int} {a b c : ByteArray} {kids : Int} {u : Value} : Shape B w ⟨22, num, a, b, c, kids⟩ [u] (.iface 148 (.agg #[.string a, u]))
  | handler {k num : Int} {a b c : ByteArray} {kids : Int} {u sl : Value} {us : List Value} (h : k = 23 ∨ k = 24) (hs : RowAt B w sl us) (hl : us.length ≤ 5) : Shape B w ⟨k, num, a, b, c, kids⟩ (u :: us) (.iface 150 (.agg #[.int .i64 k, u, sl]))
  | ret {num : Int} {a b c : ByteArray} {kids : Int} {u : Value} : Shape B w ⟨25, num, a, b, c, kids⟩ [u] (.iface 151 (.agg #[.string a, u]))
  | op {num : Int} {a b c : ByteArray} {kids : Int} {u : Value} : Shape B w ⟨26, num, a, b, c, kids⟩ [u] (.iface 153 (.agg #[.string a, .string b, .string c, u]))

/-- These values are the forms of a forest's trees. -/
def Forms (B : Nat) (w : World) : Fo → List Value → Prop
  | .none, vs => vs = []
  | .tree n k r, vs => ∃ v us rest, vs = v :: rest ∧ Forms B w k us ∧ Shape B w n us v ∧ Forms B w r rest

theorem RowAt.kept {B B' : Nat} {w w' : World} {sl : Value} {us : List Value} (h : RowAt B w sl us) (hB : B' ≤ B) (hs : w.heap.size ≤ w'.heap.size) (hc : ∀ a : Addr, B ≤ a.block → a.block < w.heap.size → w'.cell? a = w.cell? a) : RowAt B' w' sl us := by
  obtain ⟨g, o, cap, e, h1, h2, h3⟩ := h
  refine ⟨g, o, cap, e, Nat.le_trans hB h1, Nat.lt_of_lt_of_le h2 hs, fun j hj => ?_⟩
  rw [hc ⟨g, o + j, none⟩ h1 h2]
  exact h3 j hj

theorem Shape.kept {B B' : Nat} {w w' : World} {n : Nd} {us : List Value} {v : Value} (h : Shape B w n us v) (hB : B' ≤ B) (hs : w.heap.size ≤ w'.heap.size) (hc : ∀ a : Addr, B ≤ a.block → a.block < w.heap.size → w'.cell? a = w.cell? a) : Shape B' w' n us v := by
  cases h with
  | int => exact .int
  | bool => exact .bool
  | unit => exact .unit
  | nil => exact .nil
  | var => exact .var
  | fn => exact .fn
  | app => exact .app
  | bind => exact .bind
  | recur => exact .recur
  | cond => exact .cond
  | sign h => exact .sign h
  | pair => exact .pair
  | take h => exact .take h
  | cons => exact .cons
  | case => exact .case
  | perform => exact .perform
  | handler h h1 h2 => exact .handler h (h1.kept hB hs hc) h2
  | ret => exact .ret
  | op => exact .op

theorem Forms.kept {B B' : Nat} {w w' : World} (hB : B' ≤ B) (hs : w.heap.size ≤ w'.heap.size) (hc : ∀ a : Addr, B ≤ a.block → a.block < w.heap.size → w'.cell? a = w.cell? a) : ∀ {f : Fo} {vs : List Value}, Forms B w f vs → Forms B' w' f vs
  | .none, _, h => h
  | .tree _ _ _, _, ⟨v, us, rest, e, h1, h2, h3⟩ => ⟨v, us, rest, e, Forms.kept hB hs hc h1, h2.kept hB hs hc, Forms.kept hB hs hc h3⟩

theorem Forms.below {B : Nat} {w w' : World} {f : Fo} {vs : List Value} (h : Forms B w f vs) (hb : Below w.heap.size w w') : Forms B w' f vs :=
  Forms.kept (Nat.le_refl _) hb.size (fun _ _ ha => hb.cell ha) h

theorem Shape.below {B : Nat} {w w' : World} {n : Nd} {us : List Value} {v : Value} (h : Shape B w n us v) (hb : Below w.heap.size w w') : Shape B w' n us v :=
  h.kept (Nat.le_refl _) hb.size (fun _ _ ha => hb.cell ha)

theorem Forms.length {B : Nat} {w : World} : ∀ {f : Fo} {vs : List Value}, Forms B w f vs → vs.length = f.count
  | .none, _, h => by rw [show _ = [] from h]; rfl
  | .tree _ _ _, _, ⟨_, _, _, e, _, _, h3⟩ => by rw [e, List.length_cons, Forms.length h3]; rfl

/-- A node has as many kids as its kind asks. -/
def Fits (n : Nd) (m : Nat) : Prop := leastZ n.kind ≤ m ∧ (m : Int) ≤ greatZ n.kind ∧ 1 ≤ n.kind ∧ n.kind ≤ 26

theorem below_draws (B : Nat) (w : World) (n : Nat) : Below B w (w.drewN n) := ⟨rfl, rfl, rfl, Nat.le_refl _, fun _ _ => rfl⟩

theorem len0 {us : List Value} (h : us.length = 0) : us = [] := List.eq_nil_of_length_eq_zero h

theorem len1 {us : List Value} (h : us.length = 1) : ∃ u, us = [u] := by
  match us, h with
  | [u], _ => exact ⟨u, rfl⟩

theorem len2 {us : List Value} (h : us.length = 2) : ∃ u v, us = [u, v] := by
  match us, h with
  | [u, v], _ => exact ⟨u, v, rfl⟩

theorem len3 {us : List Value} (h : us.length = 3) : ∃ u v x, us = [u, v, x] := by
  match us, h with
  | [u, v, x], _ => exact ⟨u, v, x, rfl⟩
end Go.Proofs.YtfmeldjkofoelaaGreatDoor

/- A node's form, made of its kids' forms. -/
namespace Go.Proofs.YtfmeldjkofoelaaGreatDoor
open Go.RowKit

/-- A node as a value. -/
def nodeVal (n : Nd) : Value := .agg #[.int .i64 n.kind, .int .i64 n.num, .string n.a, .string n.b, .string n.c, .int .i64 n.kids]

def FormPost (n : Nd) (G : Nat) (us : List Value) (w : World) (e : Ending) (w' : World) : Prop :=
  ∃ v, e = .returned v ∧ Shape G w' n us v ∧ Below w.heap.size w w'

set_option maxHeartbeats 1000000 in
set_option maxRecDepth 100000 in
theorem formOf_leaf (n : Nd) (G : Nat) (sv : Value) (w : World) (h : n.kind = 1 ∨ n.kind = 2 ∨ n.kind = 3 ∨ n.kind = 4 ∨ n.kind = 5) :
    Calls Tryz.prog 53 #[nodeVal n, sv] w (FormPost n G [] w) := by
  obtain ⟨k, num, a, b, c, kids⟩ := n
  unfold nodeVal
  dsimp only at *
  rcases h with rfl | rfl | rfl | rfl | rfl
  all_goals
    go_enter Tryz.func53, Tryz.ntmps53
    go_wp2_with fail
    go_ret
    exact ⟨_, rfl, by constructor, (Below.refl _ _).alloc (Nat.le_refl _) _⟩

set_option maxHeartbeats 4000000 in
set_option maxRecDepth 100000 in
theorem formOf_one (n : Nd) (G cap : Nat) (T0 : TypeId) (p0 : Value) (w : World) (hG : G < w.heap.size) (h0 : w.cell? ⟨G, 0, none⟩ = some (.iface T0 p0))
    (h : n.kind = 6 ∨ n.kind = 17 ∨ n.kind = 18 ∨ n.kind = 21 ∨ n.kind = 22 ∨ n.kind = 25 ∨ n.kind = 26) :
    Calls Tryz.prog 53 #[nodeVal n, .slice (some ⟨G, 0, none⟩) 1 cap] w (FormPost n G [.iface T0 p0] w) := by
  obtain ⟨k, num, a, b, c, kids⟩ := n
  unfold nodeVal
  dsimp only at *
  rcases h with rfl | rfl | rfl | rfl | rfl | rfl | rfl
  all_goals
    go_enter Tryz.func53, Tryz.ntmps53
    go_wp2_with fail
    go_quiet (fail)
    go_wp2_with fail
    go_ret
    exact ⟨_, rfl, by constructor <;> simp, ((Below.refl _ _).alloc (Nat.le_refl _) _).trans (below_draws _ _ _)⟩

set_option maxHeartbeats 4000000 in
set_option maxRecDepth 100000 in
theorem formOf_two (n : Nd) (G cap : Nat) (T0 T1 : TypeId) (p0 p1 : Value) (w : World) (hG : G < w.heap.size) (h0 : w.cell? ⟨G, 0, none⟩ = some (.iface T0 p0)) (h1 : w.cell? ⟨G, 1, none⟩ = some (.iface T1 p1))
    (h : n.kind = 7 ∨ n.kind = 8 ∨ n.kind = 9 ∨ n.kind = 11 ∨ n.kind = 12 ∨ n.kind = 13 ∨ n.kind = 14 ∨ n.kind = 15 ∨ n.kind = 16 ∨ n.kind = 19) :
    Calls Tryz.prog 53 #[nodeVal n, .slice (some ⟨G, 0, none⟩) 2 cap] w (FormPost n G [.iface T0 p0, .iface T1 p1] w) := by
  obtain ⟨k, num, a, b, c, kids⟩ := n
  unfold nodeVal
  dsimp only at *
  rcases h with rfl | rfl | rfl | rfl | rfl | rfl | rfl | rfl | rfl | rfl
  all_goals
    go_enter Tryz.func53, Tryz.ntmps53
    go_wp2_with fail
    go_quiet (fail)
    go_wp2_with fail
    go_ret
    exact ⟨_, rfl, by constructor <;> simp, ((Below.refl _ _).alloc (Nat.le_refl _) _).trans (below_draws _ _ _)⟩

set_option maxHeartbeats 4000000 in
set_option maxRecDepth 100000 in
theorem formOf_three (n : Nd) (G cap : Nat) (T0 T1 T2 : TypeId) (p0 p1 p2 : Value) (w : World) (hG : G < w.heap.size) (h0 : w.cell? ⟨G, 0, none⟩ = some (.iface T0 p0)) (h1 : w.cell? ⟨G, 1, none⟩ = some (.iface T1 p1)) (h2 : w.cell? ⟨G, 2, none⟩ = some (.iface T2 p2))
    (h : n.kind = 10 ∨ n.kind = 20) :
    Calls Tryz.prog 53 #[nodeVal n, .slice (some ⟨G, 0, none⟩) 3 cap] w (FormPost n G [.iface T0 p0, .iface T1 p1, .iface T2 p2] w) := by
  obtain ⟨k, num, a, b, c, kids⟩ := n
  unfold nodeVal
  dsimp only at *
  rcases h with rfl | rfl
  all_goals
    go_enter Tryz.func53, Tryz.ntmps53
    go_wp2_with fail
    go_quiet (fail)
    go_wp2_with fail
    go_ret
    exact ⟨_, rfl, by constructor, ((Below.refl _ _).alloc (Nat.le_refl _) _).trans (below_draws _ _ _)⟩

set_option maxHeartbeats 4000000 in
set_option maxRecDepth 100000 in
theorem formOf_handler (n : Nd) (G L cap : Nat) (T0 : TypeId) (p0 : Value) (us : List Value) (w : World) (hG : G < w.heap.size) (h0 : w.cell? ⟨G, 0, none⟩ = some (.iface T0 p0)) (hc : ∀ j, j < us.length → w.cell? ⟨G, 1 + j, none⟩ = us[j]?)
    (hL : L = us.length + 1) (hl : us.length ≤ 5) (_hcap : L ≤ cap) (hcap2 : 2 ≤ cap) (h : n.kind = 23 ∨ n.kind = 24) :
    Calls Tryz.prog 53 #[nodeVal n, .slice (some ⟨G, 0, none⟩) L cap] w (FormPost n G (.iface T0 p0 :: us) w) := by
  obtain ⟨k, num, a, b, c, kids⟩ := n
  unfold nodeVal
  dsimp only at *
  have hL1 : 1 ≤ L := by omega
  have HL : Hid (L = us.length + 1) := hL
  have HC : Hid (∀ j, j < us.length → w.cell? ⟨G, 1 + j, none⟩ = us[j]?) := hc
  clear hL hc
  rcases h with rfl | rfl
  all_goals
    go_enter Tryz.func53, Tryz.ntmps53
    go_wp2_with fail
    go_quiet (fail)
    go_wp2_with fail
    go_ret
    have e : L - 1 = us.length := by have := HL.out; omega
    have hb : ∀ o q, Below w.heap.size w ((w.alloc o).drewN q) := fun o q => ((Below.refl _ _).alloc (Nat.le_refl _) _).trans (below_draws _ _ _)
    refine ⟨_, rfl, Shape.handler (by simp) ?_ hl, hb _ _⟩
    show RowAt G _ (.slice (some ⟨G, 1, none⟩) (L - 1) (cap - 1)) us
    rw [e]
    refine ⟨G, 1, cap - 1, rfl, Nat.le_refl _, Nat.lt_of_lt_of_le hG (hb _ _).size, fun j hj => ?_⟩
    rw [← HC.out j hj]
    exact (hb _ _).cell (p := ⟨G, 1 + j, none⟩) hG

theorem fits_cases {n : Nd} {m : Nat} (h : Fits n m) :
    (m = 0 ∧ (n.kind = 1 ∨ n.kind = 2 ∨ n.kind = 3 ∨ n.kind = 4 ∨ n.kind = 5)) ∨
    (m = 1 ∧ (n.kind = 6 ∨ n.kind = 17 ∨ n.kind = 18 ∨ n.kind = 21 ∨ n.kind = 22 ∨ n.kind = 25 ∨ n.kind = 26)) ∨
    (m = 2 ∧ (n.kind = 7 ∨ n.kind = 8 ∨ n.kind = 9 ∨ n.kind = 11 ∨ n.kind = 12 ∨ n.kind = 13 ∨ n.kind = 14 ∨ n.kind = 15 ∨ n.kind = 16 ∨ n.kind = 19)) ∨
    (m = 3 ∧ (n.kind = 10 ∨ n.kind = 20)) ∨
    (2 ≤ m ∧ m ≤ 6 ∧ (n.kind = 23 ∨ n.kind = 24)) := by
  obtain ⟨h1, h2, h3, h4⟩ := h
  rcases kinds n.kind with h | h | h | h | h | h | h | h | h | h | h | h | h | h | h | h | h | h | h | h | h | h | h | h | h | h | h
  all_goals try (
    rw [h] at h1 h2
    simp [leastZ, greatZ, arityZ, tab] at h1 h2
    omega)
  omega

theorem formOf_calls (n : Nd) (G cap : Nat) (us : List Value) (sv : Value) (w : World) (hsv : us ≠ [] → sv = .slice (some ⟨G, 0, none⟩) us.length cap) (hG : us ≠ [] → G < w.heap.size)
    (hc : ∀ j, j < us.length → w.cell? ⟨G, j, none⟩ = us[j]?) (hi : ∀ u ∈ us, ∃ T p, u = .iface T p) (hf : Fits n us.length) (hcap : us.length ≤ cap) :
    Calls Tryz.prog 53 #[nodeVal n, sv] w (FormPost n G us w) := by
  rcases fits_cases hf with ⟨hm, hk⟩ | ⟨hm, hk⟩ | ⟨hm, hk⟩ | ⟨hm, hk⟩ | ⟨hm, hm', hk⟩
  · have := len0 hm
    subst this
    exact formOf_leaf n G sv w hk
  · obtain ⟨u, rfl⟩ := len1 hm
    obtain ⟨T0, p0, rfl⟩ := hi u (by simp)
    rw [hsv (by simp)]
    exact formOf_one n G cap T0 p0 w (hG (by simp)) (hc 0 (by simp)) hk
  · obtain ⟨u, v, rfl⟩ := len2 hm
    obtain ⟨T0, p0, rfl⟩ := hi u (by simp)
    obtain ⟨T1, p1, rfl⟩ := hi v (by simp)
    rw [hsv (by simp)]
    exact formOf_two n G cap T0 T1 p0 p1 w (hG (by simp)) (hc 0 (by simp)) (hc 1 (by simp)) hk
  · obtain ⟨u, v, x, rfl⟩ := len3 hm
    obtain ⟨T0, p0, rfl⟩ := hi u (by simp)
    obtain ⟨T1, p1, rfl⟩ := hi v (by simp)
    obtain ⟨T2, p2, rfl⟩ := hi x (by simp)
    rw [hsv (by simp)]
    exact formOf_three n G cap T0 T1 T2 p0 p1 p2 w (hG (by simp)) (hc 0 (by simp)) (hc 1 (by simp)) (hc 2 (by simp)) hk
  · match us, hm, hm' with
    | u :: us', hm, hm' =>
      obtain ⟨T0, p0, rfl⟩ := hi u (by simp)
      rw [hsv (by simp)]
      simp only [List.length_cons] at hm hm' hcap
      refine formOf_handler n G _ cap T0 p0 us' w (hG (by simp)) (hc 0 (by simp)) (fun j hj => ?_) rfl (by omega) hcap (by omega) hk
      have := hc (1 + j) (by simp; omega)
      rw [this, Nat.add_comm 1 j]
      simp
end Go.Proofs.YtfmeldjkofoelaaGreatDoor

/- The form of the tree at a place. -/
namespace Go.Proofs.YtfmeldjkofoelaaGreatDoor
open Go.RowKit Go.Deep

theorem Shape.iface {B : Nat} {w : World} {n : Nd} {us : List Value} {v : Value} (h : Shape B w n us v) : ∃ T p, v = .iface T p := by
  cases h <;> exact ⟨_, _, rfl⟩

theorem Forms.ifaces {B : Nat} {w : World} : ∀ {f : Fo} {vs : List Value}, Forms B w f vs → ∀ u ∈ vs, ∃ T p, u = .iface T p
  | .none, _, h, u, hu => by rw [show _ = [] from h] at hu; cases hu
  | .tree _ _ _, _, ⟨v, _, rest, e, _, h2, h3⟩, u, hu => by
    rw [e] at hu
    rcases List.mem_cons.1 hu with rfl | hu
    · exact h2.iface
    · exact Forms.ifaces h3 u hu

theorem Forms.app {B : Nat} {w : World} {g : Fo} {vs : List Value} (hg : Forms B w g vs) : ∀ {f : Fo} {us : List Value}, Forms B w f us → Forms B w (f.app g) (us ++ vs)
  | .none, _, h => by rw [show _ = [] from h]; exact hg
  | .tree _ _ _, _, ⟨v, us, rest, e, h1, h2, h3⟩ => ⟨v, us, rest ++ vs, by rw [e]; rfl, h1, h2, Forms.app hg h3⟩

theorem Fo.app_snoc (n : Nd) (k r : Fo) : ∀ g : Fo, g.app (.tree n k r) = (g.app (.tree n k .none)).app r
  | .none => rfl
  | .tree n' k' r' => by simp only [Fo.app, app_snoc n k r r']

theorem Fo.app_none : ∀ g : Fo, g.app .none = g
  | .none => rfl
  | .tree n' k' r' => by simp only [Fo.app, app_none r']

theorem info_form : (Tryz.prog.info? 44).map (fun i => (i.zero, i.size, i.bytes)) = some (some .nilIface, 1, 16) := by kernel_rfl

set_option maxHeartbeats 4000000 in
set_option maxRecDepth 100000 in
theorem formAt_calls (b off cap : Nat) (ns : List Nd) (hm : ns.length ≤ 300) (hfit : ∀ m ∈ ns, Fits m m.kids.toNat) : ∀ (N : Nat) (n : Nd) (k : Fo) (suf : List Nd) (p : Nat) (w : World), b < w.heap.size → NodesAt w b off ns → ns.drop p = n :: (k.flat ++ suf) → n.kids = k.count → k.wf → k.flat.length < N →
    Calls Tryz.prog 32 #[.slice (some ⟨b, off, none⟩) ns.length cap, .int .i64 p] w fun e w' => ∃ v us, e = .returned (.tuple #[v, .int .i64 ((p + 1 + k.flat.length : Nat) : Int)]) ∧ Forms w.heap.size w' k us ∧ Shape w.heap.size w' n us v ∧ Below w.heap.size w w' := by
  intro N
  induction N with
  | zero => intro n k suf p w _ _ _ _ _ h; omega
  | succ N ih =>
    intro n k suf p w hbw hn hp hkc hk hN
    obtain ⟨hpl, hnd, hp1⟩ := at_drop hp
    have c0 := hn p hpl 0 (by omega)
    have c1 := hn p hpl 1 (by omega)
    have c2 := hn p hpl 2 (by omega)
    have c3 := hn p hpl 3 (by omega)
    have c4 := hn p hpl 4 (by omega)
    have c5 := hn p hpl 5 (by omega)
    rw [hnd] at c0 c1 c2 c3 c4 c5
    simp only [Nd.cell, Nat.add_zero] at c0 c1 c2 c3 c4 c5
    have hFit : Fits n k.count := by
      have := hfit n (by rw [← hnd, List.getD, List.getElem?_eq_getElem hpl]; exact List.getElem_mem _)
      rw [hkc] at this
      simpa using this
    have hkl : k.flat.length ≤ ns.length := by
      have : (ns.drop (p + 1)).length = k.flat.length + suf.length := by rw [hp1, List.length_append]
      rw [List.length_drop] at this
      omega
    have hkk := Fo.count_le k
    rw [hkc] at c5
    have HI : Hid (∀ (n : Nd) (k : Fo) (suf : List Nd) (p : Nat) (w : World), _) := ih
    have HN : Hid (NodesAt w b off ns) := hn
    have H1 : Hid (ns.drop (p + 1) = k.flat ++ suf) := hp1
    have Hk : Hid k.wf := hk
    obtain ⟨len, hlen⟩ : ∃ len, ns.length = len := ⟨_, rfl⟩
    have Hlen : Hid (ns.length = len) := hlen
    rw [hlen] at hm hpl hkl ⊢
    obtain ⟨kc, hkcc⟩ : ∃ kc, k.count = kc := ⟨_, rfl⟩
    have Hkc : Hid (k.count = kc) := hkcc
    rw [hkcc] at c5 hkk hFit hkc
    have HFit : Hid (Fits n kc) := hFit
    have HP : Hid (len ≤ 300 ∧ p < len ∧ k.flat.length ≤ len ∧ kc ≤ k.flat.length ∧ k.flat.length < N + 1) := ⟨hm, hpl, hkl, hkk, hN⟩
    have hkb : kc ≤ 6 := by rcases fits_cases hFit with h | h | h | h | h <;> omega
    clear ih hn hp hp1 hk hnd hlen hkcc hm hkl hkk hN hFit hfit
    obtain ⟨kd, num, a, bb, cc, kids⟩ := n
    dsimp only at *
    subst hkc
    have hmk := run_make_row' (P := Tryz.prog) 59 44 .nilIface 16 Tryz.underlying59 info_form rfl .i64 .i64 kc (by omega) (by omega)
    go_enter Tryz.func32, Tryz.ntmps32
    go_wp2_with fail
    rw [wrap_succ (by have := HP.out; omega)]
    clear c0 c1 c2 c3 c4 c5 hmk
    generalize hp1 : p + 1 = p1
    have HP1 : Hid (p + 1 = p1) := hp1
    clear hp1
    go_loopw [1, 20] (fun q i wr => ∃ (q' i' : Nat) (r g : Fo) (us : List Value) (f : Nat → Value), q = .int .i64 q' ∧ i = .int .i64 i' ∧ Hid (ns.drop q' = r.flat ++ suf ∧ r.wf ∧ i' + r.count = kc ∧ r.flat.length < N + 1 ∧ q' + r.flat.length = p1 + k.flat.length ∧ k = g.app r ∧ Forms (w.heap.size + 2) wr g us ∧ us.length = i' ∧ ∀ j, j < i' → us[j]? = some (f j)) ∧ wr.rowIs (w.heap.size + 1) 44 kc f ∧ wr.heap[w.heap.size]? = some (.cells #[.int .i64 kd, .int .i64 num, .string a, .string bb, .string cc, .int .i64 kc] 29) ∧ Below w.heap.size w wr) (fun _ i _ => kc - (intOf i).toNat)
    case atStart =>
      refine ⟨p1, 0, k, .none, [], fun _ => .nilIface, rfl, rfl, ⟨by rw [← HP1.out]; exact H1.out, Hk.out, by rw [Hkc.out]; omega, HP.out.2.2.2.2, rfl, rfl, rfl, rfl, fun j hj => absurd hj (Nat.not_lt_zero _)⟩, ?_, ?_, ?_⟩
      · have := World.rowIs_made (w.alloc (.cells #[.int .i64 kd, .int .i64 num, .string a, .string bb, .string cc, .int .i64 kc] 29)) .nilIface kc 44
        simpa using this
      · rw [Below.heap_alloc _ _ _ (by simp)]
        exact (MapKept.heap_alloc w _).1
      · exact ((Below.refl _ _).alloc (Nat.le_refl _) _).alloc (by simp) _
    case round =>
      obtain ⟨q', i', r, g, us, f, rfl, rfl, HR, hrow, eA, hnx⟩ := hrel
      have hltA := heap_lt eA
      cases r with
      | none =>
        obtain ⟨_, _, h1, _, h5, h6, h7, h8, h9⟩ := HR.out
        simp only [Fo.count, Fo.flat, List.length_nil, Nat.add_zero] at h1 h5
        rw [Fo.app_none] at h6
        subst h6 h1
        have a0 := cell_of_heap eA 0
        have a1 := cell_of_heap eA 1
        have a2 := cell_of_heap eA 2
        have a3 := cell_of_heap eA 3
        have a4 := cell_of_heap eA 4
        have a5 := cell_of_heap eA 5
        simp at a0 a1 a2 a3 a4 a5
        have HH : Hid (Forms (w.heap.size + 2) wr k us ∧ us.length = i' ∧ (∀ j, j < i' → us[j]? = some (f j)) ∧ q' = p1 + k.flat.length) := ⟨h7, h8, h9, h5⟩
        clear HR h5 h7 h8 h9
        go_wp2_with fail
        obtain ⟨h7, h8, h9, h5⟩ := HH.out
        have hS := formOf_calls ⟨kd, num, a, bb, cc, (i' : Int)⟩ (w.heap.size + 1) i' us (.slice (some ⟨w.heap.size + 1, 0, none⟩) i' i') wr (fun _ => by rw [h8]) (fun _ => hrow.lt)
          (fun j hj => by rw [hrow.cell (by omega), h9 j (by omega)]) h7.ifaces (by rw [h8]; exact HFit.out) (by omega)
        have HS : Hid (Calls _ _ _ _ _) := hS
        clear hS h5 h7 h8 h9
        refine HS.out.mono ?_
        rintro e w4 ⟨v, rfl, hv, hb4⟩
        have hb5 := hnx.trans (hb4.mono hnx.size)
        have HV : Hid (Shape (w.heap.size + 1) w4 ⟨kd, num, a, bb, cc, (i' : Int)⟩ us v ∧ Below wr.heap.size wr w4) := ⟨hv, hb4⟩
        clear hv hb4 a0 a1 a2 a3 a4 a5 HS
        go_wp2_with fail
        refine bodyPost_ret (results_tmp2 (fn := Tryz.f32) rfl _ _ _) rfl ⟨v, us, ?_, ?_, ?_, hb5⟩
        · have e : p + 1 + k.flat.length = q' := by rw [HP1.out, HH.out.2.2.2]
          rw [e]
          rfl
        · exact Forms.kept (by omega) HV.out.2.size (fun _ _ h => HV.out.2.cell h) HH.out.1
        · exact HV.out.1.kept (by omega) (Nat.le_refl _) (fun _ _ _ => rfl)
      | tree n' k' r' =>
        obtain ⟨h0, hw, h1, h3, h5, h6, h7, h8, h9⟩ := HR.out
        obtain ⟨hw0, hw1, hw2⟩ := hw
        simp only [Fo.count, Fo.flat, List.length_cons, List.length_append] at h1 h3 h5
        simp only [Fo.flat, List.cons_append, List.append_assoc] at h0
        obtain ⟨hql, hqn, hq1⟩ := at_drop h0
        have hnw : NodesAt wr b off ns := HN.out.below hnx hbw
        have hnew := drop_past hq1
        have hIH := HI.out n' k' (r'.flat ++ suf) q' wr (by have := hnx.size; omega) hnw h0 hw0 hw1 (by omega)
        rw [Hlen.out] at hIH
        have HC : Hid (Calls _ _ _ _ _) := hIH
        have hi : (i' : Int) < (kc : Int) := by omega
        have HX : Hid (ns.drop (q' + 1 + k'.flat.length) = r'.flat ++ suf ∧ r'.wf ∧ i' + 1 + r'.count = kc ∧ r'.flat.length < N + 1 ∧ q' + 1 + k'.flat.length + r'.flat.length = p1 + k.flat.length ∧ k = (g.app (.tree n' k' .none)).app r' ∧ Forms (w.heap.size + 2) wr g us ∧ us.length = i' ∧ ∀ j, j < i' → us[j]? = some (f j)) :=
          ⟨hnew, hw2, by omega, by omega, by omega, by rw [h6]; exact Fo.app_snoc _ _ _ _, h7, h8, h9⟩
        clear HR h0 hw0 hw1 hw2 hql hqn hq1 hnw hnew hIH h1 h3 h5 h6 h7 h8 h9
        generalize q' + 1 + k'.flat.length = ee at *
        go_wp2_with fail
        refine HC.out.mono ?_
        rintro e w3 ⟨v, us', rfl, hF3, hS3, hb3⟩
        obtain ⟨T, pv, rfl⟩ := hS3.iface
        have hrow3 : w3.rowIs (w.heap.size + 1) 44 kc f := hrow.of_block (hb3.block _ hrow.lt)
        have hc3 := hrow3.cell (i := i') (by omega)
        have hz3 := hrow3.frozen i'
        have eA3 := (hb3.block w.heap.size hltA).trans eA
        have hnx3 := hnx.trans (hb3.mono hnx.size)
        have HF3 : Hid (Forms wr.heap.size w3 k' us' ∧ Shape wr.heap.size w3 n' us' (.iface T pv)) := ⟨hF3, hS3⟩
        have HB3 : Hid (Below wr.heap.size wr w3) := hb3
        clear hF3 hS3 hb3
        go_wp2_with fail
        obtain ⟨x1, x2, x3, x4, x5, x6, x7, x8, x9⟩ := HX.out
        have hbig : w.heap.size + 2 ≤ wr.heap.size := hrow.lt
        have hsz : w3.heap.size ≤ (w3.setCell ⟨w.heap.size + 1, i', none⟩ (.iface T pv)).heap.size := ((Below.refl 0 w3).setCell (Nat.zero_le _) _).size
        have hcell : ∀ ad : Addr, ad.block ≠ w.heap.size + 1 → (w3.setCell ⟨w.heap.size + 1, i', none⟩ (.iface T pv)).cell? ad = w3.cell? ad := fun ad h => World.cell?_of_block (w := w3) (Below.heap_setCell w3 _ _ ad.block h)
        have y1 : Forms (w.heap.size + 2) (w3.setCell ⟨w.heap.size + 1, i', none⟩ (.iface T pv)) g us := Forms.kept (Nat.le_refl _) (Nat.le_trans HB3.out.size hsz) (fun ad h1 h2 => by rw [hcell ad (by omega)]; exact HB3.out.cell h2) x7
        have y2 : Forms (w.heap.size + 2) (w3.setCell ⟨w.heap.size + 1, i', none⟩ (.iface T pv)) k' us' := Forms.kept hbig hsz (fun ad h1 h2 => hcell ad (by omega)) HF3.out.1
        have y3 : Shape (w.heap.size + 2) (w3.setCell ⟨w.heap.size + 1, i', none⟩ (.iface T pv)) n' us' (.iface T pv) := Shape.kept HF3.out.2 hbig hsz (fun ad h1 h2 => hcell ad (by omega))
        refine ⟨⟨ee, i' + 1, r', g.app (.tree n' k' .none), us ++ [.iface T pv], _, rfl, rfl, ⟨x1, x2, x3, x4, x5, x6, Forms.app (g := .tree n' k' .none) ⟨_, us', [], rfl, y2, y3, rfl⟩ y1, by rw [List.length_append, x8]; rfl, ?_⟩, hrow3.set i' _, ?_, hnx3.setCell (by simp) _⟩, lt_step hi⟩
        · intro j hj
          by_cases hji : j = i'
          · rw [if_pos hji, hji, List.getElem?_append_right (by omega), x8, Nat.sub_self]
            rfl
          · rw [if_neg hji, List.getElem?_append_left (by omega)]
            exact x9 j (by omega)
        · rw [Below.heap_setCell _ _ _ _ (by simp)]
          exact eA3
end Go.Proofs.YtfmeldjkofoelaaGreatDoor

/- The kids of a form, as its method tells them. -/
namespace Go.Proofs.YtfmeldjkofoelaaGreatDoor
open Go.RowKit Go.Deep

/-- A slice of these values; the empty one may lie anywhere. -/
def SliceOf (B : Nat) (w : World) (sv : Value) (us : List Value) : Prop := (us = [] ∧ ∃ a c, sv = .slice a 0 c) ∨ RowAt B w sv us

def KidsPost (us : List Value) (w : World) (e : Ending) (w' : World) : Prop := ∃ sv, e = .returned sv ∧ SliceOf w.heap.size w' sv us ∧ Below w.heap.size w w'

/-- A call of the method 'kids' of this value tells these. -/
def KidsOf (w : World) (v : Value) (us : List Value) : Prop :=
  ∃ T pv g rv, v = .iface T pv ∧ (∀ w, (method 297 T pv "loop.example/handrail/impl.kids").run Tryz.prog w = .ok (g, rv) w) ∧ (∀ args w, (callFunc g args).run Tryz.prog w = .ok (.enter g args) w) ∧ Calls Tryz.prog g #[rv] w (KidsPost us w)

theorem row_new (w : World) (o1 : Obj) (us : List Value) (t : TypeId) : SliceOf w.heap.size ((w.alloc o1).alloc (.cells us.toArray t)) (.slice (some ⟨w.heap.size + 1, 0, none⟩) us.length us.length) us := by
  have e := (MapKept.heap_alloc (w.alloc o1) (.cells us.toArray t)).1
  have hs : (w.alloc o1).heap.size = w.heap.size + 1 := by simp
  rw [hs] at e
  refine Or.inr ⟨w.heap.size + 1, 0, us.length, rfl, Nat.le_succ _, heap_lt e, fun j hj => ?_⟩
  rw [Nat.zero_add, cell_of_heap e j]
  simp

theorem below_two (w : World) (o1 o2 : Obj) : Below w.heap.size w ((w.alloc o1).alloc o2) := ((Below.refl _ _).alloc (Nat.le_refl _) o1).alloc (by simp) o2

theorem sliceOf_own {w : World} {base B : Nat} {e : TypeId} {v : Value} {n : Nat} {xs : List Value} (h : w.ownsRow base e 1 v n xs) (hb0 : B ≤ base) : SliceOf B w v xs := by
  have hl := h.1
  rw [Nat.mul_one] at hl
  rcases h.2 with ⟨hv, h0⟩ | ⟨g, cap, cur, hv, hbg, hg, _⟩
  · exact Or.inl ⟨List.eq_nil_of_length_eq_zero (by omega), none, 0, hv⟩
  · subst hv
    refine Or.inr ⟨g, 0, cap, by rw [hl], Nat.le_trans hb0 hbg, heap_lt hg, fun j hj => ?_⟩
    rw [Nat.zero_add]
    exact h.cellAt j (by omega)

set_option maxRecDepth 100000 in
theorem kids_leaf (w : World) : Calls Tryz.prog 123 #[.agg #[]] w (KidsPost [] w) := by
  go_enter Tryz.func123, Tryz.ntmps123
  go_wp2_with fail
  go_ret
  exact ⟨_, rfl, Or.inl ⟨rfl, none, 0, rfl⟩, (Below.refl _ _).alloc (Nat.le_refl _) _⟩

set_option maxRecDepth 100000 in
theorem kids_fn (a : ByteArray) (T0 : TypeId) (p0 : Value) (w : World) : Calls Tryz.prog 136 #[.agg #[.string a, .iface T0 p0]] w (KidsPost [.iface T0 p0] w) := by
  go_enter Tryz.func136, Tryz.ntmps136
  go_wp2_with fail
  go_ret
  exact ⟨_, rfl, row_new w _ [.iface T0 p0] _, below_two w _ _⟩

set_option maxRecDepth 100000 in
theorem kids_app (T0 T1 : TypeId) (p0 p1 : Value) (w : World) : Calls Tryz.prog 139 #[.agg #[.iface T0 p0, .iface T1 p1]] w (KidsPost [.iface T0 p0, .iface T1 p1] w) := by
  go_enter Tryz.func139, Tryz.ntmps139
  go_wp2_with fail
  go_ret
  exact ⟨_, rfl, row_new w _ [.iface T0 p0, .iface T1 p1] _, below_two w _ _⟩

set_option maxRecDepth 100000 in
theorem kids_bind (a : ByteArray) (T0 T1 : TypeId) (p0 p1 : Value) (w : World) : Calls Tryz.prog 143 #[.agg #[.string a, .iface T0 p0, .iface T1 p1]] w (KidsPost [.iface T0 p0, .iface T1 p1] w) := by
  go_enter Tryz.func143, Tryz.ntmps143
  go_wp2_with fail
  go_ret
  exact ⟨_, rfl, row_new w _ [.iface T0 p0, .iface T1 p1] _, below_two w _ _⟩

set_option maxRecDepth 100000 in
theorem kids_recur (a b : ByteArray) (T0 T1 : TypeId) (p0 p1 : Value) (w : World) : Calls Tryz.prog 146 #[.agg #[.string a, .string b, .iface T0 p0, .iface T1 p1]] w (KidsPost [.iface T0 p0, .iface T1 p1] w) := by
  go_enter Tryz.func146, Tryz.ntmps146
  go_wp2_with fail
  go_ret
  exact ⟨_, rfl, row_new w _ [.iface T0 p0, .iface T1 p1] _, below_two w _ _⟩

set_option maxRecDepth 100000 in
theorem kids_cond (T0 T1 T2 : TypeId) (p0 p1 p2 : Value) (w : World) : Calls Tryz.prog 149 #[.agg #[.iface T0 p0, .iface T1 p1, .iface T2 p2]] w (KidsPost [.iface T0 p0, .iface T1 p1, .iface T2 p2] w) := by
  go_enter Tryz.func149, Tryz.ntmps149
  go_wp2_with fail
  go_ret
  exact ⟨_, rfl, row_new w _ [.iface T0 p0, .iface T1 p1, .iface T2 p2] _, below_two w _ _⟩

set_option maxRecDepth 100000 in
theorem kids_sign (k : Int) (T0 T1 : TypeId) (p0 p1 : Value) (w : World) : Calls Tryz.prog 181 #[.agg #[.int .i64 k, .iface T0 p0, .iface T1 p1]] w (KidsPost [.iface T0 p0, .iface T1 p1] w) := by
  go_enter Tryz.func181, Tryz.ntmps181
  go_wp2_with fail
  go_ret
  exact ⟨_, rfl, row_new w _ [.iface T0 p0, .iface T1 p1] _, below_two w _ _⟩

set_option maxRecDepth 100000 in
theorem kids_pair (T0 T1 : TypeId) (p0 p1 : Value) (w : World) : Calls Tryz.prog 152 #[.agg #[.iface T0 p0, .iface T1 p1]] w (KidsPost [.iface T0 p0, .iface T1 p1] w) := by
  go_enter Tryz.func152, Tryz.ntmps152
  go_wp2_with fail
  go_ret
  exact ⟨_, rfl, row_new w _ [.iface T0 p0, .iface T1 p1] _, below_two w _ _⟩

set_option maxRecDepth 100000 in
theorem kids_take (k : Int) (T0 : TypeId) (p0 : Value) (w : World) : Calls Tryz.prog 156 #[.agg #[.int .i64 k, .iface T0 p0]] w (KidsPost [.iface T0 p0] w) := by
  go_enter Tryz.func156, Tryz.ntmps156
  go_wp2_with fail
  go_ret
  exact ⟨_, rfl, row_new w _ [.iface T0 p0] _, below_two w _ _⟩

set_option maxRecDepth 100000 in
theorem kids_cons (T0 T1 : TypeId) (p0 p1 : Value) (w : World) : Calls Tryz.prog 160 #[.agg #[.iface T0 p0, .iface T1 p1]] w (KidsPost [.iface T0 p0, .iface T1 p1] w) := by
  go_enter Tryz.func160, Tryz.ntmps160
  go_wp2_with fail
  go_ret
  exact ⟨_, rfl, row_new w _ [.iface T0 p0, .iface T1 p1] _, below_two w _ _⟩

set_option maxRecDepth 100000 in
theorem kids_case (a b : ByteArray) (T0 T1 T2 : TypeId) (p0 p1 p2 : Value) (w : World) : Calls Tryz.prog 164 #[.agg #[.iface T0 p0, .iface T1 p1, .string a, .string b, .iface T2 p2]] w (KidsPost [.iface T0 p0, .iface T1 p1, .iface T2 p2] w) := by
  go_enter Tryz.func164, Tryz.ntmps164
  go_wp2_with fail
  go_ret
  exact ⟨_, rfl, row_new w _ [.iface T0 p0, .iface T1 p1, .iface T2 p2] _, below_two w _ _⟩

set_option maxRecDepth 100000 in
theorem kids_perform (a : ByteArray) (T0 : TypeId) (p0 : Value) (w : World) : Calls Tryz.prog 167 #[.agg #[.string a, .iface T0 p0]] w (KidsPost [.iface T0 p0] w) := by
  go_enter Tryz.func167, Tryz.ntmps167
  go_wp2_with fail
  go_ret
  exact ⟨_, rfl, row_new w _ [.iface T0 p0] _, below_two w _ _⟩

set_option maxRecDepth 100000 in
theorem kids_ret (a : ByteArray) (T0 : TypeId) (p0 : Value) (w : World) : Calls Tryz.prog 175 #[.agg #[.string a, .iface T0 p0]] w (KidsPost [.iface T0 p0] w) := by
  go_enter Tryz.func175, Tryz.ntmps175
  go_wp2_with fail
  go_ret
  exact ⟨_, rfl, row_new w _ [.iface T0 p0] _, below_two w _ _⟩

set_option maxRecDepth 100000 in
theorem kids_op (a b c : ByteArray) (T0 : TypeId) (p0 : Value) (w : World) : Calls Tryz.prog 178 #[.agg #[.string a, .string b, .string c, .iface T0 p0]] w (KidsPost [.iface T0 p0] w) := by
  go_enter Tryz.func178, Tryz.ntmps178
  go_wp2_with fail
  go_ret
  exact ⟨_, rfl, row_new w _ [.iface T0 p0] _, below_two w _ _⟩

set_option maxHeartbeats 1000000 in
set_option maxRecDepth 100000 in
theorem kids_handler (k : Int) (T0 : TypeId) (p0 sl : Value) (us : List Value) (w : World) (hs : RowAt 0 w sl us) (hl : us.length ≤ 5) (hi : ∀ u ∈ us, ∃ T p, u = .iface T p) :
    Calls Tryz.prog 171 #[.agg #[.int .i64 k, .iface T0 p0, sl]] w (KidsPost (.iface T0 p0 :: us) w) := by
  obtain ⟨g, o, cap, rfl, _, hg, hc⟩ := hs
  obtain ⟨i0, hinf, hz0, hz1, hz2⟩ := info_parts info_form
  obtain ⟨WA, hWA⟩ : ∃ WA, w.alloc (.cells #[.int .i64 k, .iface T0 p0, .slice (some ⟨g, o, none⟩) us.length cap] 150) = WA := ⟨_, rfl⟩
  have hb1 : Below w.heap.size w WA := by rw [← hWA]; exact (Below.refl _ _).alloc (Nat.le_refl _) _
  have hsz : WA.heap.size = w.heap.size + 1 := by rw [← hWA]; simp
  have hb2 : Below w.heap.size w (WA.alloc (.cells #[.iface T0 p0] 44)) := hb1.alloc (by omega) _
  have hown : (WA.alloc (.cells #[.iface T0 p0] 44)).ownsRow (w.heap.size + 1) 44 1 (.slice (some ⟨WA.heap.size, 0, none⟩) 1 1) 1 [.iface T0 p0] := World.ownsRow_lit WA #[.iface T0 p0] 1 (by omega) (by unfold maxLen; omega) rfl
  rw [hsz] at hown
  have hcs : ∀ j u, us[j]? = some u → (WA.alloc (.cells #[.iface T0 p0] 44)).cell? ((⟨g, o, none⟩ : Addr).add j) = some u := by
    intro j u hj
    have hjl : j < us.length := by
      rcases Nat.lt_or_ge j us.length with h | h
      · exact h
      · rw [List.getElem?_eq_none h] at hj; cases hj
    rw [WideShapes.add_plain, hb2.cell (p := ⟨g, o + j, none⟩) hg, hc j hjl, hj]
  have HO : Hid (World.ownsRow _ _ _ _ _ _ _) := hown
  have HC : Hid (∀ j u, _) := hcs
  have HI : Hid (∀ u ∈ us, ∃ T p, u = .iface T p) := hi
  have HL : Hid (us.length ≤ 5) := hl
  have HB2 : Hid (Below _ _ _) := hb2
  have HSZ : Hid (WA.heap.size = w.heap.size + 1) := hsz
  have HWA : Hid (_ = WA) := hWA
  clear hown hcs hi hl hc hb2 hb1 hsz hWA
  go_enter Tryz.func171, Tryz.ntmps171
  go_wp2_with (first
    | (at_builtin; rw [HWA.out]; refine wpList_append_own _ rfl _ _ 59 rfl (w.heap.size + 1) 44 i0 .nilIface 1 16 Tryz.underlying59 hinf hz0 hz1 hz2 rfl (by decide) _ _ _ rfl HO.out ⟨g, o, none⟩ us.length cap us rfl (by simp) HC.out (fun x hx => by obtain ⟨T, p, rfl⟩ := HI.out x hx; rfl) (by have := HL.out; unfold maxLen; omega) (by have := HL.out; omega) (by have := HSZ.out; simp; omega) ?_
       intro v' w5 hown' hgrow hnil
       have hB5 : Below w.heap.size w w5 := HB2.out.grown hgrow HB2.out.size (fun j hj => by have := (HO.out.lt _ hj).1; omega)
       clear hgrow hnil))
  go_ret
  exact ⟨_, rfl, sliceOf_own hown' (Nat.le_succ _), hB5⟩

theorem kidsOf_mk {w : World} {v : Value} {us : List Value} (T : TypeId) (pv : Value) (g : FuncId) (hv : v = .iface T pv) (hm : ∀ w, (method 297 T pv "loop.example/handrail/impl.kids").run Tryz.prog w = .ok (g, pv) w)
    (hc : ∀ args w, (callFunc g args).run Tryz.prog w = .ok (.enter g args) w) (hK : Calls Tryz.prog g #[pv] w (KidsPost us w)) : KidsOf w v us := ⟨T, pv, g, pv, hv, hm, hc, hK⟩

theorem kidsOf {B : Nat} {w : World} {n : Nd} {us : List Value} {v : Value} (h : Shape B w n us v) (hi : ∀ u ∈ us, ∃ T p, u = .iface T p) : KidsOf w v us := by
  cases h with
  | int => exact ⟨_, _, 123, .agg #[], rfl, fun w => by kernel_rfl, fun args w => by kernel_rfl, kids_leaf w⟩
  | bool => exact ⟨_, _, 123, .agg #[], rfl, fun w => by kernel_rfl, fun args w => by kernel_rfl, kids_leaf w⟩
  | unit => exact ⟨_, _, 123, .agg #[], rfl, fun w => by kernel_rfl, fun args w => by kernel_rfl, kids_leaf w⟩
  | nil => exact ⟨_, _, 123, .agg #[], rfl, fun w => by kernel_rfl, fun args w => by kernel_rfl, kids_leaf w⟩
  | var => exact ⟨_, _, 123, .agg #[], rfl, fun w => by kernel_rfl, fun args w => by kernel_rfl, kids_leaf w⟩
  | fn =>
    obtain ⟨T0, p0, rfl⟩ := hi _ (List.mem_of_getElem? (i := 0) rfl)
    exact kidsOf_mk _ _ 136 rfl (fun w => by kernel_rfl) (fun args w => by kernel_rfl) (kids_fn _ _ _ w)
  | app =>
    obtain ⟨T0, p0, rfl⟩ := hi _ (List.mem_of_getElem? (i := 0) rfl)
    obtain ⟨T1, p1, rfl⟩ := hi _ (List.mem_of_getElem? (i := 1) rfl)
    exact kidsOf_mk _ _ 139 rfl (fun w => by kernel_rfl) (fun args w => by kernel_rfl) (kids_app _ _ _ _ w)
  | bind =>
    obtain ⟨T0, p0, rfl⟩ := hi _ (List.mem_of_getElem? (i := 0) rfl)
    obtain ⟨T1, p1, rfl⟩ := hi _ (List.mem_of_getElem? (i := 1) rfl)
    exact kidsOf_mk _ _ 143 rfl (fun w => by kernel_rfl) (fun args w => by kernel_rfl) (kids_bind _ _ _ _ _ w)
  | recur =>
    obtain ⟨T0, p0, rfl⟩ := hi _ (List.mem_of_getElem? (i := 0) rfl)
    obtain ⟨T1, p1, rfl⟩ := hi _ (List.mem_of_getElem? (i := 1) rfl)
    exact kidsOf_mk _ _ 146 rfl (fun w => by kernel_rfl) (fun args w => by kernel_rfl) (kids_recur _ _ _ _ _ _ w)
  | cond =>
    obtain ⟨T0, p0, rfl⟩ := hi _ (List.mem_of_getElem? (i := 0) rfl)
    obtain ⟨T1, p1, rfl⟩ := hi _ (List.mem_of_getElem? (i := 1) rfl)
    obtain ⟨T2, p2, rfl⟩ := hi _ (List.mem_of_getElem? (i := 2) rfl)
    exact kidsOf_mk _ _ 149 rfl (fun w => by kernel_rfl) (fun args w => by kernel_rfl) (kids_cond _ _ _ _ _ _ w)
  | sign _ =>
    obtain ⟨T0, p0, rfl⟩ := hi _ (List.mem_of_getElem? (i := 0) rfl)
    obtain ⟨T1, p1, rfl⟩ := hi _ (List.mem_of_getElem? (i := 1) rfl)
    exact kidsOf_mk _ _ 181 rfl (fun w => by kernel_rfl) (fun args w => by kernel_rfl) (kids_sign _ _ _ _ _ w)
  | pair =>
    obtain ⟨T0, p0, rfl⟩ := hi _ (List.mem_of_getElem? (i := 0) rfl)
    obtain ⟨T1, p1, rfl⟩ := hi _ (List.mem_of_getElem? (i := 1) rfl)
    exact kidsOf_mk _ _ 152 rfl (fun w => by kernel_rfl) (fun args w => by kernel_rfl) (kids_pair _ _ _ _ w)
  | take _ =>
    obtain ⟨T0, p0, rfl⟩ := hi _ (List.mem_of_getElem? (i := 0) rfl)
    exact kidsOf_mk _ _ 156 rfl (fun w => by kernel_rfl) (fun args w => by kernel_rfl) (kids_take _ _ _ w)
  | cons =>
    obtain ⟨T0, p0, rfl⟩ := hi _ (List.mem_of_getElem? (i := 0) rfl)
    obtain ⟨T1, p1, rfl⟩ := hi _ (List.mem_of_getElem? (i := 1) rfl)
    exact kidsOf_mk _ _ 160 rfl (fun w => by kernel_rfl) (fun args w => by kernel_rfl) (kids_cons _ _ _ _ w)
  | case =>
    obtain ⟨T0, p0, rfl⟩ := hi _ (List.mem_of_getElem? (i := 0) rfl)
    obtain ⟨T1, p1, rfl⟩ := hi _ (List.mem_of_getElem? (i := 1) rfl)
    obtain ⟨T2, p2, rfl⟩ := hi _ (List.mem_of_getElem? (i := 2) rfl)
    exact kidsOf_mk _ _ 164 rfl (fun w => by kernel_rfl) (fun args w => by kernel_rfl) (kids_case _ _ _ _ _ _ _ _ w)
  | perform =>
    obtain ⟨T0, p0, rfl⟩ := hi _ (List.mem_of_getElem? (i := 0) rfl)
    exact kidsOf_mk _ _ 167 rfl (fun w => by kernel_rfl) (fun args w => by kernel_rfl) (kids_perform _ _ _ w)
  | handler _ hs hl =>
    obtain ⟨T0, p0, rfl⟩ := hi _ (List.mem_of_getElem? (i := 0) rfl)
    exact kidsOf_mk _ _ 171 rfl (fun w => by kernel_rfl) (fun args w => by kernel_rfl) (kids_handler _ _ _ _ _ w (hs.kept (Nat.zero_le _) (Nat.le_refl _) (fun _ _ _ => rfl)) hl (fun u hu => hi u (List.mem_cons_of_mem _ hu)))
  | ret =>
    obtain ⟨T0, p0, rfl⟩ := hi _ (List.mem_of_getElem? (i := 0) rfl)
    exact kidsOf_mk _ _ 175 rfl (fun w => by kernel_rfl) (fun args w => by kernel_rfl) (kids_ret _ _ _ w)
  | op =>
    obtain ⟨T0, p0, rfl⟩ := hi _ (List.mem_of_getElem? (i := 0) rfl)
    exact kidsOf_mk _ _ 178 rfl (fun w => by kernel_rfl) (fun args w => by kernel_rfl) (kids_op _ _ _ _ _ w)
end Go.Proofs.YtfmeldjkofoelaaGreatDoor

/- How deep a form is. -/
namespace Go.Proofs.YtfmeldjkofoelaaGreatDoor
open Go.RowKit Go.Deep

theorem max_step (d x : Nat) : (if d < x then (x : Int) else (d : Int)) = ((max d x : Nat) : Int) := by
  split <;> omega

set_option maxHeartbeats 4000000 in
set_option maxRecDepth 100000 in
theorem deepOf_calls : ∀ (N B : Nat) (n : Nd) (k : Fo) (us : List Value) (v : Value) (w : World), Forms B w k us → Shape B w n us v → k.flat.length ≤ 300 → k.flat.length < N →
    Calls Tryz.prog 22 #[v] w fun e w' => e = .returned (.int .i64 ((k.deep + 1 : Nat) : Int)) ∧ Below w.heap.size w w' := by
  intro N
  induction N with
  | zero => intro B n k us v w _ _ _ h; omega
  | succ N ih =>
    intro B n k us v w hF hS hm hN
    obtain ⟨T, pv, g, rv, rfl, hmth, hcf, hK⟩ := kidsOf hS hF.ifaces
    have hlen := hF.length
    have hd := Fo.deep_le k
    have HI : Hid (∀ (B : Nat) (n : Nd) (k : Fo) (us : List Value) (v : Value) (w : World), _) := ih
    have HF : Hid (Forms B w k us ∧ us.length = k.count ∧ k.flat.length ≤ 300 ∧ k.flat.length < N + 1 ∧ k.deep ≤ k.flat.length) := ⟨hF, hlen, hm, hN, hd⟩
    have HK : Hid (Calls _ _ _ _ _) := hK
    clear ih hF hS hm hN hlen hd hK
    go_enter Tryz.func22, Tryz.ntmps22
    go_wp2_with fail
    refine HK.out.mono ?_
    rintro e w1 ⟨sv, rfl, hsl, hb1⟩
    clear HK hmth hcf
    rcases hsl with ⟨rfl, ad, c, rfl⟩ | ⟨g0, o, cap, rfl, _, hg0, hc0⟩
    · have hk : k = .none := by
        have := HF.out.2.1
        cases k with
        | none => rfl
        | tree => simp [Fo.count] at this
      subst hk
      go_wp2_with fail
      refine wp_loop_rounds 1 ?_
      rw [rounds_succ]
      go_wp2_with fail
      go_ret
      exact ⟨rfl, hb1⟩
    · obtain ⟨L, hL⟩ : ∃ L, us.length = L := ⟨_, rfl⟩
      have HC0 : Hid (us.length = L ∧ ∀ j, j < us.length → w1.cell? ⟨g0, o + j, none⟩ = us[j]?) := ⟨hL, hc0⟩
      rw [hL]
      clear hc0 hL
      go_wp2_with fail
      go_loopw [3, 9] (fun d i wr => ∃ (d' i' : Nat) (r : Fo) (rest : List Value), d = .int .i64 d' ∧ i = .int .i64 i' ∧ Hid (Forms B wr r rest ∧ us.drop i' = rest ∧ i' + r.count = L ∧ max d' r.deep = k.deep ∧ r.flat.length < N + 1 ∧ r.flat.length ≤ 300) ∧ Below w1.heap.size w1 wr) (fun _ i _ => L - (intOf i).toNat)
      case atStart =>
        obtain ⟨f1, f2, f3, f4, f5⟩ := HF.out
        exact ⟨0, 0, k, us, rfl, rfl, ⟨f1.below hb1, rfl, by rw [← f2, HC0.out.1]; omega, by omega, f4, f3⟩, Below.refl _ _⟩
      case round =>
        obtain ⟨d', i', r, rest, rfl, rfl, HR, hbr⟩ := hrel
        have hB := hb1.trans (hbr.mono hb1.size)
        have HD : Hid (k.deep ≤ 300) := by show _ ≤ _; have := HF.out; omega
        cases r with
        | none =>
          obtain ⟨_, _, h1, h2, _⟩ := HR.out
          simp only [Fo.count, Fo.deep] at h1 h2
          have h1' : i' = L := by omega
          have h2' : d' = k.deep := by omega
          subst h1'
          have HD2 : Hid (d' = k.deep) := h2'
          clear HR h1 h2 h2' HI HF
          go_wp2_with fail
          try rw [wrap_succ (by rw [HD2.out]; have := HD.out; omega)]
          go_ret
          exact ⟨by rw [← HD2.out]; rfl, hB⟩
        | tree n' k' r' =>
          obtain ⟨⟨v', us', rest', e1, hF1, hS1, hF2⟩, e2, h1, h2, h3, h4⟩ := HR.out
          simp only [Fo.count, Fo.deep, Fo.flat, List.length_cons, List.length_append] at h1 h2 h3 h4
          rw [e1] at e2
          have hi : (i' : Int) < (L : Int) := by omega
          have hil : i' < us.length := by rw [HC0.out.1]; omega
          have hcell : wr.cell? ⟨g0, o + i', none⟩ = some v' := by
            rw [hbr.cell (p := ⟨g0, o + i', none⟩) hg0, HC0.out.2 i' hil]
            rw [List.drop_eq_getElem_cons hil] at e2
            rw [List.getElem?_eq_getElem hil, (List.cons.inj e2).1]
          have hdrop : us.drop (i' + 1) = rest' := by
            rw [List.drop_eq_getElem_cons hil] at e2
            exact (List.cons.inj e2).2
          obtain ⟨T', p', rfl⟩ := hS1.iface
          have hIH := HI.out B n' k' us' _ wr hF1 hS1 (by omega) (by omega)
          have HC : Hid (Calls _ _ _ _ _) := hIH
          have HX : Hid (Forms B wr r' rest' ∧ us.drop (i' + 1) = rest' ∧ i' + 1 + r'.count = L ∧ max (max d' (k'.deep + 1)) r'.deep = k.deep ∧ r'.flat.length < N + 1 ∧ r'.flat.length ≤ 300) := ⟨hF2, hdrop, by omega, by omega, by omega, by omega⟩
          clear HR hF1 hS1 hF2 e1 e2 h1 h2 h3 h4 hil hdrop hIH
          generalize k'.deep + 1 = x at *
          go_wp2_with fail
          refine HC.out.mono ?_
          rintro e w2 ⟨rfl, hb2⟩
          have hbr2 := hbr.trans (hb2.mono hbr.size)
          have HB2 : Hid (Below wr.heap.size wr w2) := hb2
          clear hb2
          go_wp2_with fail
          have hi9 : i' ≤ 1048576 := by have := HF.out; have := HC0.out.1; have := Fo.count_le k; omega
          rw [wrap_succ hi9]
          obtain ⟨x1, x2, x3, x4, x5, x6⟩ := HX.out
          exact ⟨⟨max d' x, i' + 1, r', rest', by rw [max_step], rfl, ⟨x1.below HB2.out, x2, x3, x4, x5, x6⟩, hbr2⟩, lt_step hi⟩
end Go.Proofs.YtfmeldjkofoelaaGreatDoor

/- The node of a form, as its method tells it. -/
namespace Go.Proofs.YtfmeldjkofoelaaGreatDoor
open Go.RowKit Go.Deep

/-- A node as a value. -/
def ndV (n : Nd) : Value := .agg #[.int .i64 n.kind, .int .i64 n.num, .string n.a, .string n.b, .string n.c, .int .i64 n.kids]

/-- What a form keeps of a node. -/
def bareZ (n : Nd) : Nd :=
  ⟨n.kind, if n.kind = 1 ∨ n.kind = 2 then n.num else 0, if 1 ≤ namesZ n.kind then n.a else ⟨#[]⟩, if 2 ≤ namesZ n.kind then n.b else ⟨#[]⟩, if 3 ≤ namesZ n.kind then n.c else ⟨#[]⟩, 0⟩

def NodePost (m : Nd) (w : World) (e : Ending) (w' : World) : Prop := e = .returned (ndV m) ∧ Below w.heap.size w w'

/-- A call of the method 'node' of this value tells this node. -/
def NodeOf (w : World) (v : Value) (m : Nd) : Prop :=
  ∃ T pv g rv, v = .iface T pv ∧ (∀ w, (method 297 T pv "loop.example/handrail/impl.node").run Tryz.prog w = .ok (g, rv) w) ∧ (∀ args w, (callFunc g args).run Tryz.prog w = .ok (.enter g args) w) ∧ Calls Tryz.prog g #[rv] w (NodePost m w)

set_option maxRecDepth 100000 in
theorem node_int (num : Int) (w : World) : Calls Tryz.prog 125 #[.agg #[.int .i64 num]] w (NodePost ⟨1, num, ⟨#[]⟩, ⟨#[]⟩, ⟨#[]⟩, 0⟩ w) := by
  go_enter Tryz.func125, Tryz.ntmps125
  go_wp2_with fail
  refine bodyPost_ret (v := ndV ⟨1, num, ⟨#[]⟩, ⟨#[]⟩, ⟨#[]⟩, 0⟩) (by simp [results, Tryz.results125, go_sem, ndV]) rfl ?_
  exact ⟨rfl, by repeat (first | exact Below.refl _ _ | refine Below.alloc ?_ (by first | (simp; done) | (simp; omega)) _)⟩

set_option maxRecDepth 100000 in
theorem node_bool (num : Int) (w : World) : Calls Tryz.prog 127 #[.agg #[.int .i64 num]] w (NodePost ⟨2, num, ⟨#[]⟩, ⟨#[]⟩, ⟨#[]⟩, 0⟩ w) := by
  go_enter Tryz.func127, Tryz.ntmps127
  go_wp2_with fail
  refine bodyPost_ret (v := ndV ⟨2, num, ⟨#[]⟩, ⟨#[]⟩, ⟨#[]⟩, 0⟩) (by simp [results, Tryz.results127, go_sem, ndV]) rfl ?_
  exact ⟨rfl, by repeat (first | exact Below.refl _ _ | refine Below.alloc ?_ (by first | (simp; done) | (simp; omega)) _)⟩

set_option maxRecDepth 100000 in
theorem node_unit  (w : World) : Calls Tryz.prog 129 #[.agg #[]] w (NodePost ⟨3, 0, ⟨#[]⟩, ⟨#[]⟩, ⟨#[]⟩, 0⟩ w) := by
  go_enter Tryz.func129, Tryz.ntmps129
  go_wp2_with fail
  refine bodyPost_ret (v := ndV ⟨3, 0, ⟨#[]⟩, ⟨#[]⟩, ⟨#[]⟩, 0⟩) (by simp [results, Tryz.results129, go_sem, ndV]) rfl ?_
  exact ⟨rfl, by repeat (first | exact Below.refl _ _ | refine Below.alloc ?_ (by first | (simp; done) | (simp; omega)) _)⟩

set_option maxRecDepth 100000 in
theorem node_nil  (w : World) : Calls Tryz.prog 131 #[.agg #[]] w (NodePost ⟨4, 0, ⟨#[]⟩, ⟨#[]⟩, ⟨#[]⟩, 0⟩ w) := by
  go_enter Tryz.func131, Tryz.ntmps131
  go_wp2_with fail
  refine bodyPost_ret (v := ndV ⟨4, 0, ⟨#[]⟩, ⟨#[]⟩, ⟨#[]⟩, 0⟩) (by simp [results, Tryz.results131, go_sem, ndV]) rfl ?_
  exact ⟨rfl, by repeat (first | exact Below.refl _ _ | refine Below.alloc ?_ (by first | (simp; done) | (simp; omega)) _)⟩

set_option maxRecDepth 100000 in
theorem node_var (a : ByteArray) (w : World) : Calls Tryz.prog 133 #[.agg #[.string a]] w (NodePost ⟨5, 0, a, ⟨#[]⟩, ⟨#[]⟩, 0⟩ w) := by
  go_enter Tryz.func133, Tryz.ntmps133
  go_wp2_with fail
  refine bodyPost_ret (v := ndV ⟨5, 0, a, ⟨#[]⟩, ⟨#[]⟩, 0⟩) (by simp [results, Tryz.results133, go_sem, ndV]) rfl ?_
  exact ⟨rfl, by repeat (first | exact Below.refl _ _ | refine Below.alloc ?_ (by first | (simp; done) | (simp; omega)) _)⟩

set_option maxRecDepth 100000 in
theorem node_fn (a : ByteArray) (T0 : TypeId) (p0 : Value) (w : World) : Calls Tryz.prog 137 #[.agg #[.string a, .iface T0 p0]] w (NodePost ⟨6, 0, a, ⟨#[]⟩, ⟨#[]⟩, 0⟩ w) := by
  go_enter Tryz.func137, Tryz.ntmps137
  go_wp2_with fail
  refine bodyPost_ret (v := ndV ⟨6, 0, a, ⟨#[]⟩, ⟨#[]⟩, 0⟩) (by simp [results, Tryz.results137, go_sem, ndV]) rfl ?_
  exact ⟨rfl, by repeat (first | exact Below.refl _ _ | refine Below.alloc ?_ (by first | (simp; done) | (simp; omega)) _)⟩

set_option maxRecDepth 100000 in
theorem node_app (T0 T1 : TypeId) (p0 p1 : Value) (w : World) : Calls Tryz.prog 141 #[.agg #[.iface T0 p0, .iface T1 p1]] w (NodePost ⟨7, 0, ⟨#[]⟩, ⟨#[]⟩, ⟨#[]⟩, 0⟩ w) := by
  go_enter Tryz.func141, Tryz.ntmps141
  go_wp2_with fail
  refine bodyPost_ret (v := ndV ⟨7, 0, ⟨#[]⟩, ⟨#[]⟩, ⟨#[]⟩, 0⟩) (by simp [results, Tryz.results141, go_sem, ndV]) rfl ?_
  exact ⟨rfl, by repeat (first | exact Below.refl _ _ | refine Below.alloc ?_ (by first | (simp; done) | (simp; omega)) _)⟩

set_option maxRecDepth 100000 in
theorem node_bind (a : ByteArray) (T0 T1 : TypeId) (p0 p1 : Value) (w : World) : Calls Tryz.prog 144 #[.agg #[.string a, .iface T0 p0, .iface T1 p1]] w (NodePost ⟨8, 0, a, ⟨#[]⟩, ⟨#[]⟩, 0⟩ w) := by
  go_enter Tryz.func144, Tryz.ntmps144
  go_wp2_with fail
  refine bodyPost_ret (v := ndV ⟨8, 0, a, ⟨#[]⟩, ⟨#[]⟩, 0⟩) (by simp [results, Tryz.results144, go_sem, ndV]) rfl ?_
  exact ⟨rfl, by repeat (first | exact Below.refl _ _ | refine Below.alloc ?_ (by first | (simp; done) | (simp; omega)) _)⟩

set_option maxRecDepth 100000 in
theorem node_recur (a b : ByteArray) (T0 T1 : TypeId) (p0 p1 : Value) (w : World) : Calls Tryz.prog 147 #[.agg #[.string a, .string b, .iface T0 p0, .iface T1 p1]] w (NodePost ⟨9, 0, a, b, ⟨#[]⟩, 0⟩ w) := by
  go_enter Tryz.func147, Tryz.ntmps147
  go_wp2_with fail
  refine bodyPost_ret (v := ndV ⟨9, 0, a, b, ⟨#[]⟩, 0⟩) (by simp [results, Tryz.results147, go_sem, ndV]) rfl ?_
  exact ⟨rfl, by repeat (first | exact Below.refl _ _ | refine Below.alloc ?_ (by first | (simp; done) | (simp; omega)) _)⟩

set_option maxRecDepth 100000 in
theorem node_cond (T0 T1 T2 : TypeId) (p0 p1 p2 : Value) (w : World) : Calls Tryz.prog 150 #[.agg #[.iface T0 p0, .iface T1 p1, .iface T2 p2]] w (NodePost ⟨10, 0, ⟨#[]⟩, ⟨#[]⟩, ⟨#[]⟩, 0⟩ w) := by
  go_enter Tryz.func150, Tryz.ntmps150
  go_wp2_with fail
  refine bodyPost_ret (v := ndV ⟨10, 0, ⟨#[]⟩, ⟨#[]⟩, ⟨#[]⟩, 0⟩) (by simp [results, Tryz.results150, go_sem, ndV]) rfl ?_
  exact ⟨rfl, by repeat (first | exact Below.refl _ _ | refine Below.alloc ?_ (by first | (simp; done) | (simp; omega)) _)⟩

set_option maxRecDepth 100000 in
theorem node_sign (k : Int) (T0 T1 : TypeId) (p0 p1 : Value) (w : World) : Calls Tryz.prog 183 #[.agg #[.int .i64 k, .iface T0 p0, .iface T1 p1]] w (NodePost ⟨k, 0, ⟨#[]⟩, ⟨#[]⟩, ⟨#[]⟩, 0⟩ w) := by
  go_enter Tryz.func183, Tryz.ntmps183
  go_wp2_with fail
  refine bodyPost_ret (v := ndV ⟨k, 0, ⟨#[]⟩, ⟨#[]⟩, ⟨#[]⟩, 0⟩) (by simp [results, Tryz.results183, go_sem, ndV]) rfl ?_
  exact ⟨rfl, by repeat (first | exact Below.refl _ _ | refine Below.alloc ?_ (by first | (simp; done) | (simp; omega)) _)⟩

set_option maxRecDepth 100000 in
theorem node_pair (T0 T1 : TypeId) (p0 p1 : Value) (w : World) : Calls Tryz.prog 154 #[.agg #[.iface T0 p0, .iface T1 p1]] w (NodePost ⟨16, 0, ⟨#[]⟩, ⟨#[]⟩, ⟨#[]⟩, 0⟩ w) := by
  go_enter Tryz.func154, Tryz.ntmps154
  go_wp2_with fail
  refine bodyPost_ret (v := ndV ⟨16, 0, ⟨#[]⟩, ⟨#[]⟩, ⟨#[]⟩, 0⟩) (by simp [results, Tryz.results154, go_sem, ndV]) rfl ?_
  exact ⟨rfl, by repeat (first | exact Below.refl _ _ | refine Below.alloc ?_ (by first | (simp; done) | (simp; omega)) _)⟩

set_option maxRecDepth 100000 in
theorem node_take (k : Int) (T0 : TypeId) (p0 : Value) (w : World) : Calls Tryz.prog 158 #[.agg #[.int .i64 k, .iface T0 p0]] w (NodePost ⟨k, 0, ⟨#[]⟩, ⟨#[]⟩, ⟨#[]⟩, 0⟩ w) := by
  go_enter Tryz.func158, Tryz.ntmps158
  go_wp2_with fail
  refine bodyPost_ret (v := ndV ⟨k, 0, ⟨#[]⟩, ⟨#[]⟩, ⟨#[]⟩, 0⟩) (by simp [results, Tryz.results158, go_sem, ndV]) rfl ?_
  exact ⟨rfl, by repeat (first | exact Below.refl _ _ | refine Below.alloc ?_ (by first | (simp; done) | (simp; omega)) _)⟩

set_option maxRecDepth 100000 in
theorem node_cons (T0 T1 : TypeId) (p0 p1 : Value) (w : World) : Calls Tryz.prog 162 #[.agg #[.iface T0 p0, .iface T1 p1]] w (NodePost ⟨19, 0, ⟨#[]⟩, ⟨#[]⟩, ⟨#[]⟩, 0⟩ w) := by
  go_enter Tryz.func162, Tryz.ntmps162
  go_wp2_with fail
  refine bodyPost_ret (v := ndV ⟨19, 0, ⟨#[]⟩, ⟨#[]⟩, ⟨#[]⟩, 0⟩) (by simp [results, Tryz.results162, go_sem, ndV]) rfl ?_
  exact ⟨rfl, by repeat (first | exact Below.refl _ _ | refine Below.alloc ?_ (by first | (simp; done) | (simp; omega)) _)⟩

set_option maxRecDepth 100000 in
theorem node_case (a b : ByteArray) (T0 T1 T2 : TypeId) (p0 p1 p2 : Value) (w : World) : Calls Tryz.prog 165 #[.agg #[.iface T0 p0, .iface T1 p1, .string a, .string b, .iface T2 p2]] w (NodePost ⟨20, 0, a, b, ⟨#[]⟩, 0⟩ w) := by
  go_enter Tryz.func165, Tryz.ntmps165
  go_wp2_with fail
  refine bodyPost_ret (v := ndV ⟨20, 0, a, b, ⟨#[]⟩, 0⟩) (by simp [results, Tryz.results165, go_sem, ndV]) rfl ?_
  exact ⟨rfl, by repeat (first | exact Below.refl _ _ | refine Below.alloc ?_ (by first | (simp; done) | (simp; omega)) _)⟩

set_option maxRecDepth 100000 in
theorem node_perform (a : ByteArray) (T0 : TypeId) (p0 : Value) (w : World) : Calls Tryz.prog 169 #[.agg #[.string a, .iface T0 p0]] w (NodePost ⟨22, 0, a, ⟨#[]⟩, ⟨#[]⟩, 0⟩ w) := by
  go_enter Tryz.func169, Tryz.ntmps169
  go_wp2_with fail
  refine bodyPost_ret (v := ndV ⟨22, 0, a, ⟨#[]⟩, ⟨#[]⟩, 0⟩) (by simp [results, Tryz.results169, go_sem, ndV]) rfl ?_
  exact ⟨rfl, by repeat (first | exact Below.refl _ _ | refine Below.alloc ?_ (by first | (simp; done) | (simp; omega)) _)⟩

set_option maxRecDepth 100000 in
theorem node_handler (k : Int) (T0 : TypeId) (p0 : Value) (ad : Option Addr) (sn sc : Nat) (w : World) : Calls Tryz.prog 173 #[.agg #[.int .i64 k, .iface T0 p0, .slice ad sn sc]] w (NodePost ⟨k, 0, ⟨#[]⟩, ⟨#[]⟩, ⟨#[]⟩, 0⟩ w) := by
  go_enter Tryz.func173, Tryz.ntmps173
  go_wp2_with fail
  refine bodyPost_ret (v := ndV ⟨k, 0, ⟨#[]⟩, ⟨#[]⟩, ⟨#[]⟩, 0⟩) (by simp [results, Tryz.results173, go_sem, ndV]) rfl ?_
  exact ⟨rfl, by repeat (first | exact Below.refl _ _ | refine Below.alloc ?_ (by first | (simp; done) | (simp; omega)) _)⟩

set_option maxRecDepth 100000 in
theorem node_ret (a : ByteArray) (T0 : TypeId) (p0 : Value) (w : World) : Calls Tryz.prog 176 #[.agg #[.string a, .iface T0 p0]] w (NodePost ⟨25, 0, a, ⟨#[]⟩, ⟨#[]⟩, 0⟩ w) := by
  go_enter Tryz.func176, Tryz.ntmps176
  go_wp2_with fail
  refine bodyPost_ret (v := ndV ⟨25, 0, a, ⟨#[]⟩, ⟨#[]⟩, 0⟩) (by simp [results, Tryz.results176, go_sem, ndV]) rfl ?_
  exact ⟨rfl, by repeat (first | exact Below.refl _ _ | refine Below.alloc ?_ (by first | (simp; done) | (simp; omega)) _)⟩

set_option maxRecDepth 100000 in
theorem node_op (a b c : ByteArray) (T0 : TypeId) (p0 : Value) (w : World) : Calls Tryz.prog 179 #[.agg #[.string a, .string b, .string c, .iface T0 p0]] w (NodePost ⟨26, 0, a, b, c, 0⟩ w) := by
  go_enter Tryz.func179, Tryz.ntmps179
  go_wp2_with fail
  refine bodyPost_ret (v := ndV ⟨26, 0, a, b, c, 0⟩) (by simp [results, Tryz.results179, go_sem, ndV]) rfl ?_
  exact ⟨rfl, by repeat (first | exact Below.refl _ _ | refine Below.alloc ?_ (by first | (simp; done) | (simp; omega)) _)⟩

theorem nodeOf_mk {w : World} {v : Value} {m m' : Nd} (T : TypeId) (pv : Value) (g : FuncId) (hv : v = .iface T pv) (hm : ∀ w, (method 297 T pv "loop.example/handrail/impl.node").run Tryz.prog w = .ok (g, pv) w)
    (hc : ∀ args w, (callFunc g args).run Tryz.prog w = .ok (.enter g args) w) (he : m' = m) (hK : Calls Tryz.prog g #[pv] w (NodePost m w)) : NodeOf w v m' := by
  subst he
  exact ⟨T, pv, g, pv, hv, hm, hc, hK⟩

theorem nodeOf {B : Nat} {w : World} {n : Nd} {us : List Value} {v : Value} (h : Shape B w n us v) (hi : ∀ u ∈ us, ∃ T p, u = .iface T p) : NodeOf w v (bareZ n) := by
  cases h with
  | int =>
    exact nodeOf_mk _ _ 125 rfl (fun w => by kernel_rfl) (fun args w => by kernel_rfl) rfl (node_int _ w)
  | bool =>
    exact nodeOf_mk _ _ 127 rfl (fun w => by kernel_rfl) (fun args w => by kernel_rfl) rfl (node_bool _ w)
  | unit =>
    exact nodeOf_mk _ _ 129 rfl (fun w => by kernel_rfl) (fun args w => by kernel_rfl) rfl (node_unit  w)
  | nil =>
    exact nodeOf_mk _ _ 131 rfl (fun w => by kernel_rfl) (fun args w => by kernel_rfl) rfl (node_nil  w)
  | var =>
    exact nodeOf_mk _ _ 133 rfl (fun w => by kernel_rfl) (fun args w => by kernel_rfl) rfl (node_var _ w)
  | fn =>
    obtain ⟨T0, p0, rfl⟩ := hi _ (List.mem_of_getElem? (i := 0) rfl)
    exact nodeOf_mk _ _ 137 rfl (fun w => by kernel_rfl) (fun args w => by kernel_rfl) rfl (node_fn _ _ _ w)
  | app =>
    obtain ⟨T0, p0, rfl⟩ := hi _ (List.mem_of_getElem? (i := 0) rfl)
    obtain ⟨T1, p1, rfl⟩ := hi _ (List.mem_of_getElem? (i := 1) rfl)
    exact nodeOf_mk _ _ 141 rfl (fun w => by kernel_rfl) (fun args w => by kernel_rfl) rfl (node_app _ _ _ _ w)
  | bind =>
    obtain ⟨T0, p0, rfl⟩ := hi _ (List.mem_of_getElem? (i := 0) rfl)
    obtain ⟨T1, p1, rfl⟩ := hi _ (List.mem_of_getElem? (i := 1) rfl)
    exact nodeOf_mk _ _ 144 rfl (fun w => by kernel_rfl) (fun args w => by kernel_rfl) rfl (node_bind _ _ _ _ _ w)
  | recur =>
    obtain ⟨T0, p0, rfl⟩ := hi _ (List.mem_of_getElem? (i := 0) rfl)
    obtain ⟨T1, p1, rfl⟩ := hi _ (List.mem_of_getElem? (i := 1) rfl)
    exact nodeOf_mk _ _ 147 rfl (fun w => by kernel_rfl) (fun args w => by kernel_rfl) rfl (node_recur _ _ _ _ _ _ w)
  | cond =>
    obtain ⟨T0, p0, rfl⟩ := hi _ (List.mem_of_getElem? (i := 0) rfl)
    obtain ⟨T1, p1, rfl⟩ := hi _ (List.mem_of_getElem? (i := 1) rfl)
    obtain ⟨T2, p2, rfl⟩ := hi _ (List.mem_of_getElem? (i := 2) rfl)
    exact nodeOf_mk _ _ 150 rfl (fun w => by kernel_rfl) (fun args w => by kernel_rfl) rfl (node_cond _ _ _ _ _ _ w)
  | sign h =>
    obtain ⟨T0, p0, rfl⟩ := hi _ (List.mem_of_getElem? (i := 0) rfl)
    obtain ⟨T1, p1, rfl⟩ := hi _ (List.mem_of_getElem? (i := 1) rfl)
    exact nodeOf_mk _ _ 183 rfl (fun w => by kernel_rfl) (fun args w => by kernel_rfl) (by rcases h with rfl | rfl | rfl | rfl | rfl <;> rfl) (node_sign _ _ _ _ _ w)
  | pair =>
    obtain ⟨T0, p0, rfl⟩ := hi _ (List.mem_of_getElem? (i := 0) rfl)
    obtain ⟨T1, p1, rfl⟩ := hi _ (List.mem_of_getElem? (i := 1) rfl)
    exact nodeOf_mk _ _ 154 rfl (fun w => by kernel_rfl) (fun args w => by kernel_rfl) rfl (node_pair _ _ _ _ w)
  | take h =>
    obtain ⟨T0, p0, rfl⟩ := hi _ (List.mem_of_getElem? (i := 0) rfl)
    exact nodeOf_mk _ _ 158 rfl (fun w => by kernel_rfl) (fun args w => by kernel_rfl) (by rcases h with rfl | rfl | rfl <;> rfl) (node_take _ _ _ w)
  | cons =>
    obtain ⟨T0, p0, rfl⟩ := hi _ (List.mem_of_getElem? (i := 0) rfl)
    obtain ⟨T1, p1, rfl⟩ := hi _ (List.mem_of_getElem? (i := 1) rfl)
    exact nodeOf_mk _ _ 162 rfl (fun w => by kernel_rfl) (fun args w => by kernel_rfl) rfl (node_cons _ _ _ _ w)
  | case =>
    obtain ⟨T0, p0, rfl⟩ := hi _ (List.mem_of_getElem? (i := 0) rfl)
    obtain ⟨T1, p1, rfl⟩ := hi _ (List.mem_of_getElem? (i := 1) rfl)
    obtain ⟨T2, p2, rfl⟩ := hi _ (List.mem_of_getElem? (i := 2) rfl)
    exact nodeOf_mk _ _ 165 rfl (fun w => by kernel_rfl) (fun args w => by kernel_rfl) rfl (node_case _ _ _ _ _ _ _ _ w)
  | perform =>
    obtain ⟨T0, p0, rfl⟩ := hi _ (List.mem_of_getElem? (i := 0) rfl)
    exact nodeOf_mk _ _ 169 rfl (fun w => by kernel_rfl) (fun args w => by kernel_rfl) rfl (node_perform _ _ _ w)
  | handler h hs hl =>
    obtain ⟨T0, p0, rfl⟩ := hi _ (List.mem_of_getElem? (i := 0) rfl)
    obtain ⟨g0, o0, c0, rfl, -⟩ := hs
    exact nodeOf_mk _ _ 173 rfl (fun w => by kernel_rfl) (fun args w => by kernel_rfl) (by rcases h with rfl | rfl <;> rfl) (node_handler _ _ _ _ _ _ w)
  | ret =>
    obtain ⟨T0, p0, rfl⟩ := hi _ (List.mem_of_getElem? (i := 0) rfl)
    exact nodeOf_mk _ _ 176 rfl (fun w => by kernel_rfl) (fun args w => by kernel_rfl) rfl (node_ret _ _ _ w)
  | op =>
    obtain ⟨T0, p0, rfl⟩ := hi _ (List.mem_of_getElem? (i := 0) rfl)
    exact nodeOf_mk _ _ 179 rfl (fun w => by kernel_rfl) (fun args w => by kernel_rfl) rfl (node_op _ _ _ _ _ w)
end Go.Proofs.YtfmeldjkofoelaaGreatDoor
