/- The program's forms: what value stands for a node and its kids. -/
import Derived.Test.YtgiejnmphfgmgaaGreatDoorPureForest
import Derived.Test.YtgiejnmphfgmgaaGreatDoorPureTree
import Derived.Test.YtgiejnmphfgmgaaGreatDoorKept
import Derived.BigQuiet
namespace Go.Proofs.YtgiejnmphfgmgaaGreatDoor
open Go.RowKit

/-- A slice of these values, in a block that is not below 'B'. -/
def RowAt (B : Nat) (w : World) (sl : Value) (us : List Value) : Prop :=
  ∃ g o cap, sl = .slice (some ⟨g, o, none⟩) us.length cap ∧ B ≤ g ∧ g < w.heap.size ∧ ∀ j, j < us.length → w.cell? ⟨g, o + j, none⟩ = us[j]?

/-- This value is the form of a node whose kids' forms are these. -/
inductive Shape (B : Nat) (w : World) : Nd → List Value → Value → Prop
  | int {num : Int} {a b c : ByteArray} {kids : Int} : Shape B w ⟨1, num, a, b, c, kids⟩ [] (.iface 190 (.agg #[.int .i64 num]))
  | bool {num : Int} {a b c : ByteArray} {kids : Int} : Shape B w ⟨2, num, a, b, c, kids⟩ [] (.iface 191 (.agg #[.int .i64 num]))
  | unit {num : Int} {a b c : ByteArray} {kids : Int} : Shape B w ⟨3, num, a, b, c, kids⟩ [] (.iface 193 (.agg #[]))
  | nil {num : Int} {a b c : ByteArray} {kids : Int} : Shape B w ⟨4, num, a, b, c, kids⟩ [] (.iface 194 (.agg #[]))
  | var {num : Int} {a b c : ByteArray} {kids : Int} : Shape B w ⟨5, num, a, b, c, kids⟩ [] (.iface 101 (.agg #[.string a]))
  | fn {num : Int} {a b c : ByteArray} {kids : Int} {u : Value} : Shape B w ⟨6, num, a, b, c, kids⟩ [u] (.iface 107 (.agg #[.string a, u]))
  | app {num : Int} {a b c : ByteArray} {kids : Int} {u v : Value} : Shape B w ⟨7, num, a, b, c, kids⟩ [u, v] (.iface 196 (.agg #[u, v]))
  | bind {num : Int} {a b c : ByteArray} {kids : Int} {u v : Value} : Shape B w ⟨8, num, a, b, c, kids⟩ [u, v] (.iface 115 (.agg #[.string a, u, v]))
  | recur {num : Int} {a b c : ByteArray} {kids : Int} {u v : Value} : Shape B w ⟨9, num, a, b, c, kids⟩ [u, v] (.iface 113 (.agg #[.string a, .string b, u, v]))
  | cond {num : Int} {a b c : ByteArray} {kids : Int} {u v x : Value} : Shape B w ⟨10, num, a, b, c, kids⟩ [u, v, x] (.iface 117 (.agg #[u, v, x]))
  | sign {k num : Int} {a b c : ByteArray} {kids : Int} {u v : Value} (h : k = 11 ∨ k = 12 ∨ k = 13 ∨ k = 14 ∨ k = 15) : Shape B w ⟨k, num, a, b, c, kids⟩ [u, v] (.iface 206 (.agg #[.int .i64 k, u, v]))
  | pair {num : Int} {a b c : ByteArray} {kids : Int} {u v : Value} : Shape B w ⟨16, num, a, b, c, kids⟩ [u, v] (.iface 198 (.agg #[u, v]))
  | take {k num : Int} {a b c : ByteArray} {kids : Int} {u : Value} (h : k = 17 ∨ k = 18 ∨ k = 21) : Shape B w ⟨k, num, a, b, c, kids⟩ [u] (.iface 200 (.agg #[.int .i64 k, u]))
  | cons {num : Int} {a b c : ByteArray} {kids : Int} {u v : Value} : Shape B w ⟨19, num, a, b, c, kids⟩ [u, v] (.iface 202 (.agg #[u, v]))
  | case {num : Int} {a b c : ByteArray} {kids : Int} {u v x : Value} : Shape B w ⟨20, num, a, b, c, kids⟩ [u, v, x] (.iface 120 (.agg #[u, v, .string a, .string b, x]))
  | perform {num : Int} {a b c : ByteArray} {kids : Int} {u : Value} : Shape B w ⟨22, num, a, b, c, kids⟩ [u] (.iface 204 (.agg #[.string a, u]))
  | handler {k num : Int} {a b c : ByteArray} {kids : Int} {u sl : Value} {us : List Value} (h : k = 23 ∨ k = 24) (hs : RowAt B w sl us) (hl : us.length ≤ 5) : Shape B w ⟨k, num, a, b, c, kids⟩ (u :: us) (.iface 124 (.agg #[.int .i64 k, u, sl]))
  | ret {num : Int} {a b c : ByteArray} {kids : Int} {u : Value} : Shape B w ⟨25, num, a, b, c, kids⟩ [u] (.iface 186 (.agg #[.string a, u]))
  | op {num : Int} {a b c : ByteArray} {kids : Int} {u : Value} : Shape B w ⟨26, num, a, b, c, kids⟩ [u] (.iface 188 (.agg #[.string a, .string b, .string c, u]))

/-- These values are the forms of a forest's trees. -/
def Forms (B : Nat) (w : World) : Fo → List Value → Prop
  | .none, vs => vs = []
  | .tree n k r, vs => ∃ v us rest, vs = v :: rest ∧ Forms B w k us ∧ Shape B w n us v ∧ Forms B w r rest

theorem RowAt.kept {B B' : Nat} {w w' : World} {sl : Value} {us : List Value} (h : RowAt B w sl us) (hB : B' ≤ B) (hs : w.heap.size ≤ w'.heap.size) (hc : ∀ a : Addr, B ≤ a.block → a.block < w.heap.size → w'.cell? a = w.cell? a) : RowAt B' w' sl us := by
  obtain ⟨g, o, cap, e, h1, h2, h3⟩ := h
  refine ⟨g, o, cap, e, Nat.le_trans hB h1, Nat.lt_of_lt_of_le h2 hs, fun j hj => ?_⟩
  rw [hc ⟨g, o + j, none⟩ h1 h2]
  exact h3 j hj

theorem Shape.kept {B B' : Nat} {w w' : World} {n : Nd} {us : List Value} {v : Value} (h : Shape B w n us v) (hB : B' ≤ B) (hs : w.heap.size ≤ w'.heap.size) (hc : ∀ a : Addr, B ≤ a.block → a.block < w.heap.size → w'.cell? a = w.cell? a) : Shape B' w' n us v := by
  cases h with
  | int => exact .int
  | bool => exact .bool
  | unit => exact .unit
  | nil => exact .nil
  | var => exact .var
  | fn => exact .fn
  | app => exact .app
  | bind => exact .bind
  | recur => exact .recur
  | cond => exact .cond
  | sign h => exact .sign h
  | pair => exact .pair
  | take h => exact .take h
  | cons => exact .cons
  | case => exact .case
  | perform => exact .perform
  | handler h h1 h2 => exact .handler h (h1.kept hB hs hc) h2
  | ret => exact .ret
  | op => exact .op

theorem Forms.kept {B B' : Nat} {w w' : World} (hB : B' ≤ B) (hs : w.heap.size ≤ w'.heap.size) (hc : ∀ a : Addr, B ≤ a.block → a.block < w.heap.size → w'.cell? a = w.cell? a) : ∀ {f : Fo} {vs : List Value}, Forms B w f vs → Forms B' w' f vs
  | .none, _, h => h
  | .tree _ _ _, _, ⟨v, us, rest, e, h1, h2, h3⟩ => ⟨v, us, rest, e, Forms.kept hB hs hc h1, h2.kept hB hs hc, Forms.kept hB hs hc h3⟩

theorem Forms.below {B : Nat} {w w' : World} {f : Fo} {vs : List Value} (h : Forms B w f vs) (hb : Below w.heap.size w w') : Forms B w' f vs :=
  Forms.kept (Nat.le_refl _) hb.size (fun _ _ ha => hb.cell ha) h

theorem Shape.below {B : Nat} {w w' : World} {n : Nd} {us : List Value} {v : Value} (h : Shape B w n us v) (hb : Below w.heap.size w w') : Shape B w' n us v :=
  h.kept (Nat.le_refl _) hb.size (fun _ _ ha => hb.cell ha)

theorem Forms.length {B : Nat} {w : World} : ∀ {f : Fo} {vs : List Value}, Forms B w f vs → vs.length = f.count
  | .none, _, h => by rw [show _ = [] from h]; rfl
  | .tree _ _ _, _, ⟨_, _, _, e, _, _, h3⟩ => by rw [e, List.length_cons, Forms.length h3]; rfl

/-- A node has as many kids as its kind asks. -/
def Fits (n : Nd) (m : Nat) : Prop := leastZ n.kind ≤ m ∧ (m : Int) ≤ greatZ n.kind ∧ 1 ≤ n.kind ∧ n.kind ≤ 26

theorem below_draws (B : Nat) (w : World) (n : Nat) : Below B w (w.drewN n) := ⟨rfl, rfl, rfl, Nat.le_refl _, fun _ _ => rfl⟩

theorem len0 {us : List Value} (h : us.length = 0) : us = [] := List.eq_nil_of_length_eq_zero h

theorem len1 {us : List Value} (h : us.length = 1) : ∃ u, us = [u] := by
  match us, h with
  | [u], _ => exact ⟨u, rfl⟩

theorem len2 {us : List Value} (h : us.length = 2) : ∃ u v, us = [u, v] := by
  match us, h with
  | [u, v], _ => exact ⟨u, v, rfl⟩

theorem len3 {us : List Value} (h : us.length = 3) : ∃ u v x, us = [u, v, x] := by
  match us, h with
  | [u, v, x], _ => exact ⟨u, v, x, rfl⟩
end Go.Proofs.YtgiejnmphfgmgaaGreatDoor
