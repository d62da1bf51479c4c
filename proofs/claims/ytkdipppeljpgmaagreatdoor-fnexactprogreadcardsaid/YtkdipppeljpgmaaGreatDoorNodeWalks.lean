/- Lists of nodes as they lie in memory: what the laws' own helpers do to them (their size, a copy, a comparison of two that are alike). -/
import Derived.Test.YtkdipppeljpgmaaGreatDoorRows
import Derived.WalkKit
import Derived.ProofKit
import Derived.Deep.OwnRows
import Derived.Deep.Slices
namespace Go.Proofs.YtkdipppeljpgmaaGreatDoor
open Go.RowKit

/-- A node as a plain value. -/
structure Nd where
  kind : Int
  num : Int
  a : ByteArray
  b : ByteArray
  c : ByteArray
  kids : Int

instance : Inhabited Nd := ⟨⟨0, 0, ByteArray.empty, ByteArray.empty, ByteArray.empty, 0⟩⟩

/-- What a node's cell holds. -/
def Nd.cell (n : Nd) : Nat → Value
  | 0 => .int .i64 n.kind
  | 1 => .int .i64 n.num
  | 2 => .string n.a
  | 3 => .string n.b
  | 4 => .string n.c
  | _ => .int .i64 n.kids

/-- These nodes lie one behind the other from there on. -/
def NodesAt (w : World) (b off : Nat) (ns : List Nd) : Prop :=
  ∀ k, k < ns.length → ∀ c, c < 6 → w.cell? ⟨b, off + k * 6 + c, none⟩ = some ((ns.getD k default).cell c)

/-- No text of a node is longer than texts can be. -/
def Short (ns : List Nd) : Prop := ∀ n ∈ ns, n.a.size ≤ maxLen ∧ n.b.size ≤ maxLen ∧ n.c.size ≤ maxLen

theorem NodesAt.below {w w' : World} {b off B : Nat} {ns : List Nd} (h : NodesAt w b off ns) (hb : Below B w w') (hB : b < B) : NodesAt w' b off ns :=
  fun k hk c hc => (hb.cell hB).trans (h k hk c hc)

theorem Short.at {ns : List Nd} (h : Short ns) {k : Nat} (hk : k < ns.length) : (ns.getD k default).a.size ≤ maxLen ∧ (ns.getD k default).b.size ≤ maxLen ∧ (ns.getD k default).c.size ≤ maxLen := by
  have e : ns.getD k default = ns[k] := by simp [List.getD, List.getElem?_eq_getElem hk]
  rw [e]
  exact h _ (List.getElem_mem hk)

theorem wrap_sub {x : Int} {s : Nat} (h0 : 0 ≤ x) (h1 : x ≤ 1048576) (hs : s ≤ maxLen) : wrap64 (x - s) = x - s := by
  unfold maxLen at hs
  unfold wrap64
  omega

set_option maxRecDepth 100000 in
theorem eqNode_calls (k n d : Int) (a b c : ByteArray) (w : World) :
    Calls Tryz.prog 50 #[.agg #[.int .i64 k, .int .i64 n, .string a, .string b, .string c, .int .i64 d], .agg #[.int .i64 k, .int .i64 n, .string a, .string b, .string c, .int .i64 d]] w fun e w' => e = .returned (.bool true) ∧ Below w.heap.size w w' := by
  go_enter Tryz.func50, Tryz.ntmps50
  go_wp2
  go_ret
  exact ⟨rfl, by repeat (first | exact Below.refl _ _ | refine Below.alloc ?_ (by first | (simp; done) | (simp; omega)) _)⟩

end Go.Proofs.YtkdipppeljpgmaaGreatDoor
