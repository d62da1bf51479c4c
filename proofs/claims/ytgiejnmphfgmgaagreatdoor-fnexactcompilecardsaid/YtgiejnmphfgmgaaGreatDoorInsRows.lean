/- Lists of instructions as they lie in memory: what the laws' own helpers do to them. -/
import Derived.Test.YtgiejnmphfgmgaaGreatDoorOwnRow
namespace Go.Proofs.YtgiejnmphfgmgaaGreatDoor
open Go.RowKit Go.Deep Go.ChangeShapes Go.WideShapes

/-- An instruction as a plain value. -/
structure In where
  op : Int
  a : Int
  b : Int
  c : Int

instance : Inhabited In := ⟨⟨0, 0, 0, 0⟩⟩

/-- What an instruction's cell holds. -/
def In.cell (n : In) : Nat → Value
  | 0 => .int .i64 n.op
  | 1 => .int .i64 n.a
  | 2 => .int .i64 n.b
  | _ => .int .i64 n.c

def In.val (n : In) : Value := .agg #[.int .i64 n.op, .int .i64 n.a, .int .i64 n.b, .int .i64 n.c]

/-- These instructions lie one behind the other from there on. -/
def InsAt (w : World) (b off : Nat) (ns : List In) : Prop :=
  ∀ k, k < ns.length → ∀ c, c < 4 → w.cell? ⟨b, off + k * 4 + c, none⟩ = some ((ns.getD k default).cell c)

theorem InsAt.below {w w' : World} {b off B : Nat} {ns : List In} (h : InsAt w b off ns) (hb : Below B w w') (hB : b < B) : InsAt w' b off ns :=
  fun k hk c hc => (hb.cell hB).trans (h k hk c hc)

/-- This value is a slice of these instructions. -/
def InsSlice (w : World) (v : Value) (ns : List In) : Prop :=
  ∃ a cap, v = .slice a ns.length cap ∧ (ns = [] ∨ ∃ b off, a = some ⟨b, off, none⟩ ∧ b < w.heap.size ∧ InsAt w b off ns)

theorem InsSlice.below {w w' : World} {v : Value} {ns : List In} (h : InsSlice w v ns) (hb : Below w.heap.size w w') : InsSlice w' v ns := by
  obtain ⟨a, cap, rfl, h⟩ := h
  refine ⟨a, cap, rfl, h.imp id ?_⟩
  rintro ⟨b, off, rfl, hlt, hn⟩
  exact ⟨b, off, rfl, Nat.lt_of_lt_of_le hlt hb.size, hn.below hb hlt⟩

section
variable {H : Type} {enc : TypeId × Value → H} {W : World} {sp : Nat → Bool} {held : Bool}

end

theorem wrap_less {x : Int} {s : Nat} (h0 : 0 ≤ x) (h1 : x ≤ 1048576) (hs : s ≤ maxLen) : wrap64 (x - s) = x - s := by
  unfold maxLen at hs
  unfold wrap64
  omega

theorem wrap_one {k len : Nat} (hk : k < len) (hm : len ≤ 1048576) : wrap64 ((k : Int) + 1) = ((k + 1 : Nat) : Int) := by
  unfold wrap64
  omega

set_option maxRecDepth 100000 in
theorem eqIns_calls (op a b c : Int) (w : World) :
    Calls Tryz.prog 27 #[.agg #[.int .i64 op, .int .i64 a, .int .i64 b, .int .i64 c], .agg #[.int .i64 op, .int .i64 a, .int .i64 b, .int .i64 c]] w fun e w' => e = .returned (.bool true) ∧ Below w.heap.size w w' := by
  go_enter Tryz.func27, Tryz.ntmps27
  go_wp2
  go_ret
  exact ⟨rfl, by repeat (first | exact Below.refl _ _ | refine Below.alloc ?_ (by first | (simp; done) | (simp; omega)) _)⟩
end Go.Proofs.YtgiejnmphfgmgaaGreatDoor
