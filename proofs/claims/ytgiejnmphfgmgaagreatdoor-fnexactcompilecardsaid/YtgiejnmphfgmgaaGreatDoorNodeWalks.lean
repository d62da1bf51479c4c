/- Lists of nodes as they lie in memory: what the laws' own helpers do to them (their size, a copy, a comparison of two that are alike). -/
import Derived.Test.YtgiejnmphfgmgaaGreatDoorRows
import Derived.WalkKit
import Derived.ProofKit
import Derived.Deep.OwnRows
import Derived.Deep.Slices
namespace Go.Proofs.YtgiejnmphfgmgaaGreatDoor
open Go.RowKit

/-- A node as a plain value. -/
structure Nd where
  kind : Int
  num : Int
  a : ByteArray
  b : ByteArray
  c : ByteArray
  kids : Int

instance : Inhabited Nd := ⟨⟨0, 0, ByteArray.empty, ByteArray.empty, ByteArray.empty, 0⟩⟩

/-- What a node's cell holds. -/
def Nd.cell (n : Nd) : Nat → Value
  | 0 => .int .i64 n.kind
  | 1 => .int .i64 n.num
  | 2 => .string n.a
  | 3 => .string n.b
  | 4 => .string n.c
  | _ => .int .i64 n.kids

/-- These nodes lie one behind the other from there on. -/
def NodesAt (w : World) (b off : Nat) (ns : List Nd) : Prop :=
  ∀ k, k < ns.length → ∀ c, c < 6 → w.cell? ⟨b, off + k * 6 + c, none⟩ = some ((ns.getD k default).cell c)

/-- No text of a node is longer than texts can be. -/
def Short (ns : List Nd) : Prop := ∀ n ∈ ns, n.a.size ≤ maxLen ∧ n.b.size ≤ maxLen ∧ n.c.size ≤ maxLen

theorem NodesAt.below {w w' : World} {b off B : Nat} {ns : List Nd} (h : NodesAt w b off ns) (hb : Below B w w') (hB : b < B) : NodesAt w' b off ns :=
  fun k hk c hc => (hb.cell hB).trans (h k hk c hc)

theorem Short.at {ns : List Nd} (h : Short ns) {k : Nat} (hk : k < ns.length) : (ns.getD k default).a.size ≤ maxLen ∧ (ns.getD k default).b.size ≤ maxLen ∧ (ns.getD k default).c.size ≤ maxLen := by
  have e : ns.getD k default = ns[k] := by simp [List.getD, List.getElem?_eq_getElem hk]
  rw [e]
  exact h _ (List.getElem_mem hk)

theorem wrap_sub {x : Int} {s : Nat} (h0 : 0 ≤ x) (h1 : x ≤ 1048576) (hs : s ≤ maxLen) : wrap64 (x - s) = x - s := by
  unfold maxLen at hs
  unfold wrap64
  omega

set_option maxRecDepth 100000 in
theorem szNode_calls (k n d : Int) (a b c : ByteArray) (left : Int) (w : World) (h0 : 0 ≤ left) (h1 : left ≤ 1048576) (ha : a.size ≤ maxLen) (hb : b.size ≤ maxLen) (hc : c.size ≤ maxLen) :
    Calls Tryz.prog 33 #[.agg #[.int .i64 k, .int .i64 n, .string a, .string b, .string c, .int .i64 d], .int .i64 left] w fun e w' => (∃ r : Int, e = .returned (.int .i64 r) ∧ -1 ≤ r ∧ r ≤ left) ∧ Below w.heap.size w w' := by
  have e1 := wrap_sub h0 h1 ha
  have H1 : Hid (wrap64 (left - a.size) = left - a.size) := e1
  clear e1
  have ha' : Hid (a.size ≤ maxLen) := ha
  have hb' : Hid (b.size ≤ maxLen) := hb
  have hc' : Hid (c.size ≤ maxLen) := hc
  clear ha hb hc
  go_enter Tryz.func33, Tryz.ntmps33
  go_wp2
  · go_ret
    exact ⟨⟨_, rfl, by decide, by omega⟩, by repeat (first | exact Below.refl _ _ | refine Below.alloc ?_ (by first | (simp; done) | (simp; omega)) _)⟩
  · go_ret
    exact ⟨⟨_, rfl, by decide, by omega⟩, by repeat (first | exact Below.refl _ _ | refine Below.alloc ?_ (by first | (simp; done) | (simp; omega)) _)⟩
  · go_ret
    exact ⟨⟨_, rfl, by decide, by omega⟩, by repeat (first | exact Below.refl _ _ | refine Below.alloc ?_ (by first | (simp; done) | (simp; omega)) _)⟩
  · rename_i g1 g2 g3
    go_ret
    refine ⟨⟨_, rfl, by omega, ?_⟩, by repeat (first | exact Below.refl _ _ | refine Below.alloc ?_ (by first | (simp; done) | (simp; omega)) _)⟩
    rw [H1.out] at g1 g2 g3 ⊢
    rw [wrap_sub g1 (by omega) hb'.out] at g2 g3 ⊢
    rw [wrap_sub g2 (by omega) hc'.out] at g3 ⊢
    omega

set_option maxRecDepth 100000 in
theorem toNode_calls (k n d : Int) (a b c : ByteArray) (w : World) :
    Calls Tryz.prog 46 #[.agg #[.int .i64 k, .int .i64 n, .string a, .string b, .string c, .int .i64 d]] w fun e w' => e = .returned (.agg #[.int .i64 k, .int .i64 n, .string a, .string b, .string c, .int .i64 d]) ∧ Below w.heap.size w w' := by
  go_enter Tryz.func46, Tryz.ntmps46
  go_wp2
  refine bodyPost_ret (v := .agg #[.int .i64 k, .int .i64 n, .string a, .string b, .string c, .int .i64 d]) (by simp [results, Tryz.results46, go_sem]) rfl ⟨rfl, ?_⟩
  repeat (first | exact Below.refl _ _ | refine Below.alloc ?_ (by first | (simp; done) | (simp; omega)) _)

set_option maxRecDepth 100000 in
theorem eqNode_calls (k n d : Int) (a b c : ByteArray) (w : World) :
    Calls Tryz.prog 66 #[.agg #[.int .i64 k, .int .i64 n, .string a, .string b, .string c, .int .i64 d], .agg #[.int .i64 k, .int .i64 n, .string a, .string b, .string c, .int .i64 d]] w fun e w' => e = .returned (.bool true) ∧ Below w.heap.size w w' := by
  go_enter Tryz.func66, Tryz.ntmps66
  go_wp2
  go_ret
  exact ⟨rfl, by repeat (first | exact Below.refl _ _ | refine Below.alloc ?_ (by first | (simp; done) | (simp; omega)) _)⟩

set_option maxRecDepth 100000 in
theorem szNodeS_calls (b off len cap : Nat) (ns : List Nd) (left : Int) (w : World) (hb : b < w.heap.size) (hn : NodesAt w b off ns) (hs : Short ns) (hl : len ≤ ns.length) (hm : len ≤ maxLen) (h0 : 0 ≤ left) (h1 : left ≤ 1048576) :
    Calls Tryz.prog 14 #[.slice (some ⟨b, off, none⟩) len cap, .int .i64 left] w fun e w' => (∃ r : Int, e = .returned (.int .i64 r) ∧ r ≤ left ∧ (r < 0 ∨ len ≤ 1048576)) ∧ Below w.heap.size w w' := by
  have e1 := wrap_sub h0 h1 hm
  by_cases hbig : (left - (len : Int) < 0)
  · have H1 : (wrap64 (left - (len : Int)) < 0) := by rw [e1]; exact hbig
    clear e1
    go_enter Tryz.func14, Tryz.ntmps14
    go_wp2
    go_ret
    exact ⟨⟨_, rfl, by omega, Or.inl (by omega)⟩, Below.refl _ _⟩
  have hlen : len ≤ 1048576 := by omega
  clear e1
  go_enter Tryz.func14, Tryz.ntmps14
  go_wp2
  go_loopw [1, 5] (fun l i wr => ∃ k : Nat, k ≤ len ∧ i = .int .i64 k ∧ Below w.heap.size w wr ∧ ∃ q : Int, l = .int .i64 q ∧ 0 ≤ q ∧ q ≤ left) (fun _ i _ => len - (intOf i).toNat)
  case atStart => exact ⟨0, Nat.zero_le _, rfl, Below.refl _ _, _, rfl, by omega, by omega⟩
  case round =>
    obtain ⟨k, hk, rfl, hnx, q, rfl, hq0, hq1⟩ := hrel
    by_cases hkl : k < len
    · have hcell := fun c (hc : c < 6) => (hnx.cell (p := ⟨b, off + k * 6 + c, none⟩) hb).trans (hn k (by omega) c hc)
      have hsh := hs.at (k := k) (by omega)
      obtain ⟨n, hnd⟩ : ∃ n, ns.getD k default = n := ⟨_, rfl⟩
      rw [hnd] at hcell hsh
      have c0 := hcell 0 (by omega)
      have c1 := hcell 1 (by omega)
      have c2 := hcell 2 (by omega)
      have c3 := hcell 3 (by omega)
      have c4 := hcell 4 (by omega)
      have c5 := hcell 5 (by omega)
      simp only [Nd.cell, Nat.add_zero] at c0 c1 c2 c3 c4 c5
      clear hcell hnd hn hs
      go_wp2_with fail
      refine (szNode_calls _ _ _ _ _ _ q _ hq0 (by omega) hsh.1 hsh.2.1 hsh.2.2).mono ?_
      rintro e w1 ⟨⟨r, rfl, hr0, hr1⟩, hb1⟩
      clear c0 c1 c2 c3 c4 c5 hsh
      go_wp2_with fail
      · go_ret
        exact ⟨⟨_, rfl, by omega, Or.inl (by omega)⟩, hnx.trans (hb1.mono hnx.size)⟩
      · go_roundw
        case rel => exact ⟨k + 1, by omega, by simp, hnx.trans (hb1.mono hnx.size), r, rfl, by omega, by omega⟩
        case measure => simp [intOf]; omega
    · go_wp2_with fail
      go_ret
      exact ⟨⟨_, rfl, hq1, Or.inr hlen⟩, hnx⟩

end Go.Proofs.YtgiejnmphfgmgaaGreatDoor
