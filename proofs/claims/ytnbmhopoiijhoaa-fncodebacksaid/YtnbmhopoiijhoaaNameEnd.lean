/- The program's own TreePlain and TreeFree, by the namer's walk. -/
import Derived.Test.YtnbmhopoiijhoaaNameWalkB
import Derived.Test.YtnbmhopoiijhoaaFreePure
import Derived.Test.YtnbmhopoiijhoaaImplTree
import Derived.Sort.OwnSorted
namespace Go.Proofs.Ytnbmhopoiijhoaa
open Go.RowKit Go.Deep

theorem empty_of {s : ByteArray} (h : (s.toList == []) = true) : s = ⟨#[]⟩ := by
  have h1 : s.toList = [] := by simpa using h
  rw [ByteArray.toList_eq] at h1
  obtain ⟨d⟩ := s
  congr
  exact Array.toList_eq_nil_iff.1 h1

theorem fit_same {nm : Int} {i : Nat} {s : ByteArray} (h : fit nm i s = true) : (if (i : Int) + 1 ≤ nm then s else ⟨#[]⟩) = s := by
  unfold fit at h
  split at h
  · rw [if_pos (by omega)]
  · rw [if_neg (by omega), empty_of h]

theorem fit_size {nm : Int} {i : Nat} {s : ByteArray} (h : fit nm i s = true) : s.size ≤ 8 := by
  unfold fit at h
  split at h
  · simp only [nameOk, Bool.and_eq_true, decide_eq_true_eq] at h
    exact h.1.1.2
  · rw [empty_of h]
    exact Nat.zero_le _

/-- A node that is as its kind asks is what its form keeps of it. -/
theorem whole_of {m : Nd} (h : nodeOkZ m = true) : Whole m := by
  simp only [nodeOkZ, ownOk, namesOk, Bool.and_eq_true] at h
  obtain ⟨⟨-, ⟨ha, hb, hc⟩, -, hnum⟩, -⟩ := h
  have e1 := fit_same ha
  have e2 := fit_same hb
  have e3 := fit_same hc
  simp only [Int.natCast_zero, Int.zero_add] at e1
  rw [show ((1 : Nat) : Int) + 1 = 2 from rfl] at e2
  rw [show ((2 : Nat) : Int) + 1 = 3 from rfl] at e3
  have e4 : (if m.kind = 1 ∨ m.kind = 2 then m.num else 0) = m.num := by
    split
    · rfl
    · have h2 := of_decide_eq_true hnum
      rw [most_other (by omega) (by omega)] at h2
      omega
  have e5 := fit_size ha
  refine ⟨?_, by omega⟩
  unfold bareZ
  rw [e1, e2, e3, e4]

theorem own_base {W : World} {B B' : Nat} {e : TypeId} {sz : Nat} {v : Value} {n : Nat} {xs : List Value} (h : W.ownsRow B e sz v n xs) (hB : B' ≤ B) : W.ownsRow B' e sz v n xs := by
  obtain ⟨h0, ⟨rfl, h1⟩ | ⟨g, cap, cur, rfl, hb, hr⟩⟩ := h
  · exact ⟨h0, Or.inl ⟨rfl, h1⟩⟩
  · exact ⟨h0, Or.inr ⟨g, cap, cur, rfl, Nat.le_trans hB hb, hr⟩⟩

theorem room_start {c : Nat} (h : c ≤ 300) : Room (c + 1) ⟨[], [], 0⟩ := ⟨by simp; omega, by simp; omega, by simp; omega⟩

/-- What the walk over a whole tree finds. -/
def wholeW (n : Nd) (k : Fo) : Wst := walkW n k [] ⟨[], [], 0⟩

def plainOf (s : Wst) : List Nd := if s.free = [] then s.plain else []

def textsOf (ss : List ByteArray) : List Tx := ss.map fun s => s.data.toList

def freeOf (s : Wst) : List Tx := (textsOf s.free).foldl addL []

theorem strRow_texts (ss : List ByteArray) : strRow ss = (textsOf ss).map encStr := by
  unfold strRow textsOf
  rw [List.map_map]
  rfl

/-- Less of a row that was written. -/
theorem own_less {w : World} {base g cap q : Nat} {e : TypeId} {cur : Array Value} {ts rs : List Tx} (hbase : base ≤ g) (hb : w.heap[g]? = some (.cells cur e (0, 0))) (h1 : (ts ++ rs).length ≤ cap) (h2 : cap ≤ maxLen) (h3 : cur.size = cap * 1) :
    (Sort.putRow encStr (Sort.ahead w q) g 0 (ts ++ rs).toArray).ownsRow base e 1 (.slice (some ⟨g, 0, none⟩) ts.length cap) ts.length (ts.map encStr) := by
  have hh := heap_sorted (n := q) (os := #[]) (ts ++ rs).toArray hb
  rw [Sort.grow_empty] at hh
  rw [List.length_append] at h1
  refine ⟨by simp, .inr ⟨g, cap, _, rfl, hbase, hh, by omega, h2, by simp [Sort.putCells, h3], ?_⟩⟩
  have ht := take_putCells cur (ts ++ rs) (by rw [List.length_append]; omega)
  rw [Nat.mul_one]
  have e2 := congrArg (List.take ts.length) ht
  rw [List.take_take, List.length_append, Nat.min_eq_left (by omega), List.map_append, List.take_left' (by simp)] at e2
  exact e2

theorem compactUpTo_len (d : Array Tx) : ∀ m, (Lib.compactUpTo d m).length ≤ m := fun m => by
  unfold Lib.compactUpTo
  rw [List.length_map]
  exact Nat.le_trans (List.length_filter_le _ _) (by simp)

theorem compact_len (l : List Tx) : (Lib.compact l).length ≤ l.length := compactUpTo_len _ _

end Go.Proofs.Ytnbmhopoiijhoaa