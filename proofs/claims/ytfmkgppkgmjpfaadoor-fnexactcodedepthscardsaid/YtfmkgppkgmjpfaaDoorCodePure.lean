/- The bytes of code, as plain numbers. -/
import Derived.Test.YtfmkgppkgmjpfaaDoorInsWalks
import Derived.Test.YtfmkgppkgmjpfaaDoorInsHelp
namespace Go.Proofs.YtfmkgppkgmjpfaaDoor
open Go.RowKit

/-- A number in four bytes, the highest first. -/
def four (n : Int) : List Int := [n / 16777216 % 256, n / 65536 % 256, n / 256 % 256, n % 256]

def In.nums (i : In) : List Int := [i.a, i.b, i.c].take (manyZ i.op).toNat

def In.bytes (i : In) : List Int := (i.op % 256) :: i.nums.flatMap four

def In.ok (i : In) : Bool := insOkZ i.op i.a i.b i.c

def headBytes : List Int := [104, 114, 49]

def codeOkZ (cs : List In) : Bool := decide (cs.length ≤ 1500) && cs.all In.ok

def codeBytesZ (cs : List In) : List Int := headBytes ++ cs.flatMap In.bytes

theorem four_length (n : Int) : (four n).length = 4 := rfl

theorem nums_length (i : In) : i.nums.length ≤ 3 := by
  unfold In.nums
  simp
  omega

theorem flat_length : ∀ ns : List Int, (ns.flatMap four).length = ns.length * 4
  | [] => rfl
  | n :: r => by rw [List.flatMap_cons, List.length_append, flat_length r, List.length_cons, four_length]; omega

theorem bytes_length (i : In) : i.bytes.length ≤ 13 := by
  have := nums_length i
  rw [In.bytes, List.length_cons, flat_length]
  omega

theorem code_length : ∀ cs : List In, (cs.flatMap In.bytes).length ≤ cs.length * 13
  | [] => by simp
  | i :: r => by
    have := bytes_length i
    have := code_length r
    rw [List.flatMap_cons, List.length_append, List.length_cons]
    omega

/-- These bytes lie in a row of the slice's own, from block B on. -/
def OwnsB (B : Nat) (w : World) (v : Value) (bs : List Int) : Prop := w.ownsRow B 5 1 v bs.length (bs.map (fun b => .int .u8 b))

theorem OwnsB.more {B k : Nat} {w : World} {v : Value} {bs ns : List Int} {news : List Value} (h : w.ownsRow B 5 1 v (bs.length + k) (bs.map (fun b => .int .u8 b) ++ news)) (e : news = ns.map (fun b => .int .u8 b)) (hk : k = ns.length) : OwnsB B w v (bs ++ ns) := by
  subst e hk
  unfold OwnsB
  rw [List.length_append, List.map_append]
  exact h

theorem OwnsB.mono {B B' : Nat} {w : World} {v : Value} {bs : List Int} (h : OwnsB B w v bs) (hB : B' ≤ B) : OwnsB B' w v bs := by
  refine ⟨h.1, h.2.imp id ?_⟩
  rintro ⟨g, cap, cur, e, hg, r⟩
  exact ⟨g, cap, cur, e, Nat.le_trans hB hg, r⟩

theorem owns_ne {w : World} {base b : Nat} {e t : TypeId} {size : Nat} {v : Value} {n : Nat} {xs : List Value} {c : Array Value} (h : w.ownsRow base e size v n xs) (hb : w.heap[b]? = some (.cells c t)) (hne : e ≠ t) : some b ≠ v.ownBlock := by
  intro hv
  rcases h.2 with ⟨rfl, hn⟩ | ⟨g, cap, cur, rfl, hB, hg, _⟩
  · cases hv
  · simp [Value.ownBlock] at hv
    subst hv
    rw [hb] at hg
    simp at hg
    exact hne hg.2.symm

theorem info_byte : (Tryd.prog.info? 5).map (fun i => (i.zero, i.size, i.bytes)) = some (some (.int .u8 0), 1, 1) := by kernel_rfl

theorem cell_oneC (w : World) (n : Nat) (hn : n = w.heap.size) (a : Value) (t : TypeId) : ∀ j u, [a][j]? = some u → (w.alloc (.cells #[a] t)).cell? ((⟨n, 0, none⟩ : Addr).add j) = some u := by
  subst hn
  intro j u hj
  match j, hj with
  | 0, hj => simp at hj; subst hj; simp [Addr.add]
  | j + 1, hj => simp at hj

theorem cell_four_new (w : World) (n : Nat) (hn : n = w.heap.size) (a b c d : Value) (t : TypeId) : ∀ j u, [a, b, c, d][j]? = some u → (w.alloc (.cells #[a, b, c, d] t)).cell? ((⟨n, 0, none⟩ : Addr).add j) = some u := by
  subst hn
  intro j u hj
  match j, hj with
  | 0, hj => simp at hj; subst hj; simp [Addr.add]
  | 1, hj => simp at hj; subst hj; simp [Addr.add]
  | 2, hj => simp at hj; subst hj; simp [Addr.add]
  | 3, hj => simp at hj; subst hj; simp [Addr.add]
  | j + 4, hj => simp at hj

theorem head_owns (w : World) : OwnsB w.heap.size (w.alloc (.cells #[.int .u8 104, .int .u8 114, .int .u8 49] 5)) (.slice (some ⟨w.heap.size, 0, none⟩) 3 3) headBytes := by
  refine ⟨rfl, Or.inr ⟨w.heap.size, 3, _, rfl, Nat.le_refl _, (MapKept.heap_alloc w _).1, Nat.le_refl _, by decide, rfl, rfl⟩⟩

theorem ins_drop {cs : List In} {k : Nat} (hk : k < cs.length) : cs.take (k + 1) = cs.take k ++ [cs.getD k default] := by
  rw [List.take_succ_eq_append_getElem hk]
  simp [List.getD, List.getElem?_eq_getElem hk]
end Go.Proofs.YtfmkgppkgmjpfaaDoor
