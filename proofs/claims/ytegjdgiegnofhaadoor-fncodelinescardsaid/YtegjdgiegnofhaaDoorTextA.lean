/- Whether an instruction is one: both sides answer by one and the same table of numbers. -/
import Derived.Test.YtegjdgiegnofhaaDoorRows
import Derived.WalkKit
import Derived.ProofKit
import Derived.Deep.OwnRows
import Derived.BigQuiet
import Derived.Test.YtegjdgiegnofhaaDoorCompA
import Derived.Lib.ItoaLen
import Derived.Lib.ItoaNum
import Derived.Deep.RegionHeld3
namespace Go.Proofs.YtegjdgiegnofhaaDoor
open Go.RowKit

/-- How many numbers an instruction has; -1: it is none. -/
def manyZ (op : Int) : Int :=
  if op = 0 ∨ op = 3 ∨ op = 4 ∨ op = 8 ∨ op = 9 ∨ op = 12 ∨ op = 13 ∨ op = 15 ∨ op = 16 ∨ op = 17 ∨ op = 18 ∨ op = 20 ∨ op = 23 then 0
  else if op = 1 ∨ op = 2 ∨ op = 5 ∨ op = 6 ∨ op = 7 ∨ op = 10 ∨ op = 11 ∨ op = 14 ∨ op = 19 ∨ op = 22 then 1
  else if op = 24 ∨ op = 25 then 2
  else if op = 21 then 3
  else -1

theorem ops_cases (op : Int) : (op < 0 ∨ 25 < op) ∨ op = 0 ∨ op = 1 ∨ op = 2 ∨ op = 3 ∨ op = 4 ∨ op = 5 ∨ op = 6 ∨ op = 7 ∨ op = 8 ∨ op = 9 ∨ op = 10 ∨ op = 11 ∨ op = 12 ∨ op = 13 ∨ op = 14 ∨ op = 15 ∨ op = 16 ∨ op = 17 ∨ op = 18 ∨ op = 19 ∨ op = 20 ∨ op = 21 ∨ op = 22 ∨ op = 23 ∨ op = 24 ∨ op = 25 := by omega

set_option maxRecDepth 100000 in
theorem l5Many_calls (op : Int) (w : World) :
    Calls Tryd.prog 17 #[.int .i64 op] w fun e w' => e = .returned (.int .i64 (manyZ op)) ∧ w = w' := by
  rcases ops_cases op with h | h | h | h | h | h | h | h | h | h | h | h | h | h | h | h | h | h | h | h | h | h | h | h | h | h | h
  case inl =>
    rw [show manyZ op = -1 by unfold manyZ; rw [if_neg (by omega), if_neg (by omega), if_neg (by omega), if_neg (by omega)]]
    have n0 : op ≠ 0 := by omega
    have n1 : op ≠ 1 := by omega
    have n2 : op ≠ 2 := by omega
    have n3 : op ≠ 3 := by omega
    have n4 : op ≠ 4 := by omega
    have n5 : op ≠ 5 := by omega
    have n6 : op ≠ 6 := by omega
    have n7 : op ≠ 7 := by omega
    have n8 : op ≠ 8 := by omega
    have n9 : op ≠ 9 := by omega
    have n10 : op ≠ 10 := by omega
    have n11 : op ≠ 11 := by omega
    have n12 : op ≠ 12 := by omega
    have n13 : op ≠ 13 := by omega
    have n14 : op ≠ 14 := by omega
    have n15 : op ≠ 15 := by omega
    have n16 : op ≠ 16 := by omega
    have n17 : op ≠ 17 := by omega
    have n18 : op ≠ 18 := by omega
    have n19 : op ≠ 19 := by omega
    have n20 : op ≠ 20 := by omega
    have n21 : op ≠ 21 := by omega
    have n22 : op ≠ 22 := by omega
    have n23 : op ≠ 23 := by omega
    have n24 : op ≠ 24 := by omega
    have n25 : op ≠ 25 := by omega
    clear h
    go_enter Tryd.func17, Tryd.ntmps17
    go_wp2
    go_ret
    exact ⟨rfl, rfl⟩
  all_goals
    subst h
    go_enter Tryd.func17, Tryd.ntmps17
    go_wp2
    go_ret
    exact ⟨rfl, rfl⟩

/-- Whether an instruction with these numbers is one. -/
def insOkZ (op a b c : Int) : Bool :=
  if manyZ op < 0 ∨ (manyZ op < 1 ∧ a ≠ 0) ∨ (manyZ op < 2 ∧ b ≠ 0) ∨ (manyZ op < 3 ∧ c ≠ 0) then false
  else if op = 1 then decide (-2147483648 ≤ a ∧ a ≤ 2147483647)
  else if op = 2 then decide (a = 0 ∨ a = 1)
  else if op = 14 then decide (11 ≤ a ∧ a ≤ 15)
  else if op = 21 ∧ b ≠ 0 ∧ b ≠ 1 then false
  else decide (0 ≤ a ∧ a ≤ 65535 ∧ 0 ≤ b ∧ b ≤ 65535 ∧ 0 ≤ c ∧ c ≤ 65535)

end Go.Proofs.YtegjdgiegnofhaaDoor

/- A copy of a list of instructions; two that hold the same compare as alike; marks that are put into one are held by it. -/
namespace Go.Proofs.YtegjdgiegnofhaaDoor
open Go.RowKit

/-- The cells of a list of instructions, told by place. -/
def insCells (ns : List In) (i : Nat) : Value := (ns.getD (i / 4) default).cell (i % 4)

theorem insCells_at (ns : List In) (k c : Nat) (hc : c < 4) : insCells ns (k * 4 + c) = (ns.getD k default).cell c := by
  unfold insCells
  rw [show (k * 4 + c) / 4 = k by omega, show (k * 4 + c) % 4 = c by omega]

theorem CellRow.insAt {w : World} {g : Nat} {ns : List In} (h : CellRow 28 w g (ns.length * 4) (insCells ns)) : InsAt w g 0 ns := by
  intro k hk c hc
  have := h.cell (i := k * 4 + c) (by omega)
  rw [insCells_at ns k c hc] at this
  simpa using this

theorem info_ins : (Tryd.prog.info? 28).map (fun i => (i.zero, i.size, i.bytes)) = some (some (.agg #[.int .i64 0, .int .i64 0, .int .i64 0, .int .i64 0]), 4, 32) := by kernel_rfl

theorem made_ins (len : Nat) (hl : len ≤ 1048576) (w : World) : ∃ c : Array Value, c.size = len * 4 ∧
    (Instr.makeSlice 23 (.int .i64 (len : Int)) (.int .i64 (len : Int))).run Tryd.prog w = .ok (.slice (some ⟨w.heap.size, 0, none⟩) len len) (w.alloc (.cells c 28)) := by
  obtain ⟨i0, hi, hz0, hz1, hz2⟩ := info_parts info_ins
  have h := run_make (P := Tryd.prog) w 23 28 i0 _ Tryd.underlying23 hi hz0 .i64 .i64 len len (by omega) (Int.le_refl _) (by rw [hz2]; omega) (by omega)
  rw [hz1] at h
  simp only [Int.toNat_natCast] at h
  exact ⟨_, size_madeCells _ _, h⟩

/-- One instruction more is stored. -/
theorem ins_step {w1 : World} {B t N k : Nat} {f : Nat → Value} {n : Nat} (a b c d : Value) (h : Rw w1 B t N f n) :
    ∃ f', Rw ((((w1.setCell ⟨B, k * 4, none⟩ a).setCell ⟨B, k * 4 + 1, none⟩ b).setCell ⟨B, k * 4 + 2, none⟩ c).setCell ⟨B, k * 4 + 3, none⟩ d) B t N f' n ∧
      f' (k * 4) = a ∧ f' (k * 4 + 1) = b ∧ f' (k * 4 + 2) = c ∧ f' (k * 4 + 3) = d ∧ ∀ i, i < k * 4 → f' i = f i := by
  refine ⟨_, (((h.set _ _).set _ _).set _ _).set _ _, ?_, ?_, ?_, ?_, fun i hi => ?_⟩
  · rw [if_neg (by omega), if_neg (by omega), if_neg (by omega), if_pos (by omega)]
  · rw [if_neg (by omega), if_neg (by omega), if_pos (by omega)]
  · rw [if_neg (by omega), if_pos (by omega)]
  · rw [if_pos (by omega)]
  · rw [if_neg (by omega), if_neg (by omega), if_neg (by omega), if_neg (by omega)]

theorem ins_more {k : Nat} {f f' F : Nat → Value} (hf : ∀ i, i < k * 4 → f i = F i) (ho : ∀ i, i < k * 4 → f' i = f i)
    (h0 : f' (k * 4) = F (k * 4)) (h1 : f' (k * 4 + 1) = F (k * 4 + 1)) (h2 : f' (k * 4 + 2) = F (k * 4 + 2)) (h3 : f' (k * 4 + 3) = F (k * 4 + 3)) : ∀ i, i < (k + 1) * 4 → f' i = F i := by
  intro i hi
  by_cases h : i < k * 4
  · rw [ho i h, hf i h]
  · have : i = k * 4 ∨ i = k * 4 + 1 ∨ i = k * 4 + 2 ∨ i = k * 4 + 3 := by omega
    rcases this with rfl | rfl | rfl | rfl
    · exact h0
    · exact h1
    · exact h2
    · exact h3

theorem SliceR.insSlice {B : Nat} {w : World} {v : Value} {ns : List In} (h : SliceR 28 4 B w v ns.length (insCells ns)) : InsSlice w v ns := by
  obtain ⟨ad, cap, rfl, h⟩ := h
  refine ⟨ad, cap, rfl, ?_⟩
  by_cases h0 : ns = []
  · exact Or.inl h0
  · obtain ⟨g, rfl, _, hr⟩ := h.resolve_left (fun e => h0 (List.length_eq_zero_iff.1 e))
    exact Or.inr ⟨g, 0, rfl, hr.lt, hr.insAt⟩

end Go.Proofs.YtegjdgiegnofhaaDoor

/- The bytes of code, as plain numbers. -/
namespace Go.Proofs.YtegjdgiegnofhaaDoor
open Go.RowKit

/-- A number in four bytes, the highest first. -/
def four (n : Int) : List Int := [n / 16777216 % 256, n / 65536 % 256, n / 256 % 256, n % 256]

def In.nums (i : In) : List Int := [i.a, i.b, i.c].take (manyZ i.op).toNat

def In.bytes (i : In) : List Int := (i.op % 256) :: i.nums.flatMap four

def In.ok (i : In) : Bool := insOkZ i.op i.a i.b i.c

def headBytes : List Int := [104, 114, 49]

def codeOkZ (cs : List In) : Bool := decide (cs.length ≤ 1500) && cs.all In.ok

def codeBytesZ (cs : List In) : List Int := headBytes ++ cs.flatMap In.bytes

theorem four_length (n : Int) : (four n).length = 4 := rfl

theorem nums_length (i : In) : i.nums.length ≤ 3 := by
  unfold In.nums
  simp
  omega

theorem flat_length : ∀ ns : List Int, (ns.flatMap four).length = ns.length * 4
  | [] => rfl
  | n :: r => by rw [List.flatMap_cons, List.length_append, flat_length r, List.length_cons, four_length]; omega

theorem bytes_length (i : In) : i.bytes.length ≤ 13 := by
  have := nums_length i
  rw [In.bytes, List.length_cons, flat_length]
  omega

theorem code_length : ∀ cs : List In, (cs.flatMap In.bytes).length ≤ cs.length * 13
  | [] => by simp
  | i :: r => by
    have := bytes_length i
    have := code_length r
    rw [List.flatMap_cons, List.length_append, List.length_cons]
    omega

/-- These bytes lie in a row of the slice's own, from block B on. -/
def OwnsB (B : Nat) (w : World) (v : Value) (bs : List Int) : Prop := w.ownsRow B 5 1 v bs.length (bs.map (fun b => .int .u8 b))

theorem OwnsB.more {B k : Nat} {w : World} {v : Value} {bs ns : List Int} {news : List Value} (h : w.ownsRow B 5 1 v (bs.length + k) (bs.map (fun b => .int .u8 b) ++ news)) (e : news = ns.map (fun b => .int .u8 b)) (hk : k = ns.length) : OwnsB B w v (bs ++ ns) := by
  subst e hk
  unfold OwnsB
  rw [List.length_append, List.map_append]
  exact h

theorem OwnsB.mono {B B' : Nat} {w : World} {v : Value} {bs : List Int} (h : OwnsB B w v bs) (hB : B' ≤ B) : OwnsB B' w v bs := by
  refine ⟨h.1, h.2.imp id ?_⟩
  rintro ⟨g, cap, cur, e, hg, r⟩
  exact ⟨g, cap, cur, e, Nat.le_trans hB hg, r⟩

theorem owns_ne {w : World} {base b : Nat} {e t : TypeId} {size : Nat} {v : Value} {n : Nat} {xs : List Value} {c : Array Value} (h : w.ownsRow base e size v n xs) (hb : w.heap[b]? = some (.cells c t)) (hne : e ≠ t) : some b ≠ v.ownBlock := by
  intro hv
  rcases h.2 with ⟨rfl, hn⟩ | ⟨g, cap, cur, rfl, hB, hg, _⟩
  · cases hv
  · simp [Value.ownBlock] at hv
    subst hv
    rw [hb] at hg
    simp at hg
    exact hne hg.2.symm

theorem info_byte : (Tryd.prog.info? 5).map (fun i => (i.zero, i.size, i.bytes)) = some (some (.int .u8 0), 1, 1) := by kernel_rfl

theorem cell_oneC (w : World) (n : Nat) (hn : n = w.heap.size) (a : Value) (t : TypeId) : ∀ j u, [a][j]? = some u → (w.alloc (.cells #[a] t)).cell? ((⟨n, 0, none⟩ : Addr).add j) = some u := by
  subst hn
  intro j u hj
  match j, hj with
  | 0, hj => simp at hj; subst hj; simp [Addr.add]
  | j + 1, hj => simp at hj

theorem cell_four_new (w : World) (n : Nat) (hn : n = w.heap.size) (a b c d : Value) (t : TypeId) : ∀ j u, [a, b, c, d][j]? = some u → (w.alloc (.cells #[a, b, c, d] t)).cell? ((⟨n, 0, none⟩ : Addr).add j) = some u := by
  subst hn
  intro j u hj
  match j, hj with
  | 0, hj => simp at hj; subst hj; simp [Addr.add]
  | 1, hj => simp at hj; subst hj; simp [Addr.add]
  | 2, hj => simp at hj; subst hj; simp [Addr.add]
  | 3, hj => simp at hj; subst hj; simp [Addr.add]
  | j + 4, hj => simp at hj

theorem head_owns (w : World) : OwnsB w.heap.size (w.alloc (.cells #[.int .u8 104, .int .u8 114, .int .u8 49] 5)) (.slice (some ⟨w.heap.size, 0, none⟩) 3 3) headBytes := by
  refine ⟨rfl, Or.inr ⟨w.heap.size, 3, _, rfl, Nat.le_refl _, (MapKept.heap_alloc w _).1, Nat.le_refl _, by decide, rfl, rfl⟩⟩

theorem ins_drop {cs : List In} {k : Nat} (hk : k < cs.length) : cs.take (k + 1) = cs.take k ++ [cs.getD k default] := by
  rw [List.take_succ_eq_append_getElem hk]
  simp [List.getD, List.getElem?_eq_getElem hk]
end Go.Proofs.YtegjdgiegnofhaaDoor

/- The text of code, as plain bytes. -/
namespace Go.Proofs.YtegjdgiegnofhaaDoor
open Go.RowKit

/-- What instructions are called. -/
def insWordsL : List (List UInt8) := [
  [104, 97, 108, 116],
  [105, 110, 116],
  [98, 111, 111, 108],
  [117, 110, 105, 116],
  [110, 105, 108],
  [118, 97, 114],
  [99, 108, 111, 115],
  [114, 101, 99],
  [97, 112, 112],
  [114, 101, 116],
  [116, 101, 115, 116],
  [106, 117, 109, 112],
  [98, 105, 110, 100],
  [100, 114, 111, 112],
  [97, 114, 105, 116, 104],
  [112, 97, 105, 114],
  [102, 115, 116],
  [115, 110, 100],
  [99, 111, 110, 115],
  [99, 97, 115, 101],
  [112, 114, 105, 110, 116],
  [104, 97, 110, 100, 108, 101],
  [100, 111],
  [100, 111, 110, 101],
  [116, 97, 98],
  [116, 97, 98, 111, 112]]

def wordZ (op : Int) : List UInt8 := insWordsL.getD op.toNat []

def numsText (ns : List Int) : List UInt8 := ns.flatMap (fun n => 32 :: Lib.itoa n)

def In.line (i : In) : List UInt8 := wordZ i.op ++ (numsText i.nums ++ [10])

def textZ (cs : List In) : List UInt8 := cs.flatMap In.line

def ansText (cs : List In) : List UInt8 := if codeOkZ cs then textZ cs else []

theorem word_length (op : Int) : (wordZ op).length ≤ 6 := by
  unfold wordZ
  have h : ∀ l ∈ insWordsL, l.length ≤ 6 := by decide
  by_cases hk : op.toNat < insWordsL.length
  · rw [List.getD_eq_getElem?_getD, List.getElem?_eq_getElem hk]
    exact h _ (List.getElem_mem hk)
  · rw [List.getD_eq_getElem?_getD, List.getElem?_eq_none (by omega)]
    simp

/-- Numbers of 32 bits. -/
def Small (n : Int) : Prop := -2147483648 ≤ n ∧ n ≤ 2147483647

theorem ok_small {op a b c : Int} (h : insOkZ op a b c = true) : Small a ∧ Small b ∧ Small c := by
  have hm : manyZ op ≤ 3 := by
    unfold manyZ
    repeat' split
    all_goals omega
  unfold insOkZ at h
  split at h
  · cases h
  rename_i h0
  split at h
  · rename_i h1
    subst h1
    have e : manyZ 1 = 1 := rfl
    rw [e] at h0
    have := of_decide_eq_true h
    unfold Small
    omega
  split at h
  · rename_i h1
    subst h1
    have e : manyZ 2 = 1 := rfl
    rw [e] at h0
    have := of_decide_eq_true h
    unfold Small
    omega
  split at h
  · rename_i h1
    subst h1
    have e : manyZ 14 = 1 := rfl
    rw [e] at h0
    have := of_decide_eq_true h
    unfold Small
    omega
  split at h
  · cases h
  · have := of_decide_eq_true h
    unfold Small
    omega

theorem ok_op {op a b c : Int} (h : insOkZ op a b c = true) : 0 ≤ op ∧ op ≤ 25 := by
  by_cases ho : op < 0 ∨ 25 < op
  · have : manyZ op = -1 := by
      unfold manyZ
      rw [if_neg (by omega), if_neg (by omega), if_neg (by omega), if_neg (by omega)]
    unfold insOkZ at h
    rw [this] at h
    simp at h
  · omega

theorem itoa_small {n : Int} (h : Small n) : (Lib.itoa n).length ≤ 21 := Lib.itoa_length_le n (by unfold Small at h; omega) (by unfold Small at h; omega)

theorem nums_text_length : ∀ ns : List Int, (∀ n ∈ ns, Small n) → (numsText ns).length ≤ ns.length * 22
  | [], _ => by simp [numsText]
  | n :: r, h => by
    have h1 := itoa_small (h n (by simp))
    have h2 := nums_text_length r (fun x hx => h x (by simp [hx]))
    unfold numsText at *
    rw [List.flatMap_cons, List.length_append, List.length_cons, List.length_cons]
    omega

theorem nums_small {i : In} (h : In.ok i = true) : ∀ n ∈ i.nums, Small n := by
  obtain ⟨h1, h2, h3⟩ := ok_small h
  intro n hn
  have := List.mem_of_mem_take hn
  simp at this
  rcases this with rfl | rfl | rfl
  · exact h1
  · exact h2
  · exact h3

theorem line_length {i : In} (h : In.ok i = true) : i.line.length ≤ 73 := by
  have h1 := word_length i.op
  have h2 := nums_text_length i.nums (nums_small h)
  have h3 := nums_length i
  rw [In.line, List.length_append, List.length_append, List.length_singleton]
  omega

theorem text_length : ∀ cs : List In, cs.all In.ok = true → (textZ cs).length ≤ cs.length * 73
  | [], _ => by simp [textZ]
  | i :: r, h => by
    rw [List.all_cons, Bool.and_eq_true] at h
    have h1 := line_length h.1
    have h2 := text_length r h.2
    unfold textZ at *
    rw [List.flatMap_cons, List.length_append, List.length_cons]
    omega

theorem bytes_appendC (a b : List UInt8) : (⟨a.toArray⟩ : ByteArray) ++ ⟨b.toArray⟩ = ⟨(a ++ b).toArray⟩ := by
  apply ByteArray.ext
  simp

theorem bytes_size (a : List UInt8) : (⟨a.toArray⟩ : ByteArray).size = a.length := by
  simp [ByteArray.size]
end Go.Proofs.YtegjdgiegnofhaaDoor

/- How many lines the text of code has. -/
namespace Go.Proofs.YtegjdgiegnofhaaDoor
open Go.RowKit

/-- How many ends of lines are among the first bytes. -/
def nlZ (T : List UInt8) (i : Nat) : Nat := ((T.take i).filter (fun x => x == 10)).length

theorem nlZ_le (T : List UInt8) (i : Nat) : nlZ T i ≤ i := Nat.le_trans (List.length_filter_le _ _) (by rw [List.length_take]; omega)

theorem nlZ_next {T : List UInt8} {i : Nat} (h : i < T.length) : nlZ T (i + 1) = nlZ T i + (if (T.getD i 0 == 10) = true then 1 else 0) := by
  unfold nlZ
  rw [List.take_add_one, List.filter_append, List.length_append]
  congr 1
  simp only [List.getD, List.getElem?_eq_getElem h, Option.getD_some, Option.toList_some]
  split <;> simp_all

theorem dig_ne (u j : Nat) : Lib.dg u j ≠ 10 := by
  unfold Lib.dg
  intro h
  have h2 := congrArg UInt8.toNat h
  simp at h2
  omega

theorem itoa_ne (n : Int) : ∀ x ∈ Lib.itoa n, x ≠ 10 := by
  have hd : ∀ u, ∀ x ∈ Lib.decDigits u, x ≠ 10 := fun u x hx => by
    rw [Lib.decDigits_eq, List.mem_map] at hx
    obtain ⟨t, -, rfl⟩ := hx
    exact dig_ne _ _
  intro x hx
  unfold Lib.itoa at hx
  split at hx
  · rw [List.mem_cons] at hx
    rcases hx with rfl | hx
    · decide
    · exact hd _ x hx
  · exact hd _ x hx

theorem word_ne (op : Int) : ∀ x ∈ wordZ op, x ≠ 10 := by
  have h : ∀ l ∈ insWordsL, ∀ x ∈ l, x ≠ 10 := by decide
  intro x hx
  unfold wordZ at hx
  by_cases hk : op.toNat < insWordsL.length
  · rw [List.getD_eq_getElem?_getD, List.getElem?_eq_getElem hk] at hx
    exact h _ (List.getElem_mem hk) x hx
  · rw [List.getD_eq_getElem?_getD, List.getElem?_eq_none (by omega)] at hx
    simp at hx

theorem nums_ne (ns : List Int) : ∀ x ∈ numsText ns, x ≠ 10 := by
  intro x hx
  unfold numsText at hx
  rw [List.mem_flatMap] at hx
  obtain ⟨n, -, hx⟩ := hx
  rw [List.mem_cons] at hx
  rcases hx with rfl | hx
  · decide
  · exact itoa_ne n x hx

theorem none_ten {l : List UInt8} (h : ∀ x ∈ l, x ≠ 10) : (l.filter (fun x => x == 10)).length = 0 := by
  rw [List.length_eq_zero_iff, List.filter_eq_nil_iff]
  intro x hx
  simp [h x hx]

theorem line_one (i : In) : (i.line.filter (fun x => x == 10)).length = 1 := by
  unfold In.line
  rw [List.filter_append, List.filter_append, List.length_append, List.length_append, none_ten (word_ne _), none_ten (nums_ne _)]
  rfl

theorem lines_all : ∀ cs : List In, ((textZ cs).filter (fun x => x == 10)).length = cs.length
  | [] => rfl
  | i :: r => by
    unfold textZ
    rw [List.flatMap_cons, List.filter_append, List.length_append, line_one]
    have := lines_all r
    unfold textZ at this
    rw [this, List.length_cons]
    omega

/-- What is counted in the whole text: nothing, or a line for each, and then all are right. -/
theorem lines_of (cs : List In) : (nlZ (ansText cs) (ansText cs).length = 0) ∨ (nlZ (ansText cs) (ansText cs).length = cs.length ∧ cs.all In.ok = true) := by
  unfold ansText nlZ
  cases h : codeOkZ cs with
  | false => exact Or.inl rfl
  | true =>
    refine Or.inr ⟨?_, ?_⟩
    · rw [if_pos rfl, List.take_length]
      exact lines_all cs
    · unfold codeOkZ at h
      rw [Bool.and_eq_true] at h
      exact h.2

theorem ans_length (cs : List In) : (ansText cs).length ≤ 200000 := by
  unfold ansText
  cases h : codeOkZ cs with
  | false => exact Nat.zero_le _
  | true =>
    unfold codeOkZ at h
    rw [Bool.and_eq_true, decide_eq_true_eq] at h
    have := text_length cs h.2
    rw [if_pos rfl]
    omega
end Go.Proofs.YtegjdgiegnofhaaDoor

/- The specification's test of an instruction answers by the table. -/
namespace Go.Proofs.YtegjdgiegnofhaaDoor
open Go.RowKit

set_option maxHeartbeats 1000000 in
set_option maxRecDepth 100000 in
theorem specInsOk_calls (op a b c : Int) (w : World) :
    Calls Tryd.prog 15 #[.agg #[.int .i64 op, .int .i64 a, .int .i64 b, .int .i64 c]] w fun e w' => e = .returned (.bool (insOkZ op a b c)) ∧ Below w.heap.size w w' := by
  go_enter Tryd.func15, Tryd.ntmps15
  go_wp2_with fail
  refine (l5Many_calls _ _).mono ?_
  rintro e w1 ⟨rfl, rfl⟩
  go_wp2_with fail
  all_goals
    go_ret
    refine ⟨congrArg (fun b => Ending.returned (Value.bool b)) ?_, (Below.refl _ _).alloc (Nat.le_refl _) _⟩
    first | (simp_all [insOkZ]; done) | (simp_all [insOkZ]; omega) | (rw [show (a == 0 || a == 1) = decide (a = 0 ∨ a = 1) by apply Bool.eq_iff_iff.mpr; simp]; simp_all [insOkZ]; done)
end Go.Proofs.YtegjdgiegnofhaaDoor

/- The program's test of an instruction answers by the table. -/
namespace Go.Proofs.YtegjdgiegnofhaaDoor
open Go.RowKit

/-- How many numbers an instruction has; 0 of what is none. -/
def numsZ (op : Int) : Int :=
  if op = 1 ∨ op = 2 ∨ op = 5 ∨ op = 6 ∨ op = 7 ∨ op = 10 ∨ op = 11 ∨ op = 14 ∨ op = 19 ∨ op = 22 then 1
  else if op = 24 ∨ op = 25 then 2
  else if op = 21 then 3
  else 0

theorem numsZ_many (op : Int) : numsZ op = if manyZ op < 0 then 0 else manyZ op := by
  unfold numsZ manyZ
  repeat' split
  all_goals omega

set_option maxHeartbeats 1000000 in
set_option maxRecDepth 100000 in
theorem insNumbers_calls (op : Int) (w : World) :
    Calls Tryd.prog 26 #[.int .i64 op] w fun e w' => e = .returned (.int .i64 (numsZ op)) ∧ w = w' := by
  go_enter Tryd.func26, Tryd.ntmps26
  go_wp2
  all_goals
    go_ret
    refine ⟨?_, rfl⟩
    simp_all [numsZ]

def insLeast (op place : Int) : Int :=
  if numsZ op ≤ place then 0 else if op = 1 then -2147483648 else if op = 14 then 11 else 0

def insMost (op place : Int) : Int :=
  if numsZ op ≤ place then 0 else if op = 1 then 2147483647 else if op = 14 then 15 else if op = 2 ∨ (op = 21 ∧ place = 1) then 1 else 65535

set_option maxHeartbeats 1000000 in
set_option maxRecDepth 100000 in
theorem insRange_calls (op place : Int) (w : World) :
    Calls Tryd.prog 19 #[.int .i64 op, .int .i64 place] w fun e w' => e = .returned (.tuple #[.int .i64 (insLeast op place), .int .i64 (insMost op place)]) ∧ w = w' := by
  go_enter Tryd.func19, Tryd.ntmps19
  go_wp2_with fail
  refine (insNumbers_calls _ _).mono ?_
  rintro e w1 ⟨rfl, rfl⟩
  go_wp2_with fail
  all_goals
    go_ret2
    refine ⟨?_, rfl⟩
    simp_all [insLeast, insMost]

theorem insOkZ_out {op : Int} (a b c : Int) (h : op < 0 ∨ 25 < op) : insOkZ op a b c = false := by
  have : manyZ op = -1 := by
    unfold manyZ
    rw [if_neg (by omega), if_neg (by omega), if_neg (by omega), if_neg (by omega)]
  unfold insOkZ
  rw [this]
  simp

theorem insOkZ_in {op : Int} (a b c : Int) (h0 : 0 ≤ op) (h1 : op ≤ 25) :
    insOkZ op a b c = decide ((insLeast op 0 ≤ a ∧ a ≤ insMost op 0) ∧ (insLeast op 1 ≤ b ∧ b ≤ insMost op 1) ∧ (insLeast op 2 ≤ c ∧ c ≤ insMost op 2)) := by
  rcases ops_cases op with h | h | h | h | h | h | h | h | h | h | h | h | h | h | h | h | h | h | h | h | h | h | h | h | h | h | h
  case inl => omega
  all_goals
    subst h
    simp only [insOkZ, manyZ, insLeast, insMost, numsZ]
    apply Bool.eq_iff_iff.mpr
    simp
    try omega

set_option maxHeartbeats 1000000 in
set_option maxRecDepth 100000 in
theorem implInsOk_calls (op a b c : Int) (w : World) :
    Calls Tryd.prog 7 #[.agg #[.int .i64 op, .int .i64 a, .int .i64 b, .int .i64 c]] w fun e w' => e = .returned (.bool (insOkZ op a b c)) ∧ Below w.heap.size w w' := by
  have hop : op < 0 ∨ (0 ≤ op ∧ 25 < op) ∨ (0 ≤ op ∧ op ≤ 25) := by omega
  rcases hop with h | ⟨h, h'⟩ | ⟨h, h'⟩
  · rw [insOkZ_out a b c (Or.inl h)]
    go_enter Tryd.func7, Tryd.ntmps7
    go_wp2_with fail
    go_ret
    exact ⟨rfl, (Below.refl _ _).alloc (Nat.le_refl _) _⟩
  · rw [insOkZ_out a b c (Or.inr h')]
    go_enter Tryd.func7, Tryd.ntmps7
    go_wp2_with fail
    go_ret
    exact ⟨rfl, (Below.refl _ _).alloc (Nat.le_refl _) _⟩
  · have H0 : Hid (∀ w, _) := fun w => insRange_calls op 0 w
    have H1 : Hid (∀ w, _) := fun w => insRange_calls op 1 w
    have H2 : Hid (∀ w, _) := fun w => insRange_calls op 2 w
    rw [insOkZ_in a b c h h']
    generalize insLeast op 0 = l0 at *
    generalize insLeast op 1 = l1 at *
    generalize insLeast op 2 = l2 at *
    generalize insMost op 0 = m0 at *
    generalize insMost op 1 = m1 at *
    generalize insMost op 2 = m2 at *
    have i0 : ∀ w, (Instr.index 47 (.agg #[.int .i64 a, .int .i64 b, .int .i64 c]) (.int .i64 0)).run Tryd.prog w = .ok (.int .i64 a) w := fun _ => by kernel_rfl
    have i1 : ∀ w, (Instr.index 47 (.agg #[.int .i64 a, .int .i64 b, .int .i64 c]) (.int .i64 1)).run Tryd.prog w = .ok (.int .i64 b) w := fun _ => by kernel_rfl
    have i2 : ∀ w, (Instr.index 47 (.agg #[.int .i64 a, .int .i64 b, .int .i64 c]) (.int .i64 2)).run Tryd.prog w = .ok (.int .i64 c) w := fun _ => by kernel_rfl
    generalize hr : decide ((l0 ≤ a ∧ a ≤ m0) ∧ (l1 ≤ b ∧ b ≤ m1) ∧ (l2 ≤ c ∧ c ≤ m2)) = r
    have HF : Hid (¬ ((l0 ≤ a ∧ a ≤ m0) ∧ (l1 ≤ b ∧ b ≤ m1) ∧ (l2 ≤ c ∧ c ≤ m2)) → r = false) := fun hn => by rw [← hr]; exact decide_eq_false hn
    have HT : Hid (((l0 ≤ a ∧ a ≤ m0) ∧ (l1 ≤ b ∧ b ≤ m1) ∧ (l2 ≤ c ∧ c ≤ m2)) → r = true) := fun hn => by rw [← hr]; exact decide_eq_true hn
    clear hr
    go_enter Tryd.func7, Tryd.ntmps7
    go_wp2_with fail
    refine wp_loop_rounds 4 ?_
    rw [rounds_succ]
    go_wp2_with fail
    refine (H0.out _).mono ?_
    rintro e w1 ⟨rfl, rfl⟩
    have ha : a < l0 ∨ (l0 ≤ a ∧ m0 < a) ∨ (l0 ≤ a ∧ a ≤ m0) := by omega
    rcases ha with ha | ⟨ha, ha'⟩ | ⟨ha, ha'⟩
    · go_wp2_with fail
      go_ret
      exact ⟨by rw [HF.out (by omega)]; rfl, (Below.refl _ _).alloc (Nat.le_refl _) _⟩
    · go_wp2_with fail
      go_ret
      exact ⟨by rw [HF.out (by omega)]; rfl, (Below.refl _ _).alloc (Nat.le_refl _) _⟩
    go_wp2_with fail
    rw [rounds_succ]
    go_wp2_with fail
    refine (H1.out _).mono ?_
    rintro e w1 ⟨rfl, rfl⟩
    have hb : b < l1 ∨ (l1 ≤ b ∧ m1 < b) ∨ (l1 ≤ b ∧ b ≤ m1) := by omega
    rcases hb with hb | ⟨hb, hb'⟩ | ⟨hb, hb'⟩
    · go_wp2_with fail
      go_ret
      exact ⟨by rw [HF.out (by omega)]; rfl, (Below.refl _ _).alloc (Nat.le_refl _) _⟩
    · go_wp2_with fail
      go_ret
      exact ⟨by rw [HF.out (by omega)]; rfl, (Below.refl _ _).alloc (Nat.le_refl _) _⟩
    go_wp2_with fail
    rw [rounds_succ]
    go_wp2_with fail
    refine (H2.out _).mono ?_
    rintro e w1 ⟨rfl, rfl⟩
    have hc : c < l2 ∨ (l2 ≤ c ∧ m2 < c) ∨ (l2 ≤ c ∧ c ≤ m2) := by omega
    rcases hc with hc | ⟨hc, hc'⟩ | ⟨hc, hc'⟩
    · go_wp2_with fail
      go_ret
      exact ⟨by rw [HF.out (by omega)]; rfl, (Below.refl _ _).alloc (Nat.le_refl _) _⟩
    · go_wp2_with fail
      go_ret
      exact ⟨by rw [HF.out (by omega)]; rfl, (Below.refl _ _).alloc (Nat.le_refl _) _⟩
    go_wp2_with fail
    rw [rounds_succ]
    go_wp2_with fail
    go_ret
    exact ⟨by rw [HT.out (by omega)]; rfl, (Below.refl _ _).alloc (Nat.le_refl _) _⟩
end Go.Proofs.YtegjdgiegnofhaaDoor

/- Whether all of a list are instructions: the program's test. -/
namespace Go.Proofs.YtegjdgiegnofhaaDoor
open Go.RowKit

set_option maxRecDepth 100000 in
theorem bad_calls (op a b c : Int) (w : World) :
    Calls Tryd.prog 24 #[.agg #[.int .i64 op, .int .i64 a, .int .i64 b, .int .i64 c]] w fun e w' => e = .returned (.bool (!insOkZ op a b c)) ∧ Below w.heap.size w w' := by
  go_enter Tryd.func24, Tryd.ntmps24
  go_wp2_with fail
  refine (implInsOk_calls _ _ _ _ _).mono ?_
  rintro e w2 ⟨rfl, hb2⟩
  go_wp2_with fail
  go_ret
  exact ⟨rfl, one_below hb2⟩

set_option maxHeartbeats 1000000 in
set_option maxRecDepth 100000 in
theorem indexBad_calls (b off cap : Nat) (cs : List In) (w : World) (hb : b < w.heap.size) (hn : InsAt w b off cs) (hm : cs.length ≤ 1500) :
    Calls Tryd.prog 36 #[.slice (some ⟨b, off, none⟩) cs.length cap, .func (.func 24) #[] #[]] w fun e w' => (∃ r : Int, e = .returned (.int .i64 r) ∧ decide (0 ≤ r) = !cs.all In.ok) ∧ Below w.heap.size w w' := by
  obtain ⟨len, hlen⟩ : ∃ len, cs.length = len := ⟨_, rfl⟩
  have Hlen : Hid (cs.length = len) := hlen
  have HM : Hid (len ≤ 1500) := by show _ ≤ _; omega
  have HN : Hid (InsAt w b off cs) := hn
  obtain ⟨R, hR⟩ : ∃ R, cs.all In.ok = R := ⟨_, rfl⟩
  have HR : Hid (cs.all In.ok = R) := hR
  rw [hlen, hR]
  clear hlen hm hn hR
  go_enter Tryd.func36, Tryd.ntmps36
  go_wp2_with fail
  go_loopw [8] (fun i wr => ∃ k : Nat, i = .int .i64 k ∧ k ≤ len ∧ Hid ((cs.take k).all In.ok = true) ∧ Below w.heap.size w wr) (fun i _ => len - (intOf i).toNat)
  case atStart => exact ⟨0, rfl, Nat.zero_le _, by simp [Hid], Below.refl _ _⟩
  case round =>
    obtain ⟨k, rfl, hk, HA, hnx⟩ := hrel
    by_cases hkl : (k : Int) < (len : Int)
    · have hkn : k < cs.length := by rw [Hlen.out]; omega
      have hcell := fun c (hc : c < 4) => (hnx.cell (p := ⟨b, off + k * 4 + c, none⟩) hb).trans (HN.out k hkn c hc)
      have HD : Hid (cs.take (k + 1) = cs.take k ++ [cs.getD k default]) := ins_drop hkn
      generalize cs.getD k default = n at hcell HD
      obtain ⟨op, x, y, z⟩ := n
      have c0 := hcell 0 (by omega)
      have c1 := hcell 1 (by omega)
      have c2 := hcell 2 (by omega)
      have c3 := hcell 3 (by omega)
      simp only [In.cell, Nat.add_zero] at c0 c1 c2 c3
      clear hcell hkn
      go_wp2_with fail
      refine (bad_calls _ _ _ _ _).mono ?_
      rintro e w2 ⟨rfl, hb2⟩
      have hnx2 := hnx.trans (hb2.mono hnx.size)
      clear hb2 hnx c0 c1 c2 c3
      cases hok : insOkZ op x y z with
      | false =>
        have HF : Hid (R = false) := by
          show _ = _
          rw [← HR.out]
          have h1 : (cs.take (k + 1)).all In.ok = false := by
            rw [HD.out, List.all_append]
            simp [In.ok, hok]
          rw [← List.take_append_drop (k + 1) cs, List.all_append, h1, Bool.false_and]
        clear HA HD HR
        go_wp2_with fail
        go_ret
        exact ⟨⟨_, rfl, by rw [HF.out]; exact decide_eq_true (by omega)⟩, hnx2⟩
      | true =>
        have HA1 : Hid ((cs.take (k + 1)).all In.ok = true) := by
          show _ = _
          rw [HD.out, List.all_append, HA.out]
          simp [In.ok, hok]
        clear HA HD
        go_wp2_with fail
        have hs : len - (intOf (.int .i64 ((k + 1 : Nat) : Int))).toNat < len - (intOf (.int .i64 (k : Int))).toNat := by simp only [intOf, Int.toNat_natCast]; omega
        try rw [wrap_one (k := k) (len := len) (by omega) (by have := HM.out; omega)]
        exact ⟨⟨k + 1, rfl, by omega, HA1, hnx2⟩, hs⟩
    · have HF : Hid (R = true) := by
        show _ = _
        rw [← HR.out, ← List.take_of_length_le (l := cs) (i := k) (by rw [Hlen.out]; omega)]
        exact HA.out
      clear HA HR
      go_wp2_with fail
      go_ret
      exact ⟨⟨-1, rfl, by rw [HF.out]; rfl⟩, hnx⟩

set_option maxHeartbeats 1000000 in
set_option maxRecDepth 100000 in
theorem listOk_calls (b off cap : Nat) (cs : List In) (w : World) (hb : b < w.heap.size) (hn : InsAt w b off cs) :
    Calls Tryd.prog 10 #[.slice (some ⟨b, off, none⟩) cs.length cap] w fun e w' => e = .returned (.bool (codeOkZ cs)) ∧ Below w.heap.size w w' := by
  by_cases hbig : (cs.length : Int) ≤ 1500
  · rw [show codeOkZ cs = cs.all In.ok by unfold codeOkZ; rw [decide_eq_true (by omega), Bool.true_and]]
    have HX : Hid (Calls _ _ _ _ _) := indexBad_calls b off cap cs w hb hn (by omega)
    generalize cs.length = len at *
    generalize cs.all In.ok = R at *
    clear hn
    have HY : Hid (Calls Tryd.prog 23 #[.slice (some ⟨b, off, none⟩) len cap, .func (.func 24) #[] #[]] w fun e w' => e = .returned (.bool (!R)) ∧ Below w.heap.size w w') := by
      show Calls _ _ _ _ _
      go_enter Tryd.func23, Tryd.ntmps23
      go_wp2_with fail
      refine HX.out.mono ?_
      rintro e w2 ⟨⟨r, rfl, hr⟩, hb2⟩
      have Hr : Hid (decide (0 ≤ r) = !R) := hr
      clear hr
      go_wp2_with fail
      go_ret
      exact ⟨by rw [← Hr.out]; rfl, hb2⟩
    clear HX
    go_enter Tryd.func10, Tryd.ntmps10
    go_wp2_with fail
    refine HY.out.mono ?_
    rintro e w2 ⟨rfl, hb2⟩
    cases R
    all_goals
      go_wp2_with fail
      go_ret
      exact ⟨rfl, hb2⟩
  · rw [show codeOkZ cs = false by unfold codeOkZ; rw [decide_eq_false (by omega)]; rfl]
    generalize cs.length = len at *
    clear hn
    go_enter Tryd.func10, Tryd.ntmps10
    go_wp2_with fail
    go_ret
    exact ⟨rfl, Below.refl _ _⟩
end Go.Proofs.YtegjdgiegnofhaaDoor

/- The numbers that an instruction has, as the program lists them. -/
namespace Go.Proofs.YtegjdgiegnofhaaDoor
open Go.RowKit

theorem numsZ_range (op : Int) : ∃ m : Nat, numsZ op = (m : Int) ∧ m ≤ 3 := by
  have h0 : 0 ≤ numsZ op ∧ numsZ op ≤ 3 := by
    unfold numsZ
    repeat' split
    all_goals omega
  exact ⟨(numsZ op).toNat, by omega, by omega⟩

set_option maxHeartbeats 1000000 in
set_option maxRecDepth 100000 in
theorem numbers_calls (op a b c : Int) (m : Nat) (w : World) (hm : numsZ op = (m : Int)) (h3 : m ≤ 3) :
    Calls Tryd.prog 12 #[.agg #[.int .i64 op, .int .i64 a, .int .i64 b, .int .i64 c]] w fun e w' => e = .returned (.slice (some ⟨w.heap.size + 1, 0, none⟩) m 3) ∧ w'.heap[w.heap.size + 1]? = some (.cells #[.int .i64 a, .int .i64 b, .int .i64 c] 3) ∧ Below w.heap.size w w' := by
  have HI : Hid (∀ w, _) := fun w => insNumbers_calls op w
  rw [hm] at HI
  clear hm
  have h3' : (m : Int) ≤ 3 := by omega
  have h0' : (0 : Int) ≤ (m : Int) := by omega
  go_enter Tryd.func12, Tryd.ntmps12
  go_wp2_with fail
  go_region_held3 (fun w' => w'.cell? ⟨w.heap.size, 0, none⟩ = some (.int .i64 op) ∧ w'.cell? ⟨w.heap.size, 1, none⟩ = some (.int .i64 a) ∧ w'.cell? ⟨w.heap.size, 2, none⟩ = some (.int .i64 b) ∧ w'.cell? ⟨w.heap.size, 3, none⟩ = some (.int .i64 c)) (go_keep) (first | (go_at_call 26; refine (HI.out _).mono ?_; rintro e w1 ⟨rfl, rfl⟩))
  all_goals
    go_wp2_with fail
    go_ret
    refine ⟨rfl, ?_, ?_⟩
    · have := (MapKept.heap_alloc (w.alloc (.cells #[.int .i64 op, .int .i64 a, .int .i64 b, .int .i64 c] 28)) (.cells #[.int .i64 a, .int .i64 b, .int .i64 c] 3)).1
      show ((w.alloc (.cells #[.int .i64 op, .int .i64 a, .int .i64 b, .int .i64 c] 28)).alloc (.cells #[.int .i64 a, .int .i64 b, .int .i64 c] 3)).heap[w.heap.size + 1]? = _
      simpa using this
    · exact (((Below.refl _ _).alloc (Nat.le_refl _) _).alloc (by simp) _).drew

end Go.Proofs.YtegjdgiegnofhaaDoor
