/- The text of code, as plain bytes. -/
import Derived.Test.YtmjcifaihmecmaaDoorCodePure
import Derived.Lib.ItoaLen
namespace Go.Proofs.YtmjcifaihmecmaaDoor
open Go.RowKit

/-- What instructions are called. -/
def insWordsL : List (List UInt8) := [
  [104, 97, 108, 116],
  [105, 110, 116],
  [98, 111, 111, 108],
  [117, 110, 105, 116],
  [110, 105, 108],
  [118, 97, 114],
  [99, 108, 111, 115],
  [114, 101, 99],
  [97, 112, 112],
  [114, 101, 116],
  [116, 101, 115, 116],
  [106, 117, 109, 112],
  [98, 105, 110, 100],
  [100, 114, 111, 112],
  [97, 114, 105, 116, 104],
  [112, 97, 105, 114],
  [102, 115, 116],
  [115, 110, 100],
  [99, 111, 110, 115],
  [99, 97, 115, 101],
  [112, 114, 105, 110, 116],
  [104, 97, 110, 100, 108, 101],
  [100, 111],
  [100, 111, 110, 101],
  [116, 97, 98],
  [116, 97, 98, 111, 112]]

def wordZ (op : Int) : List UInt8 := insWordsL.getD op.toNat []

def numsText (ns : List Int) : List UInt8 := ns.flatMap (fun n => 32 :: Lib.itoa n)

def In.line (i : In) : List UInt8 := wordZ i.op ++ (numsText i.nums ++ [10])

def textZ (cs : List In) : List UInt8 := cs.flatMap In.line

def ansText (cs : List In) : List UInt8 := if codeOkZ cs then textZ cs else []

theorem word_length (op : Int) : (wordZ op).length ≤ 6 := by
  unfold wordZ
  have h : ∀ l ∈ insWordsL, l.length ≤ 6 := by decide
  by_cases hk : op.toNat < insWordsL.length
  · rw [List.getD_eq_getElem?_getD, List.getElem?_eq_getElem hk]
    exact h _ (List.getElem_mem hk)
  · rw [List.getD_eq_getElem?_getD, List.getElem?_eq_none (by omega)]
    simp

/-- Numbers of 32 bits. -/
def Small (n : Int) : Prop := -2147483648 ≤ n ∧ n ≤ 2147483647

theorem ok_small {op a b c : Int} (h : insOkZ op a b c = true) : Small a ∧ Small b ∧ Small c := by
  have hm : manyZ op ≤ 3 := by
    unfold manyZ
    repeat' split
    all_goals omega
  unfold insOkZ at h
  split at h
  · cases h
  rename_i h0
  split at h
  · rename_i h1
    subst h1
    have e : manyZ 1 = 1 := rfl
    rw [e] at h0
    have := of_decide_eq_true h
    unfold Small
    omega
  split at h
  · rename_i h1
    subst h1
    have e : manyZ 2 = 1 := rfl
    rw [e] at h0
    have := of_decide_eq_true h
    unfold Small
    omega
  split at h
  · rename_i h1
    subst h1
    have e : manyZ 14 = 1 := rfl
    rw [e] at h0
    have := of_decide_eq_true h
    unfold Small
    omega
  split at h
  · cases h
  · have := of_decide_eq_true h
    unfold Small
    omega

theorem ok_op {op a b c : Int} (h : insOkZ op a b c = true) : 0 ≤ op ∧ op ≤ 25 := by
  by_cases ho : op < 0 ∨ 25 < op
  · have : manyZ op = -1 := by
      unfold manyZ
      rw [if_neg (by omega), if_neg (by omega), if_neg (by omega), if_neg (by omega)]
    unfold insOkZ at h
    rw [this] at h
    simp at h
  · omega

theorem itoa_small {n : Int} (h : Small n) : (Lib.itoa n).length ≤ 21 := Lib.itoa_length_le n (by unfold Small at h; omega) (by unfold Small at h; omega)

theorem nums_text_length : ∀ ns : List Int, (∀ n ∈ ns, Small n) → (numsText ns).length ≤ ns.length * 22
  | [], _ => by simp [numsText]
  | n :: r, h => by
    have h1 := itoa_small (h n (by simp))
    have h2 := nums_text_length r (fun x hx => h x (by simp [hx]))
    unfold numsText at *
    rw [List.flatMap_cons, List.length_append, List.length_cons, List.length_cons]
    omega

theorem nums_small {i : In} (h : In.ok i = true) : ∀ n ∈ i.nums, Small n := by
  obtain ⟨h1, h2, h3⟩ := ok_small h
  intro n hn
  have := List.mem_of_mem_take hn
  simp at this
  rcases this with rfl | rfl | rfl
  · exact h1
  · exact h2
  · exact h3

theorem line_length {i : In} (h : In.ok i = true) : i.line.length ≤ 73 := by
  have h1 := word_length i.op
  have h2 := nums_text_length i.nums (nums_small h)
  have h3 := nums_length i
  rw [In.line, List.length_append, List.length_append, List.length_singleton]
  omega

theorem text_length : ∀ cs : List In, cs.all In.ok = true → (textZ cs).length ≤ cs.length * 73
  | [], _ => by simp [textZ]
  | i :: r, h => by
    rw [List.all_cons, Bool.and_eq_true] at h
    have h1 := line_length h.1
    have h2 := text_length r h.2
    unfold textZ at *
    rw [List.flatMap_cons, List.length_append, List.length_cons]
    omega

theorem bytes_append (a b : List UInt8) : (⟨a.toArray⟩ : ByteArray) ++ ⟨b.toArray⟩ = ⟨(a ++ b).toArray⟩ := by
  apply ByteArray.ext
  simp

theorem bytes_size (a : List UInt8) : (⟨a.toArray⟩ : ByteArray).size = a.length := by
  simp [ByteArray.size]
end Go.Proofs.YtmjcifaihmecmaaDoor
