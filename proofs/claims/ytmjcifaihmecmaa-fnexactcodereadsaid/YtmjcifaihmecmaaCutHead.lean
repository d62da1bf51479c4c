/- Whether bytes begin with the head of code, as the library tells it. -/
import Derived.Test.YtmjcifaihmecmaaSpecReadA
import Derived.BigQuiet
namespace Go.Proofs.Ytmjcifaihmecmaa
open Go.RowKit

theorem str_beq {xs ys : List Int} (hx : ∀ x ∈ xs, IsB x) (hy : ∀ x ∈ ys, IsB x) : ((byteStr xs).toList == (byteStr ys).toList) = decide (xs = ys) := by
  rw [ByteArray.toList_eq, ByteArray.toList_eq]
  by_cases h : xs = ys
  · subst h
    simp
  · rw [decide_eq_false h, beq_eq_false_iff_ne]
    intro e
    exact h (byteStr_inj hx hy (Go.WideShapes.bytes_inj e))

set_option maxRecDepth 100000 in
theorem equal_calls (b off cap g o cap' : Nat) (xs ys : List Int) (w : World) (hx : ∀ x ∈ xs, IsB x) (hy : ∀ x ∈ ys, IsB x) (h1 : BytesAt w b off xs) (h2 : BytesAt w g o ys) :
    Calls Try.prog 39 #[.slice (some ⟨b, off, none⟩) xs.length cap, .slice (some ⟨g, o, none⟩) ys.length cap'] w fun e w' => e = .returned (.bool (decide (xs = ys))) ∧ Below w.heap.size w w' := by
  have hcv1 := bytes_string w b off cap xs hx h1
  have hcv2 := bytes_string w g o cap' ys hy h2
  have HS := hid (str_beq hx hy)
  generalize decide (xs = ys) = R at *
  generalize byteStr xs = S at *
  generalize byteStr ys = S' at *
  generalize xs.length = n at *
  generalize ys.length = m at *
  go_enter Try.func39, Try.ntmps39
  go_wp2_with fail
  rw [HS.out]
  go_ret
  exact ⟨rfl, Below.refl _ _⟩

theorem head_isB : ∀ x ∈ headBytes, IsB x := by
  intro x hx
  unfold headBytes at hx
  unfold IsB
  simp at hx
  omega

theorem BytesAt.take {w : World} {b off : Nat} {bs : List Int} (h : BytesAt w b off bs) (n : Nat) : BytesAt w b off (bs.take n) := by
  intro k hk
  have hk' : k < bs.length ∧ k < n := by simp at hk; omega
  rw [h k hk'.1]
  simp [List.getD, List.getElem?_take_of_lt hk'.2]

set_option maxHeartbeats 1000000 in
set_option maxRecDepth 100000 in
theorem hasHead_calls (b off g cap' : Nat) (bs : List Int) (w : World) (hx : ∀ x ∈ bs, IsB x) (h1 : BytesAt w b off bs) (h2 : BytesAt w g 0 headBytes) :
    Calls Try.prog 35 #[.slice (some ⟨b, off, none⟩) bs.length bs.length, .slice (some ⟨g, 0, none⟩) 3 cap'] w fun e w' => e = .returned (.bool (decide (bs.take 3 = headBytes))) ∧ Below w.heap.size w w' := by
  by_cases h3 : bs.length < 3
  · have hne : decide (bs.take 3 = headBytes) = false := by
      rw [decide_eq_false]
      intro h
      have := congrArg List.length h
      simp [headBytes] at this
      omega
    rw [hne]
    generalize bs.length = n at *
    have hn3 : ¬ (3 : Int) ≤ (n : Int) := by omega
    go_enter Try.func35, Try.ntmps35
    go_wp2_with fail
    go_ret
    exact ⟨rfl, Below.refl _ _⟩
  · have HE := hid (equal_calls b off bs.length g 0 cap' (bs.take 3) headBytes w (fun x hx' => hx x (List.mem_of_mem_take hx')) head_isB (h1.take 3) h2)
    rw [show (bs.take 3).length = 3 by simp; omega, show headBytes.length = 3 from rfl] at HE
    generalize decide (bs.take 3 = headBytes) = R at *
    generalize bs.length = n at *
    have hn3 : (3 : Int) ≤ (n : Int) := by omega
    go_enter Try.func35, Try.ntmps35
    go_wp2_with fail
    refine HE.out.mono ?_
    rintro e w1 ⟨rfl, hb1⟩
    go_wp2_with fail
    go_ret
    exact ⟨rfl, hb1⟩

/-- bytes.CutPrefix at the head of code, where it is there: the rest (which begins where it may where nothing is left). -/
theorem cutHead_yes (b off g cap' : Nat) (bs : List Int) (w : World) (hx : ∀ x ∈ bs, IsB x) (h1 : BytesAt w b off bs) (h2 : BytesAt w g 0 headBytes) (hh : bs.take 3 = headBytes) :
    Calls Try.prog 30 #[.slice (some ⟨b, off, none⟩) bs.length bs.length, .slice (some ⟨g, 0, none⟩) 3 cap'] w fun e w' =>
      (∃ o, e = .returned (.tuple #[.slice (some ⟨b, o, none⟩) (bs.length - 3) (bs.length - 3), .bool true]) ∧ (bs.length = 3 ∨ o = off + 3)) ∧ Below w.heap.size w w' := by
  have HE := hid (hasHead_calls b off g cap' bs w hx h1 h2)
  rw [decide_eq_true hh] at HE
  have h3 : 3 ≤ bs.length := by
    have := congrArg List.length hh
    simp [headBytes] at this
    omega
  clear hh
  generalize bs.length = n at *
  have hn3 : (3 : Int) ≤ (n : Int) := by omega
  by_cases h33 : n = 3
  · subst h33
    go_enter Try.func30, Try.ntmps30
    go_wp2_with fail
    refine HE.out.mono ?_
    rintro e w1 ⟨rfl, hb1⟩
    go_wp2_with fail
    go_ret2
    exact ⟨⟨_, rfl, Or.inl (by simp)⟩, hb1⟩
  · have hn4 : n - 3 ≠ 0 := by omega
    go_enter Try.func30, Try.ntmps30
    go_wp2_with fail
    refine HE.out.mono ?_
    rintro e w1 ⟨rfl, hb1⟩
    go_wp2_with fail
    go_ret2
    exact ⟨⟨_, rfl, Or.inr rfl⟩, hb1⟩

theorem cutHead_no (b off g cap' : Nat) (bs : List Int) (w : World) (hx : ∀ x ∈ bs, IsB x) (h1 : BytesAt w b off bs) (h2 : BytesAt w g 0 headBytes) (hh : bs.take 3 ≠ headBytes) :
    Calls Try.prog 30 #[.slice (some ⟨b, off, none⟩) bs.length bs.length, .slice (some ⟨g, 0, none⟩) 3 cap'] w fun e w' => e = .returned (.tuple #[.slice (some ⟨b, off, none⟩) bs.length bs.length, .bool false]) ∧ Below w.heap.size w w' := by
  have HE := hid (hasHead_calls b off g cap' bs w hx h1 h2)
  rw [decide_eq_false hh] at HE
  clear hh
  generalize bs.length = n at *
  go_enter Try.func30, Try.ntmps30
  go_wp2_with fail
  refine HE.out.mono ?_
  rintro e w1 ⟨rfl, hb1⟩
  go_wp2_with fail
  go_ret2
  exact ⟨rfl, hb1⟩
end Go.Proofs.Ytmjcifaihmecmaa
