/- Does an instruction have what it needs: the program's answer, instruction by instruction. -/
import Derived.Test.YtfmkgppkgmjpfaaDoorImplTab
namespace Go.Proofs.YtfmkgppkgmjpfaaDoor
open Go.RowKit Go.Conc

theorem two_boxes (W : World) (o o' : Obj) : Below W.heap.size W ((W.alloc o).alloc o') := ((Below.refl _ _).alloc (Nat.le_refl _) _).alloc (by simp) _

set_option maxRecDepth 100000 in
theorem needs_0 (is : List In) (Fb : Nat) (a b c n v p : Int) (W : World) :
    Calls Tryd.prog 34 #[.pointer (some ⟨Fb, 0, none⟩), .agg #[.int .i64 0, .int .i64 a, .int .i64 b, .int .i64 c], .agg #[.int .i64 n, .int .i64 v, .int .i64 p]] W (BoolP (needsZ is ⟨0, a, b, c⟩ ⟨n, v, p⟩) W) := by
  have hz : needsZ is ⟨0, a, b, c⟩ ⟨n, v, p⟩ = decide (v = 1 ∧ p = 1) := by simp [needsZ]
  rw [hz]
  clear hz
  by_cases h1 : v = 1
  · subst h1
    by_cases h2 : p = 1
    · subst h2
      go_enter Tryd.func34, Tryd.ntmps34
      go_wp2_with fail
      go_ret
      exact ⟨rfl, two_boxes _ _ _⟩
    · have h2' : (p == 1) = false := by simp [h2]
      rw [decide_eq_false (fun h => h2 h.2)]
      clear h2
      go_enter Tryd.func34, Tryd.ntmps34
      go_wp2_with fail
      go_ret
      exact ⟨rfl, two_boxes _ _ _⟩
  · have h1' : (v == 1) = false := by simp [h1]
    rw [decide_eq_false (fun h => h1 h.1)]
    clear h1
    go_enter Tryd.func34, Tryd.ntmps34
    go_wp2_with fail
    go_ret
    exact ⟨rfl, two_boxes _ _ _⟩

set_option maxRecDepth 100000 in
theorem needs_1 (is : List In) (Fb : Nat) (a b c n v p : Int) (W : World) :
    Calls Tryd.prog 34 #[.pointer (some ⟨Fb, 0, none⟩), .agg #[.int .i64 1, .int .i64 a, .int .i64 b, .int .i64 c], .agg #[.int .i64 n, .int .i64 v, .int .i64 p]] W (BoolP (needsZ is ⟨1, a, b, c⟩ ⟨n, v, p⟩) W) := by
  have hz : needsZ is ⟨1, a, b, c⟩ ⟨n, v, p⟩ = true := by simp [needsZ]
  rw [hz]
  clear hz
  go_enter Tryd.func34, Tryd.ntmps34
  go_wp2_with fail
  go_ret
  exact ⟨rfl, two_boxes _ _ _⟩

set_option maxRecDepth 100000 in
theorem needs_2 (is : List In) (Fb : Nat) (a b c n v p : Int) (W : World) :
    Calls Tryd.prog 34 #[.pointer (some ⟨Fb, 0, none⟩), .agg #[.int .i64 2, .int .i64 a, .int .i64 b, .int .i64 c], .agg #[.int .i64 n, .int .i64 v, .int .i64 p]] W (BoolP (needsZ is ⟨2, a, b, c⟩ ⟨n, v, p⟩) W) := by
  have hz : needsZ is ⟨2, a, b, c⟩ ⟨n, v, p⟩ = true := by simp [needsZ]
  rw [hz]
  clear hz
  go_enter Tryd.func34, Tryd.ntmps34
  go_wp2_with fail
  go_ret
  exact ⟨rfl, two_boxes _ _ _⟩

set_option maxRecDepth 100000 in
theorem needs_3 (is : List In) (Fb : Nat) (a b c n v p : Int) (W : World) :
    Calls Tryd.prog 34 #[.pointer (some ⟨Fb, 0, none⟩), .agg #[.int .i64 3, .int .i64 a, .int .i64 b, .int .i64 c], .agg #[.int .i64 n, .int .i64 v, .int .i64 p]] W (BoolP (needsZ is ⟨3, a, b, c⟩ ⟨n, v, p⟩) W) := by
  have hz : needsZ is ⟨3, a, b, c⟩ ⟨n, v, p⟩ = true := by simp [needsZ]
  rw [hz]
  clear hz
  go_enter Tryd.func34, Tryd.ntmps34
  go_wp2_with fail
  go_ret
  exact ⟨rfl, two_boxes _ _ _⟩

set_option maxRecDepth 100000 in
theorem needs_4 (is : List In) (Fb : Nat) (a b c n v p : Int) (W : World) :
    Calls Tryd.prog 34 #[.pointer (some ⟨Fb, 0, none⟩), .agg #[.int .i64 4, .int .i64 a, .int .i64 b, .int .i64 c], .agg #[.int .i64 n, .int .i64 v, .int .i64 p]] W (BoolP (needsZ is ⟨4, a, b, c⟩ ⟨n, v, p⟩) W) := by
  have hz : needsZ is ⟨4, a, b, c⟩ ⟨n, v, p⟩ = true := by simp [needsZ]
  rw [hz]
  clear hz
  go_enter Tryd.func34, Tryd.ntmps34
  go_wp2_with fail
  go_ret
  exact ⟨rfl, two_boxes _ _ _⟩

set_option maxRecDepth 100000 in
theorem needs_5 (is : List In) (Fb : Nat) (a b c n v p : Int) (W : World) :
    Calls Tryd.prog 34 #[.pointer (some ⟨Fb, 0, none⟩), .agg #[.int .i64 5, .int .i64 a, .int .i64 b, .int .i64 c], .agg #[.int .i64 n, .int .i64 v, .int .i64 p]] W (BoolP (needsZ is ⟨5, a, b, c⟩ ⟨n, v, p⟩) W) := by
  have hz : needsZ is ⟨5, a, b, c⟩ ⟨n, v, p⟩ = decide (a < n) := by simp [needsZ]
  rw [hz]
  clear hz
  go_enter Tryd.func34, Tryd.ntmps34
  go_wp2_with fail
  go_ret
  exact ⟨rfl, two_boxes _ _ _⟩

set_option maxRecDepth 100000 in
theorem needs_6 (is : List In) (Fb : Nat) (a b c n v p : Int) (W : World) :
    Calls Tryd.prog 34 #[.pointer (some ⟨Fb, 0, none⟩), .agg #[.int .i64 6, .int .i64 a, .int .i64 b, .int .i64 c], .agg #[.int .i64 n, .int .i64 v, .int .i64 p]] W (BoolP (needsZ is ⟨6, a, b, c⟩ ⟨n, v, p⟩) W) := by
  have hz : needsZ is ⟨6, a, b, c⟩ ⟨n, v, p⟩ = true := by simp [needsZ]
  rw [hz]
  clear hz
  go_enter Tryd.func34, Tryd.ntmps34
  go_wp2_with fail
  go_ret
  exact ⟨rfl, two_boxes _ _ _⟩

set_option maxRecDepth 100000 in
theorem needs_7 (is : List In) (Fb : Nat) (a b c n v p : Int) (W : World) :
    Calls Tryd.prog 34 #[.pointer (some ⟨Fb, 0, none⟩), .agg #[.int .i64 7, .int .i64 a, .int .i64 b, .int .i64 c], .agg #[.int .i64 n, .int .i64 v, .int .i64 p]] W (BoolP (needsZ is ⟨7, a, b, c⟩ ⟨n, v, p⟩) W) := by
  have hz : needsZ is ⟨7, a, b, c⟩ ⟨n, v, p⟩ = true := by simp [needsZ]
  rw [hz]
  clear hz
  go_enter Tryd.func34, Tryd.ntmps34
  go_wp2_with fail
  go_ret
  exact ⟨rfl, two_boxes _ _ _⟩

set_option maxRecDepth 100000 in
theorem needs_8 (is : List In) (Fb : Nat) (a b c n v p : Int) (W : World) :
    Calls Tryd.prog 34 #[.pointer (some ⟨Fb, 0, none⟩), .agg #[.int .i64 8, .int .i64 a, .int .i64 b, .int .i64 c], .agg #[.int .i64 n, .int .i64 v, .int .i64 p]] W (BoolP (needsZ is ⟨8, a, b, c⟩ ⟨n, v, p⟩) W) := by
  have hz : needsZ is ⟨8, a, b, c⟩ ⟨n, v, p⟩ = decide (2 ≤ v) := by simp [needsZ]
  rw [hz]
  clear hz
  go_enter Tryd.func34, Tryd.ntmps34
  go_wp2_with fail
  go_ret
  exact ⟨rfl, two_boxes _ _ _⟩

set_option maxRecDepth 100000 in
theorem needs_9 (is : List In) (Fb : Nat) (a b c n v p : Int) (W : World) :
    Calls Tryd.prog 34 #[.pointer (some ⟨Fb, 0, none⟩), .agg #[.int .i64 9, .int .i64 a, .int .i64 b, .int .i64 c], .agg #[.int .i64 n, .int .i64 v, .int .i64 p]] W (BoolP (needsZ is ⟨9, a, b, c⟩ ⟨n, v, p⟩) W) := by
  have hz : needsZ is ⟨9, a, b, c⟩ ⟨n, v, p⟩ = decide (v = 1 ∧ p = 2) := by simp [needsZ]
  rw [hz]
  clear hz
  by_cases h1 : v = 1
  · subst h1
    by_cases h2 : p = 2
    · subst h2
      go_enter Tryd.func34, Tryd.ntmps34
      go_wp2_with fail
      go_ret
      exact ⟨rfl, two_boxes _ _ _⟩
    · have h2' : (p == 2) = false := by simp [h2]
      rw [decide_eq_false (fun h => h2 h.2)]
      clear h2
      go_enter Tryd.func34, Tryd.ntmps34
      go_wp2_with fail
      go_ret
      exact ⟨rfl, two_boxes _ _ _⟩
  · have h1' : (v == 1) = false := by simp [h1]
    rw [decide_eq_false (fun h => h1 h.1)]
    clear h1
    go_enter Tryd.func34, Tryd.ntmps34
    go_wp2_with fail
    go_ret
    exact ⟨rfl, two_boxes _ _ _⟩

set_option maxRecDepth 100000 in
theorem needs_10 (is : List In) (Fb : Nat) (a b c n v p : Int) (W : World) :
    Calls Tryd.prog 34 #[.pointer (some ⟨Fb, 0, none⟩), .agg #[.int .i64 10, .int .i64 a, .int .i64 b, .int .i64 c], .agg #[.int .i64 n, .int .i64 v, .int .i64 p]] W (BoolP (needsZ is ⟨10, a, b, c⟩ ⟨n, v, p⟩) W) := by
  have hz : needsZ is ⟨10, a, b, c⟩ ⟨n, v, p⟩ = decide (1 ≤ v) := by simp [needsZ]
  rw [hz]
  clear hz
  go_enter Tryd.func34, Tryd.ntmps34
  go_wp2_with fail
  go_ret
  exact ⟨rfl, two_boxes _ _ _⟩

set_option maxRecDepth 100000 in
theorem needs_11 (is : List In) (Fb : Nat) (a b c n v p : Int) (W : World) :
    Calls Tryd.prog 34 #[.pointer (some ⟨Fb, 0, none⟩), .agg #[.int .i64 11, .int .i64 a, .int .i64 b, .int .i64 c], .agg #[.int .i64 n, .int .i64 v, .int .i64 p]] W (BoolP (needsZ is ⟨11, a, b, c⟩ ⟨n, v, p⟩) W) := by
  have hz : needsZ is ⟨11, a, b, c⟩ ⟨n, v, p⟩ = true := by simp [needsZ]
  rw [hz]
  clear hz
  go_enter Tryd.func34, Tryd.ntmps34
  go_wp2_with fail
  go_ret
  exact ⟨rfl, two_boxes _ _ _⟩

set_option maxRecDepth 100000 in
theorem needs_12 (is : List In) (Fb : Nat) (a b c n v p : Int) (W : World) :
    Calls Tryd.prog 34 #[.pointer (some ⟨Fb, 0, none⟩), .agg #[.int .i64 12, .int .i64 a, .int .i64 b, .int .i64 c], .agg #[.int .i64 n, .int .i64 v, .int .i64 p]] W (BoolP (needsZ is ⟨12, a, b, c⟩ ⟨n, v, p⟩) W) := by
  have hz : needsZ is ⟨12, a, b, c⟩ ⟨n, v, p⟩ = decide (1 ≤ v) := by simp [needsZ]
  rw [hz]
  clear hz
  go_enter Tryd.func34, Tryd.ntmps34
  go_wp2_with fail
  go_ret
  exact ⟨rfl, two_boxes _ _ _⟩

set_option maxRecDepth 100000 in
theorem needs_13 (is : List In) (Fb : Nat) (a b c n v p : Int) (W : World) :
    Calls Tryd.prog 34 #[.pointer (some ⟨Fb, 0, none⟩), .agg #[.int .i64 13, .int .i64 a, .int .i64 b, .int .i64 c], .agg #[.int .i64 n, .int .i64 v, .int .i64 p]] W (BoolP (needsZ is ⟨13, a, b, c⟩ ⟨n, v, p⟩) W) := by
  have hz : needsZ is ⟨13, a, b, c⟩ ⟨n, v, p⟩ = decide (1 ≤ n) := by simp [needsZ]
  rw [hz]
  clear hz
  go_enter Tryd.func34, Tryd.ntmps34
  go_wp2_with fail
  go_ret
  exact ⟨rfl, two_boxes _ _ _⟩

set_option maxRecDepth 100000 in
theorem needs_14 (is : List In) (Fb : Nat) (a b c n v p : Int) (W : World) :
    Calls Tryd.prog 34 #[.pointer (some ⟨Fb, 0, none⟩), .agg #[.int .i64 14, .int .i64 a, .int .i64 b, .int .i64 c], .agg #[.int .i64 n, .int .i64 v, .int .i64 p]] W (BoolP (needsZ is ⟨14, a, b, c⟩ ⟨n, v, p⟩) W) := by
  have hz : needsZ is ⟨14, a, b, c⟩ ⟨n, v, p⟩ = decide (2 ≤ v) := by simp [needsZ]
  rw [hz]
  clear hz
  go_enter Tryd.func34, Tryd.ntmps34
  go_wp2_with fail
  go_ret
  exact ⟨rfl, two_boxes _ _ _⟩

set_option maxRecDepth 100000 in
theorem needs_15 (is : List In) (Fb : Nat) (a b c n v p : Int) (W : World) :
    Calls Tryd.prog 34 #[.pointer (some ⟨Fb, 0, none⟩), .agg #[.int .i64 15, .int .i64 a, .int .i64 b, .int .i64 c], .agg #[.int .i64 n, .int .i64 v, .int .i64 p]] W (BoolP (needsZ is ⟨15, a, b, c⟩ ⟨n, v, p⟩) W) := by
  have hz : needsZ is ⟨15, a, b, c⟩ ⟨n, v, p⟩ = decide (2 ≤ v) := by simp [needsZ]
  rw [hz]
  clear hz
  go_enter Tryd.func34, Tryd.ntmps34
  go_wp2_with fail
  go_ret
  exact ⟨rfl, two_boxes _ _ _⟩

set_option maxRecDepth 100000 in
theorem needs_16 (is : List In) (Fb : Nat) (a b c n v p : Int) (W : World) :
    Calls Tryd.prog 34 #[.pointer (some ⟨Fb, 0, none⟩), .agg #[.int .i64 16, .int .i64 a, .int .i64 b, .int .i64 c], .agg #[.int .i64 n, .int .i64 v, .int .i64 p]] W (BoolP (needsZ is ⟨16, a, b, c⟩ ⟨n, v, p⟩) W) := by
  have hz : needsZ is ⟨16, a, b, c⟩ ⟨n, v, p⟩ = decide (1 ≤ v) := by simp [needsZ]
  rw [hz]
  clear hz
  go_enter Tryd.func34, Tryd.ntmps34
  go_wp2_with fail
  go_ret
  exact ⟨rfl, two_boxes _ _ _⟩

set_option maxRecDepth 100000 in
theorem needs_17 (is : List In) (Fb : Nat) (a b c n v p : Int) (W : World) :
    Calls Tryd.prog 34 #[.pointer (some ⟨Fb, 0, none⟩), .agg #[.int .i64 17, .int .i64 a, .int .i64 b, .int .i64 c], .agg #[.int .i64 n, .int .i64 v, .int .i64 p]] W (BoolP (needsZ is ⟨17, a, b, c⟩ ⟨n, v, p⟩) W) := by
  have hz : needsZ is ⟨17, a, b, c⟩ ⟨n, v, p⟩ = decide (1 ≤ v) := by simp [needsZ]
  rw [hz]
  clear hz
  go_enter Tryd.func34, Tryd.ntmps34
  go_wp2_with fail
  go_ret
  exact ⟨rfl, two_boxes _ _ _⟩

set_option maxRecDepth 100000 in
theorem needs_18 (is : List In) (Fb : Nat) (a b c n v p : Int) (W : World) :
    Calls Tryd.prog 34 #[.pointer (some ⟨Fb, 0, none⟩), .agg #[.int .i64 18, .int .i64 a, .int .i64 b, .int .i64 c], .agg #[.int .i64 n, .int .i64 v, .int .i64 p]] W (BoolP (needsZ is ⟨18, a, b, c⟩ ⟨n, v, p⟩) W) := by
  have hz : needsZ is ⟨18, a, b, c⟩ ⟨n, v, p⟩ = decide (2 ≤ v) := by simp [needsZ]
  rw [hz]
  clear hz
  go_enter Tryd.func34, Tryd.ntmps34
  go_wp2_with fail
  go_ret
  exact ⟨rfl, two_boxes _ _ _⟩

set_option maxRecDepth 100000 in
theorem needs_19 (is : List In) (Fb : Nat) (a b c n v p : Int) (W : World) :
    Calls Tryd.prog 34 #[.pointer (some ⟨Fb, 0, none⟩), .agg #[.int .i64 19, .int .i64 a, .int .i64 b, .int .i64 c], .agg #[.int .i64 n, .int .i64 v, .int .i64 p]] W (BoolP (needsZ is ⟨19, a, b, c⟩ ⟨n, v, p⟩) W) := by
  have hz : needsZ is ⟨19, a, b, c⟩ ⟨n, v, p⟩ = decide (1 ≤ v) := by simp [needsZ]
  rw [hz]
  clear hz
  go_enter Tryd.func34, Tryd.ntmps34
  go_wp2_with fail
  go_ret
  exact ⟨rfl, two_boxes _ _ _⟩

set_option maxRecDepth 100000 in
theorem needs_20 (is : List In) (Fb : Nat) (a b c n v p : Int) (W : World) :
    Calls Tryd.prog 34 #[.pointer (some ⟨Fb, 0, none⟩), .agg #[.int .i64 20, .int .i64 a, .int .i64 b, .int .i64 c], .agg #[.int .i64 n, .int .i64 v, .int .i64 p]] W (BoolP (needsZ is ⟨20, a, b, c⟩ ⟨n, v, p⟩) W) := by
  have hz : needsZ is ⟨20, a, b, c⟩ ⟨n, v, p⟩ = decide (1 ≤ v) := by simp [needsZ]
  rw [hz]
  clear hz
  go_enter Tryd.func34, Tryd.ntmps34
  go_wp2_with fail
  go_ret
  exact ⟨rfl, two_boxes _ _ _⟩

set_option maxRecDepth 100000 in
theorem needs_21 (is : List In) (Fb : Nat) (a b c n v p : Int) (W : World) (hT : ∀ X, Below W.heap.size W X → Calls Tryd.prog 42 #[.pointer (some ⟨Fb, 0, none⟩), .int .i64 a] X (BoolP (tableZ is a) X)) :
    Calls Tryd.prog 34 #[.pointer (some ⟨Fb, 0, none⟩), .agg #[.int .i64 21, .int .i64 a, .int .i64 b, .int .i64 c], .agg #[.int .i64 n, .int .i64 v, .int .i64 p]] W (BoolP (needsZ is ⟨21, a, b, c⟩ ⟨n, v, p⟩) W) := by
  have hz : needsZ is ⟨21, a, b, c⟩ ⟨n, v, p⟩ = tableZ is a := by simp [needsZ]
  rw [hz]
  have HT := hid hT
  clear hT hz
  go_enter Tryd.func34, Tryd.ntmps34
  go_wp2_with fail
  refine (HT.out _ (two_boxes _ _ _)).mono ?_
  rintro e X ⟨rfl, hb⟩
  have HB := hid ((two_boxes W _ _).trans (hb.mono (two_boxes W _ _).size))
  clear hb
  go_wp2_with fail
  go_ret
  exact ⟨rfl, HB.out⟩

set_option maxRecDepth 100000 in
theorem needs_22 (is : List In) (Fb : Nat) (a b c n v p : Int) (W : World) :
    Calls Tryd.prog 34 #[.pointer (some ⟨Fb, 0, none⟩), .agg #[.int .i64 22, .int .i64 a, .int .i64 b, .int .i64 c], .agg #[.int .i64 n, .int .i64 v, .int .i64 p]] W (BoolP (needsZ is ⟨22, a, b, c⟩ ⟨n, v, p⟩) W) := by
  have hz : needsZ is ⟨22, a, b, c⟩ ⟨n, v, p⟩ = decide (1 ≤ v) := by simp [needsZ]
  rw [hz]
  clear hz
  go_enter Tryd.func34, Tryd.ntmps34
  go_wp2_with fail
  go_ret
  exact ⟨rfl, two_boxes _ _ _⟩

set_option maxRecDepth 100000 in
theorem needs_23 (is : List In) (Fb : Nat) (a b c n v p : Int) (W : World) :
    Calls Tryd.prog 34 #[.pointer (some ⟨Fb, 0, none⟩), .agg #[.int .i64 23, .int .i64 a, .int .i64 b, .int .i64 c], .agg #[.int .i64 n, .int .i64 v, .int .i64 p]] W (BoolP (needsZ is ⟨23, a, b, c⟩ ⟨n, v, p⟩) W) := by
  have hz : needsZ is ⟨23, a, b, c⟩ ⟨n, v, p⟩ = decide (v = 1 ∧ p = 3) := by simp [needsZ]
  rw [hz]
  clear hz
  by_cases h1 : v = 1
  · subst h1
    by_cases h2 : p = 3
    · subst h2
      go_enter Tryd.func34, Tryd.ntmps34
      go_wp2_with fail
      go_ret
      exact ⟨rfl, two_boxes _ _ _⟩
    · have h2' : (p == 3) = false := by simp [h2]
      rw [decide_eq_false (fun h => h2 h.2)]
      clear h2
      go_enter Tryd.func34, Tryd.ntmps34
      go_wp2_with fail
      go_ret
      exact ⟨rfl, two_boxes _ _ _⟩
  · have h1' : (v == 1) = false := by simp [h1]
    rw [decide_eq_false (fun h => h1 h.1)]
    clear h1
    go_enter Tryd.func34, Tryd.ntmps34
    go_wp2_with fail
    go_ret
    exact ⟨rfl, two_boxes _ _ _⟩

set_option maxRecDepth 100000 in
theorem needs_24 (is : List In) (Fb : Nat) (a b c n v p : Int) (W : World) :
    Calls Tryd.prog 34 #[.pointer (some ⟨Fb, 0, none⟩), .agg #[.int .i64 24, .int .i64 a, .int .i64 b, .int .i64 c], .agg #[.int .i64 n, .int .i64 v, .int .i64 p]] W (BoolP (needsZ is ⟨24, a, b, c⟩ ⟨n, v, p⟩) W) := by
  have hz : needsZ is ⟨24, a, b, c⟩ ⟨n, v, p⟩ = false := by simp [needsZ]
  rw [hz]
  clear hz
  go_enter Tryd.func34, Tryd.ntmps34
  go_wp2_with fail
  go_ret
  exact ⟨rfl, two_boxes _ _ _⟩

set_option maxRecDepth 100000 in
theorem needs_25 (is : List In) (Fb : Nat) (a b c n v p : Int) (W : World) :
    Calls Tryd.prog 34 #[.pointer (some ⟨Fb, 0, none⟩), .agg #[.int .i64 25, .int .i64 a, .int .i64 b, .int .i64 c], .agg #[.int .i64 n, .int .i64 v, .int .i64 p]] W (BoolP (needsZ is ⟨25, a, b, c⟩ ⟨n, v, p⟩) W) := by
  have hz : needsZ is ⟨25, a, b, c⟩ ⟨n, v, p⟩ = false := by simp [needsZ]
  rw [hz]
  clear hz
  go_enter Tryd.func34, Tryd.ntmps34
  go_wp2_with fail
  go_ret
  exact ⟨rfl, two_boxes _ _ _⟩

theorem needs_calls {Fb bc oc cc : Nat} {is : List In} {W : World} (hF : W.cell? ⟨Fb, 0, none⟩ = some (.slice (some ⟨bc, oc, none⟩) is.length cc)) (hin : InsAt W bc oc is) (hbc : bc < W.heap.size) (hcc : is.length ≤ cc) (hN : is.length ≤ 1500) (hall : ∀ i ∈ is, i.ok = true) (i : In) (hi : i.ok = true) (s : Sq) :
    Calls Tryd.prog 34 #[.pointer (some ⟨Fb, 0, none⟩), .agg #[.int .i64 i.op, .int .i64 i.a, .int .i64 i.b, .int .i64 i.c], .agg #[.int .i64 s.n, .int .i64 s.v, .int .i64 s.p]] W (BoolP (needsZ is i s) W) := by
  obtain ⟨op, a, b, c⟩ := i
  obtain ⟨n, v, p⟩ := s
  have ho : 0 ≤ op ∧ op ≤ 25 := by
    unfold In.ok insOkZ at hi
    split at hi
    · cases hi
    · rename_i hn
      have h0 : ¬ manyZ op < 0 := fun e => hn (Or.inl e)
      unfold manyZ at h0
      repeat' split at h0
      all_goals omega
  dsimp only
  rcases ops_cases op with hz | hz
  · omega
  rcases hz with rfl | rfl | rfl | rfl | rfl | rfl | rfl | rfl | rfl | rfl | rfl | rfl | rfl | rfl | rfl | rfl | rfl | rfl | rfl | rfl | rfl | rfl | rfl | rfl | rfl | rfl
  · exact needs_0 is Fb a b c n v p W
  · exact needs_1 is Fb a b c n v p W
  · exact needs_2 is Fb a b c n v p W
  · exact needs_3 is Fb a b c n v p W
  · exact needs_4 is Fb a b c n v p W
  · exact needs_5 is Fb a b c n v p W
  · exact needs_6 is Fb a b c n v p W
  · exact needs_7 is Fb a b c n v p W
  · exact needs_8 is Fb a b c n v p W
  · exact needs_9 is Fb a b c n v p W
  · exact needs_10 is Fb a b c n v p W
  · exact needs_11 is Fb a b c n v p W
  · exact needs_12 is Fb a b c n v p W
  · exact needs_13 is Fb a b c n v p W
  · exact needs_14 is Fb a b c n v p W
  · exact needs_15 is Fb a b c n v p W
  · exact needs_16 is Fb a b c n v p W
  · exact needs_17 is Fb a b c n v p W
  · exact needs_18 is Fb a b c n v p W
  · exact needs_19 is Fb a b c n v p W
  · exact needs_20 is Fb a b c n v p W
  · have hn := ok_nums hi (by dsimp only; decide) (by dsimp only; decide) (by dsimp only; decide)
    exact needs_21 is Fb a b c n v p W (fun X hX => isTable_calls ((hX.cell (block_in0 hF)).trans hF) (hin.below hX hbc) (Nat.lt_of_lt_of_le hbc hX.size) hcc hN hall a hn.1 hn.2.1)
  · exact needs_22 is Fb a b c n v p W
  · exact needs_23 is Fb a b c n v p W
  · exact needs_24 is Fb a b c n v p W
  · exact needs_25 is Fb a b c n v p W
end Go.Proofs.YtfmkgppkgmjpfaaDoor
