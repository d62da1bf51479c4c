/- The namer's small functions: a scope around another, what a name stands for, which names a node makes known, a name made anew. -/
import Derived.Test.YtgiejnmphfgmgaaGreatDoorNameSt
import Derived.Test.YtgiejnmphfgmgaaGreatDoorShelf
import Derived.Lib.SmallJoins
namespace Go.Proofs.YtgiejnmphfgmgaaGreatDoor
open Go.RowKit Go.Deep

/-- The table that numbers are written by. -/
structure Laid (w : World) : Prop where
  pows : Lib.TabIs Tryz.prog w "internal/strconv.uint64pow10" .u64 Lib.pow10Tab

theorem gPows : Tryz.prog.globalNamed "internal/strconv.uint64pow10" = some 0 := by kernel_rfl

set_option maxRecDepth 100000 in
theorem with_calls (p : Option Addr) (x y : ByteArray) (w : World) :
    Calls Tryz.prog 91 #[.pointer p, .string x, .string y] w fun e w' => e = .returned (.pointer (some ⟨w.heap.size, 0, none⟩)) ∧ w' = w.alloc (.cells #[.string x, .string y, .pointer p] 173) := by
  go_enter Tryz.func91, Tryz.ntmps91
  go_wp2_with fail
  go_ret
  exact ⟨rfl, rfl⟩

theorem slice_lit (w : World) (o1 : Obj) (ss : List ByteArray) : SliceOf w.heap.size ((w.alloc o1).alloc (.cells (strRow ss).toArray 9)) (.slice (some ⟨w.heap.size + 1, 0, none⟩) (strRow ss).length (strRow ss).length) (strRow ss) := row_new w o1 (strRow ss) 9

theorem known_none (w : World) (o1 : Obj) : SliceOf w.heap.size (w.alloc o1) (.slice none 0 0) (strRow []) := Or.inl ⟨rfl, none, 0, rfl⟩

theorem one_new' (w : World) (o1 : Obj) : Below w.heap.size w (w.alloc o1) := (Below.refl _ _).alloc (Nat.le_refl _) _

set_option maxHeartbeats 2000000 in
set_option maxRecDepth 100000 in
theorem known_calls (n : Nd) (i : Nat) (w : World) :
    Calls Tryz.prog 90 #[ndV n, .int .i64 (i : Int)] w fun e w' => ∃ sv, e = .returned sv ∧ SliceOf w.heap.size w' sv (strRow (knownZ n i)) ∧ Below w.heap.size w w' := by
  obtain ⟨kd, num, a, b, c, kids⟩ := n
  have h1 : ∀ i : Nat, ((i : Int) = 1) ↔ (i = 1) := fun i => by omega
  have h2 : ∀ i : Nat, ((i : Int) = 2) ↔ (i = 2) := fun i => by omega
  unfold ndV
  dsimp only
  go_enter Tryz.func90, Tryz.ntmps90
  by_cases k6 : kd = 6
  · have hz : knownZ ⟨kd, num, a, b, c, kids⟩ i = [a] := by unfold knownZ; rw [if_pos (Or.inl k6)]
    rw [hz]
    subst k6
    go_wp2_with fail
    go_ret
    exact ⟨_, rfl, slice_lit w _ [a], below_two w _ _⟩
  by_cases k25 : kd = 25
  · have hz : knownZ ⟨kd, num, a, b, c, kids⟩ i = [a] := by unfold knownZ; rw [if_pos (Or.inr k25)]
    rw [hz]
    subst k25
    go_wp2_with fail
    go_ret
    exact ⟨_, rfl, slice_lit w _ [a], below_two w _ _⟩
  by_cases k8 : kd = 8
  · subst k8
    by_cases i1 : (i : Int) = 1
    · have hz : knownZ ⟨8, num, a, b, c, kids⟩ i = [a] := by unfold knownZ; rw [if_neg (by dsimp only; decide), if_pos (Or.inl ⟨rfl, (h1 i).1 i1⟩)]
      rw [hz]
      go_wp2_with fail
      go_ret
      exact ⟨_, rfl, slice_lit w _ [a], below_two w _ _⟩
    · have hz : knownZ ⟨8, num, a, b, c, kids⟩ i = [] := by
        unfold knownZ
        rw [if_neg (by dsimp only; decide), if_neg (by rintro (⟨-, h⟩ | ⟨h, -⟩); exact i1 ((h1 i).2 h); cases h), if_neg (by rintro (h | ⟨h, -⟩) <;> cases h), if_neg (by dsimp only; decide)]
      rw [hz]
      go_wp2_with fail
      go_ret
      exact ⟨_, rfl, known_none w _, one_new' w _⟩
  by_cases k9 : kd = 9
  · subst k9
    by_cases i1 : (i : Int) = 1
    · have hz : knownZ ⟨9, num, a, b, c, kids⟩ i = [a] := by unfold knownZ; rw [if_neg (by dsimp only; decide), if_pos (Or.inr ⟨rfl, (h1 i).1 i1⟩)]
      rw [hz]
      go_wp2_with fail
      go_ret
      exact ⟨_, rfl, slice_lit w _ [a], below_two w _ _⟩
    · have hz : knownZ ⟨9, num, a, b, c, kids⟩ i = [a, b] := by
        unfold knownZ
        rw [if_neg (by dsimp only; decide), if_neg (by rintro (⟨h, -⟩ | ⟨-, h⟩); cases h; exact i1 ((h1 i).2 h)), if_pos (Or.inl rfl)]
      rw [hz]
      go_wp2_with fail
      go_ret
      exact ⟨_, rfl, slice_lit w _ [a, b], below_two w _ _⟩
  by_cases k20 : kd = 20
  · subst k20
    by_cases i2 : (i : Int) = 2
    · have hz : knownZ ⟨20, num, a, b, c, kids⟩ i = [a, b] := by
        unfold knownZ
        rw [if_neg (by dsimp only; decide), if_neg (by rintro (⟨h, -⟩ | ⟨h, -⟩) <;> cases h), if_pos (Or.inr ⟨rfl, (h2 i).1 i2⟩)]
      rw [hz]
      go_wp2_with fail
      go_ret
      exact ⟨_, rfl, slice_lit w _ [a, b], below_two w _ _⟩
    · have hz : knownZ ⟨20, num, a, b, c, kids⟩ i = [] := by
        unfold knownZ
        rw [if_neg (by dsimp only; decide), if_neg (by rintro (⟨h, -⟩ | ⟨h, -⟩) <;> cases h), if_neg (by rintro (h | ⟨-, h⟩); cases h; exact i2 ((h2 i).2 h)), if_neg (by dsimp only; decide)]
      rw [hz]
      go_wp2_with fail
      go_ret
      exact ⟨_, rfl, known_none w _, one_new' w _⟩
  by_cases k26 : kd = 26
  · subst k26
    have hz : knownZ ⟨26, num, a, b, c, kids⟩ i = [b, c] := by
      unfold knownZ
      rw [if_neg (by dsimp only; decide), if_neg (by rintro (⟨h, -⟩ | ⟨h, -⟩) <;> cases h), if_neg (by rintro (h | ⟨h, -⟩) <;> cases h), if_pos rfl]
    rw [hz]
    go_wp2_with fail
    go_ret
    exact ⟨_, rfl, slice_lit w _ [b, c], below_two w _ _⟩
  · have hz : knownZ ⟨kd, num, a, b, c, kids⟩ i = [] := by
      unfold knownZ
      rw [if_neg (by rintro (h | h); exact k6 h; exact k25 h), if_neg (by rintro (⟨h, -⟩ | ⟨h, -⟩); exact k8 h; exact k9 h), if_neg (by rintro (h | ⟨h, -⟩); exact k9 h; exact k20 h), if_neg k26]
    rw [hz]
    have b6 : (kd == 6) = false := beq_eq_false_iff_ne.2 k6
    have b25 : (kd == 25) = false := beq_eq_false_iff_ne.2 k25
    have b8 : (kd == 8) = false := beq_eq_false_iff_ne.2 k8
    have b9 : (kd == 9) = false := beq_eq_false_iff_ne.2 k9
    have b20 : (kd == 20) = false := beq_eq_false_iff_ne.2 k20
    have b26 : (kd == 26) = false := beq_eq_false_iff_ne.2 k26
    clear hz h1 h2
    go_wp2_with fail
    go_ret
    exact ⟨_, rfl, known_none w _, one_new' w _⟩

/-- How far a scope reaches, for the loop. -/
def scoLen : Nat → World → Value → Nat
  | 0, _, _ => 0
  | f + 1, W, .pointer (some a) => (match W.cell? ⟨a.block, 2, none⟩ with
    | some v => 1 + scoLen f W v
    | none => 0)
  | _ + 1, _, _ => 0

theorem scoLen_eq {W : World} : ∀ (sc : Sco) (f : Nat) (p : Option Addr), ScoAt W p sc → sc.length ≤ f → scoLen f W (.pointer p) = sc.length
  | [], f, p, h, _ => by
    rw [show p = none from h]
    cases f <;> rfl
  | (x, y) :: r, 0, p, _, hf => by simp at hf
  | (x, y) :: r, f + 1, p, ⟨b, q, e, hb, hr⟩, hf => by
    subst e
    unfold scoLen
    rw [cell_of_heap hb 2]
    have := scoLen_eq r f q hr (by simpa using hf)
    simp only [List.length_cons]
    show 1 + scoLen f W (.pointer q) = _
    omega

theorem str_eq (x s : ByteArray) : (x.toList == s.toList) = decide (x = s) := by
  rw [ByteArray.toList_eq, ByteArray.toList_eq]
  by_cases h : x = s
  · subst h
    simp
  · rw [decide_eq_false h]
    rw [beq_eq_false_iff_ne]
    intro e
    exact h (by cases x; cases s; simp_all)

set_option maxHeartbeats 1000000 in
set_option maxRecDepth 100000 in
theorem find_calls (p : Option Addr) (sc : Sco) (s : ByteArray) (w : World) (h : ScoAt w p sc) :
    Calls Tryz.prog 108 #[.pointer p, .string s] w fun e w' => e = .returned (.tuple #[.string ((findS sc s).getD ⟨#[]⟩), .bool (findS sc s).isSome]) ∧ w = w' := by
  obtain ⟨R, hR⟩ : ∃ R, findS sc s = R := ⟨_, rfl⟩
  have HR := hid hR
  have HS := hid h
  rw [hR]
  clear hR h
  go_enter Tryz.func108, Tryz.ntmps108
  go_wp2_with fail
  go_loop [0] (fun v => ∃ (q : Option Addr) (r : Sco), v = .pointer q ∧ Hid (ScoAt w q r ∧ findS r s = R ∧ r.length ≤ sc.length)) (fun v => scoLen sc.length w v)
  case atStart => exact ⟨p, sc, rfl, HS.out, HR.out, Nat.le_refl _⟩
  case round =>
    obtain ⟨q, r, rfl, HQ⟩ := hrel
    cases r with
    | nil =>
      have e : q = none := HQ.out.1
      subst e
      have hR0 : R = none := HQ.out.2.1.symm
      subst hR0
      go_wp2_with fail
      go_ret2
      exact ⟨rfl, rfl⟩
    | cons xy r =>
      obtain ⟨x, y⟩ := xy
      obtain ⟨⟨b, q', e, hb, hr⟩, hf, hl⟩ := HQ.out
      subst e
      have c0 := cell_of_heap hb 0
      have c1 := cell_of_heap hb 1
      have c2 := cell_of_heap hb 2
      simp at c0 c1 c2
      have HB := hid hb
      have Hr := hid hr
      have hxs := str_eq x s
      by_cases he : x = s
      · subst he
        unfold findS at hf
        rw [if_pos rfl] at hf
        subst hf
        clear hb hr hl HQ
        go_wp2_with fail
        go_ret2
        exact ⟨rfl, rfl⟩
      · rw [decide_eq_false he] at hxs
        unfold findS at hf
        rw [if_neg he] at hf
        have HF := hid hf
        have HL := hid hl
        clear hb hr hl hf
        go_wp2_with fail
        refine ⟨⟨q', r, rfl, Hr.out, HF.out, by have := HL.out; simp at this; omega⟩, ?_⟩
        rw [scoLen_eq r _ q' Hr.out (by have := HL.out; simp at this; omega), scoLen_eq ((x, y) :: r) _ _ HQ.out.1 HL.out]
        simp
end Go.Proofs.YtgiejnmphfgmgaaGreatDoor
