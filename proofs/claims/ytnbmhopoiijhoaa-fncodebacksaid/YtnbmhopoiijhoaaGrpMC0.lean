/- Lists of names, as the specification handles them. -/
import Derived.Test.YtnbmhopoiijhoaaNameEnd
import Derived.Test.YtnbmhopoiijhoaaStagesL
import Derived.Test.YtnbmhopoiijhoaaKeyWalks
import Derived.Test.YtnbmhopoiijhoaaRows
import Derived.WalkKit
import Derived.ProofKit
import Derived.Laws.Bits64
import Derived.Test.YtnbmhopoiijhoaaOwnRow
import Derived.Test.YtnbmhopoiijhoaaNodeArgs
import Derived.Maps.AppendAt
import Derived.OwnWalk
import Derived.Test.YtnbmhopoiijhoaaSpecDeep
import Derived.Test.YtnbmhopoiijhoaaCompBound
import Derived.Laws.OwnMore
import Derived.Test.YtnbmhopoiijhoaaStagesN
import Derived.Deep.CutRange
import Derived.Deep.CutBlock
namespace Go.Proofs.Ytnbmhopoiijhoaa
open Go.RowKit Go.Deep

/-- A slice of names. -/
def NamesV (W : World) (v : Value) (ss : List ByteArray) : Prop :=
  (v = .slice none 0 0 ∧ ss = []) ∨ ∃ g o c, v = .slice (some ⟨g, o, none⟩) ss.length c ∧ g < W.heap.size ∧ ∀ j, j < ss.length → W.cell? ⟨g, o + j, none⟩ = some (.string (ss.getD j ⟨#[]⟩))

theorem names_none (W : World) : NamesV W (.slice none 0 0) [] := Or.inl ⟨rfl, rfl⟩

theorem NamesV.below {W W' : World} {v : Value} {ss : List ByteArray} (h : NamesV W v ss) (hb : Below W.heap.size W W') : NamesV W' v ss := by
  rcases h with h | ⟨g, o, c, e, hg, hc⟩
  · exact Or.inl h
  · exact Or.inr ⟨g, o, c, e, Nat.lt_of_lt_of_le hg hb.size, fun j hj => (hb.cell (p := ⟨g, o + j, none⟩) hg).trans (hc j hj)⟩

theorem NamesV.slice {W : World} {v : Value} {ss : List ByteArray} (h : NamesV W v ss) : ∃ ad c, v = .slice ad ss.length c := by
  rcases h with ⟨rfl, rfl⟩ | ⟨g, o, c, rfl, -⟩
  · exact ⟨none, 0, rfl⟩
  · exact ⟨_, _, rfl⟩

theorem NamesV.cell {W : World} {ad : Option Addr} {n c : Nat} {ss : List ByteArray} (h : NamesV W (.slice ad n c) ss) (hn : 0 < n) : n = ss.length ∧ ∃ g o, ad = some ⟨g, o, none⟩ ∧ g < W.heap.size ∧ ∀ j, j < n → W.cell? ⟨g, o + j, none⟩ = some (.string (ss.getD j ⟨#[]⟩)) := by
  rcases h with ⟨e, -⟩ | ⟨g, o, c', e, hg, hc⟩
  · cases e; omega
  · cases e
    exact ⟨rfl, g, o, rfl, hg, hc⟩

theorem strRow_len (ss : List ByteArray) : (strRow ss).length = ss.length := by unfold strRow; simp

theorem strRow_get (ss : List ByteArray) (j : Nat) (h : j < ss.length) : (strRow ss)[j]? = some (.string (ss.getD j ⟨#[]⟩)) := by
  unfold strRow
  simp [List.getD, h]

theorem names_owns {W : World} {B : Nat} {v : Value} {n : Nat} {ss : List ByteArray} (h : W.ownsRow B 9 1 v n (strRow ss)) : NamesV W v ss ∧ n = ss.length := by
  have hl : n = ss.length := by have := h.1; rw [strRow_len] at this; omega
  subst hl
  refine ⟨?_, rfl⟩
  have h' := h
  obtain ⟨-, ⟨rfl, h0⟩ | ⟨g, cap, cur, rfl, hB, hc, hr⟩⟩ := h
  · exact Or.inl ⟨rfl, List.eq_nil_of_length_eq_zero h0⟩
  · refine Or.inr ⟨g, 0, cap, rfl, heap_lt hc, fun j hj => ?_⟩
    rw [Nat.zero_add, h'.cellAt j (by omega), strRow_get ss j hj]

theorem names_lit (w : World) (o1 : Obj) (ss : List ByteArray) : NamesV ((w.alloc o1).alloc (.cells (strRow ss).toArray 9)) (.slice (some ⟨w.heap.size + 1, 0, none⟩) ss.length ss.length) ss := by
  have hh := (MapKept.heap_alloc (w.alloc o1) (.cells (strRow ss).toArray 9)).1
  rw [show (w.alloc o1).heap.size = w.heap.size + 1 by simp] at hh
  refine Or.inr ⟨_, 0, _, rfl, heap_lt hh, fun j hj => ?_⟩
  rw [Nat.zero_add, cell_of_heap hh j]
  simp only [List.getElem?_toArray]
  exact strRow_get ss j hj

/-- Names appended to a row of one's own. -/
theorem app_names {W : World} {B : Nat} {v xv : Value} {n : Nat} {ss ys : List ByteArray} (ty : TypeId) (hown : W.ownsRow B 9 1 v n (strRow ss)) (hx : NamesV W xv ys) (hm : ss.length + ys.length ≤ 200000) (hB : B ≤ W.heap.size) :
    ∃ v' W', (Builtin.append_ #[64, 64] ty #[v, xv]).run Try.prog W = .ok v' W' ∧ W'.ownsRow B 9 1 v' (ss ++ ys).length (strRow (ss ++ ys)) ∧ W.grownBy W' v.ownBlock ∧ (v'.ownBlock = v.ownBlock ∨ v'.ownBlock = some W.heap.size) := by
  obtain ⟨i0, hi, hz0, hz1, hz2⟩ := info_parts info_str
  have hn : n = ss.length := (names_owns hown).2
  subst hn
  rcases hx with ⟨rfl, rfl⟩ | ⟨g, o, c, rfl, hg, hc⟩
  · refine ⟨v, W, run_append_owned_none W B 64 ty 9 i0 1 Try.underlying64 hi v _ _ hown, ?_, ⟨rfl, rfl, rfl, Nat.le_refl _, fun _ _ _ => rfl⟩, Or.inl rfl⟩
    rw [List.append_nil]
    exact hown
  · obtain ⟨v', W', hr, h2, h3, -, h5⟩ := run_append_own_at (P := Try.prog) W B 64 ty 9 i0 _ 1 16 Try.underlying64 hi hz0 hz1 hz2 rfl (by decide) v ss.length (strRow ss) hown ⟨g, o, none⟩ ys.length c (strRow ys) (by rw [strRow_len]; omega)
      (fun j u hu => by
        have hj : j < ys.length := by
          have := (List.getElem?_eq_some_iff.1 hu).1
          rwa [strRow_len] at this
        rw [strRow_get ys j hj] at hu
        cases hu
        rw [Addr.add_lit]
        exact hc j hj)
      (fun u hu => by unfold strRow at hu; rw [List.mem_map] at hu; obtain ⟨x, -, rfl⟩ := hu; rfl) (by unfold maxLen; omega) (by omega) hB
    refine ⟨v', W', hr, ?_, h3, h5⟩
    rw [List.length_append]
    have e : strRow (ss ++ ys) = strRow ss ++ strRow ys := by unfold strRow; rw [List.map_append]
    rw [e]
    exact h2

set_option maxHeartbeats 2000000 in
set_option maxRecDepth 100000 in
theorem binds_calls (n : Nd) (i : Nat) (w : World) (hk2 : n.kind = 9 → i < 2) :
    Calls Try.prog 71 #[ndV n, .int .i64 (i : Int)] w fun e w' => ∃ sv, e = .returned sv ∧ NamesV w' sv (knownZ n i) ∧ Below w.heap.size w w' := by
  obtain ⟨kd, num, a, b, c, kids⟩ := n
  have h1 : ∀ i : Nat, ((i : Int) = 1) ↔ (i = 1) := fun i => by omega
  have h2 : ∀ i : Nat, ((i : Int) = 2) ↔ (i = 2) := fun i => by omega
  unfold ndV
  dsimp only at hk2 ⊢
  go_enter Try.func71, Try.ntmps71
  by_cases k6 : kd = 6
  · have hz : knownZ ⟨kd, num, a, b, c, kids⟩ i = [a] := by unfold knownZ; rw [if_pos (Or.inl k6)]
    rw [hz]
    subst k6
    go_wp2_with fail
    go_ret
    exact ⟨_, rfl, names_lit w _ [a], below_two w _ _⟩
  by_cases k25 : kd = 25
  · have hz : knownZ ⟨kd, num, a, b, c, kids⟩ i = [a] := by unfold knownZ; rw [if_pos (Or.inr k25)]
    rw [hz]
    subst k25
    go_wp2_with fail
    go_ret
    exact ⟨_, rfl, names_lit w _ [a], below_two w _ _⟩
  by_cases k8 : kd = 8
  · subst k8
    by_cases i1 : (i : Int) = 1
    · have hz : knownZ ⟨8, num, a, b, c, kids⟩ i = [a] := by unfold knownZ; rw [if_neg (by dsimp only; decide), if_pos (Or.inl ⟨rfl, (h1 i).1 i1⟩)]
      rw [hz]
      go_wp2_with fail
      go_ret
      exact ⟨_, rfl, names_lit w _ [a], below_two w _ _⟩
    · have hz : knownZ ⟨8, num, a, b, c, kids⟩ i = [] := by
        unfold knownZ
        rw [if_neg (by dsimp only; decide), if_neg (by rintro (⟨-, h⟩ | ⟨h, -⟩); exact i1 ((h1 i).2 h); cases h), if_neg (by rintro (h | ⟨h, -⟩) <;> cases h), if_neg (by dsimp only; decide)]
      rw [hz]
      go_wp2_with fail
      go_ret
      exact ⟨_, rfl, names_none _, one_new' w _⟩
  by_cases k9 : kd = 9
  · subst k9
    by_cases i1 : (i : Int) = 0
    · have hz : knownZ ⟨9, num, a, b, c, kids⟩ i = [a, b] := by
        unfold knownZ
        rw [if_neg (by dsimp only; decide), if_neg (by rintro (⟨h, -⟩ | ⟨-, h⟩); cases h; omega), if_pos (Or.inl rfl)]
      rw [hz]
      go_wp2_with fail
      go_ret
      exact ⟨_, rfl, names_lit w _ [a, b], below_two w _ _⟩
    · have i1' : i = 1 := by
        have := hk2 rfl
        omega
      have hz : knownZ ⟨9, num, a, b, c, kids⟩ i = [a] := by unfold knownZ; rw [if_neg (by dsimp only; decide), if_pos (Or.inr ⟨rfl, i1'⟩)]
      rw [hz]
      go_wp2_with fail
      go_ret
      exact ⟨_, rfl, names_lit w _ [a], below_two w _ _⟩
  by_cases k20 : kd = 20
  · subst k20
    by_cases i2 : (i : Int) = 2
    · have hz : knownZ ⟨20, num, a, b, c, kids⟩ i = [a, b] := by
        unfold knownZ
        rw [if_neg (by dsimp only; decide), if_neg (by rintro (⟨h, -⟩ | ⟨h, -⟩) <;> cases h), if_pos (Or.inr ⟨rfl, (h2 i).1 i2⟩)]
      rw [hz]
      go_wp2_with fail
      go_ret
      exact ⟨_, rfl, names_lit w _ [a, b], below_two w _ _⟩
    · have hz : knownZ ⟨20, num, a, b, c, kids⟩ i = [] := by
        unfold knownZ
        rw [if_neg (by dsimp only; decide), if_neg (by rintro (⟨h, -⟩ | ⟨h, -⟩) <;> cases h), if_neg (by rintro (h | ⟨-, h⟩); cases h; exact i2 ((h2 i).2 h)), if_neg (by dsimp only; decide)]
      rw [hz]
      go_wp2_with fail
      go_ret
      exact ⟨_, rfl, names_none _, one_new' w _⟩
  by_cases k26 : kd = 26
  · subst k26
    have hz : knownZ ⟨26, num, a, b, c, kids⟩ i = [b, c] := by
      unfold knownZ
      rw [if_neg (by dsimp only; decide), if_neg (by rintro (⟨h, -⟩ | ⟨h, -⟩) <;> cases h), if_neg (by rintro (h | ⟨h, -⟩) <;> cases h), if_pos rfl]
    rw [hz]
    go_wp2_with fail
    go_ret
    exact ⟨_, rfl, names_lit w _ [b, c], below_two w _ _⟩
  · have hz : knownZ ⟨kd, num, a, b, c, kids⟩ i = [] := by
      unfold knownZ
      rw [if_neg (by rintro (h | h); exact k6 h; exact k25 h), if_neg (by rintro (⟨h, -⟩ | ⟨h, -⟩); exact k8 h; exact k9 h), if_neg (by rintro (h | ⟨h, -⟩); exact k9 h; exact k20 h), if_neg k26]
    rw [hz]
    have b6 : (kd == 6) = false := beq_eq_false_iff_ne.2 k6
    have b25 : (kd == 25) = false := beq_eq_false_iff_ne.2 k25
    have b8 : (kd == 8) = false := beq_eq_false_iff_ne.2 k8
    have b9 : (kd == 9) = false := beq_eq_false_iff_ne.2 k9
    have b20 : (kd == 20) = false := beq_eq_false_iff_ne.2 k20
    have b26 : (kd == 26) = false := beq_eq_false_iff_ne.2 k26
    clear hz h1 h2
    go_wp2_with fail
    go_ret
    exact ⟨_, rfl, names_none _, one_new' w _⟩
end Go.Proofs.Ytnbmhopoiijhoaa

/- A number drawn out of bytes is from 0 on and below its bound. -/
namespace Go.Proofs.Ytnbmhopoiijhoaa
open Go.RowKit

structure Picked (B : Nat) (p : Nat) (w w' : World) : Prop where
  cell0 : w'.cell? ⟨B, 0, none⟩ = w.cell? ⟨B, 0, none⟩
  cell1 : w'.cell? ⟨B, 1, none⟩ = some (.int .i64 ((p : Int) + 1))
  frozen : w'.frozen? ⟨B, 1, none⟩ = w.frozen? ⟨B, 1, none⟩
  other : ∀ a : Addr, a.block ≠ B → w'.cell? a = w.cell? a
  below : ∀ n, n ≤ B → Below n w w'
  how : w' = w.setCell ⟨B, 1, none⟩ (.int .i64 ((p : Int) + 1)) ∨ w' = (w.setCell ⟨B, 1, none⟩ (.int .i64 ((p : Int) + 1))).drew

theorem picked_set (B p : Nat) (w : World) (h1 : w.cell? ⟨B, 1, none⟩ = some (.int .i64 p)) : Picked B p w (w.setCell ⟨B, 1, none⟩ (.int .i64 ((p : Int) + 1))) where
  cell0 := by simp [go_sem]
  cell1 := World.cell?_setCell_same' _ _ _ (by rw [h1]; rfl)
  frozen := by simp
  other := fun a ha => World.cell?_of_block (w := w) (Below.heap_setCell w _ _ a.block ha)
  below := fun n hn => (Below.refl n w).setCell hn _
  how := Or.inl rfl

theorem picked_drew (B p : Nat) (w : World) (h1 : w.cell? ⟨B, 1, none⟩ = some (.int .i64 p)) : Picked B p w (w.setCell ⟨B, 1, none⟩ (.int .i64 ((p : Int) + 1))).drew where
  cell0 := (picked_set B p w h1).cell0
  cell1 := (picked_set B p w h1).cell1
  frozen := (picked_set B p w h1).frozen
  other := (picked_set B p w h1).other
  below := fun n hn => ((picked_set B p w h1).below n hn).drew
  how := Or.inr rfl

theorem xor_i64 (a b : Nat) (ha : a < 4611686018427387904) (hb : b < 4611686018427387904) :
    bits .xor .i64 (a : Int) (b : Int) = ((a ^^^ b : Nat) : Int) := by
  have hx : a ^^^ b < 2 ^ 62 := Nat.xor_lt_two_pow (by omega) (by omega)
  have h1 : (BitVec.ofInt 64 (a : Int)).toNat = a := by
    rw [BitVec.ofInt_natCast, BitVec.toNat_ofNat]; exact Nat.mod_eq_of_lt (by omega)
  have h2 : (BitVec.ofInt 64 (b : Int)).toNat = b := by
    rw [BitVec.ofInt_natCast, BitVec.toNat_ofNat]; exact Nat.mod_eq_of_lt (by omega)
  show IntKind.i64.wrap ((BitVec.ofInt 64 (a : Int) ^^^ BitVec.ofInt 64 (b : Int)).toNat : Int) = _
  rw [BitVec.toNat_xor, h1, h2, IntKind.wrap_i64]
  omega

def PickPost (B p : Nat) (n : Int) (w : World) (e : Ending) (w' : World) : Prop :=
  (∃ r, e = .returned (.int .i64 r) ∧ 0 ≤ r ∧ (0 < n → r < n)) ∧ Picked B p w w'

set_option maxRecDepth 100000 in
theorem pick_none (B : Nat) (a0 : Option Addr) (len cap : Nat) (p : Nat) (n : Int) (w : World)
    (h0 : w.cell? ⟨B, 0, none⟩ = some (.slice a0 len cap)) (h1 : w.cell? ⟨B, 1, none⟩ = some (.int .i64 p))
    (hfz : w.frozen? ⟨B, 1, none⟩ = false) (hp : p ≤ 1000000) (hn : n < 1 ∨ len = 0) :
    Calls Try.prog 13 #[.pointer (some ⟨B, 0, none⟩), .int .i64 n] w (PickPost B p n w) := by
  have hn' : n < 1 ∨ ((len : Int) == 0) = true := by
    rcases hn with h | h
    · exact Or.inl h
    · exact Or.inr (by simp [h])
  rcases hn' with hn' | hn'
  all_goals
    go_enter Try.func13, Try.ntmps13
    go_wp2
    all_goals
      go_ret
      exact ⟨⟨0, rfl, Int.le_refl _, fun h => h⟩, picked_set B p w h1⟩

set_option maxRecDepth 100000 in
theorem pick_near (B b off : Nat) (len cap : Nat) (p : Nat) (z n : Int) (w : World)
    (h0 : w.cell? ⟨B, 0, none⟩ = some (.slice (some ⟨b, off, none⟩) len cap)) (h1 : w.cell? ⟨B, 1, none⟩ = some (.int .i64 p))
    (hfz : w.frozen? ⟨B, 1, none⟩ = false) (hp : p ≤ 1000000) (hn : 1 ≤ n) (hlt : p < len) (hbB : b ≠ B)
    (hz : w.cell? ⟨b, off + p, none⟩ = some (.int .u8 z)) (hz0 : 0 ≤ z) (hz1 : z ≤ 255) :
    Calls Try.prog 13 #[.pointer (some ⟨B, 0, none⟩), .int .i64 n] w (PickPost B p n w) := by
  have hl : ((len : Int) == 0) = false := by simp; omega
  go_enter Try.func13, Try.ntmps13
  go_wp2
  go_ret
  exact ⟨⟨z % n, rfl, Int.emod_nonneg _ (by omega), fun h => Int.emod_lt_of_pos _ h⟩, picked_set B p w h1⟩

theorem far_sum (z y : Int) (p len : Nat) (hp : p ≤ 1000000) (hz0 : 0 ≤ z) (hz1 : z ≤ 255) (hy0 : 0 ≤ y) (hy1 : y ≤ 255) :
    ∃ x : Nat, x ≤ 1000000000000 ∧ wrap64 (z * 131 + y * 1117 + (p : Int) * 29 + wrap64 (wrap64 ((p : Int) / (len : Int)) * 53)) = (x : Int) := by
  have hq : ((p : Int) / (len : Int)) = ((p / len : Nat) : Int) := by omega
  have hq2 : p / len ≤ p := Nat.div_le_self _ _
  rw [hq]
  generalize p / len = q at hq2
  rw [IntWalk.wrap64_in (q : Int) ⟨by omega, by omega⟩, IntWalk.wrap64_in ((q : Int) * 53) ⟨by omega, by omega⟩, IntWalk.wrap64_in _ ⟨by omega, by omega⟩]
  exact ⟨(z * 131 + y * 1117 + (p : Int) * 29 + (q : Int) * 53).toNat, by omega, by omega⟩

theorem far_nat (x : Nat) (hx : x ≤ 1000000000000) : bits .xor .i64 (x : Int) (wrap64 ((x : Int) / 64)) = ((x ^^^ (x / 64) : Nat) : Int) := by
  rw [show ((x : Int) / 64) = ((x / 64 : Nat) : Int) by omega, IntWalk.wrap64_in _ ⟨by omega, by omega⟩]
  exact xor_i64 _ _ (by omega) (by omega)

theorem far_low (x : Nat) (hx : x ≤ 1000000000000) (n : Int) : 0 ≤ (bits .xor .i64 (x : Int) (wrap64 ((x : Int) / 64))).tmod n := by
  rw [far_nat x hx]
  exact Int.tmod_nonneg _ (Int.natCast_nonneg _)

theorem far_high (x : Nat) (hx : x ≤ 1000000000000) (n : Int) (hn : 0 < n) : (bits .xor .i64 (x : Int) (wrap64 ((x : Int) / 64))).tmod n < n := by
  rw [far_nat x hx]
  exact Int.tmod_lt_of_pos _ hn

set_option maxRecDepth 100000 in
theorem pick_far (B b off : Nat) (len cap : Nat) (p : Nat) (z y n : Int) (w : World)
    (h0 : w.cell? ⟨B, 0, none⟩ = some (.slice (some ⟨b, off, none⟩) len cap)) (h1 : w.cell? ⟨B, 1, none⟩ = some (.int .i64 p))
    (hfz : w.frozen? ⟨B, 1, none⟩ = false) (hp : p ≤ 1000000) (hn : 1 ≤ n) (hl1 : 1 ≤ len) (hlt : len ≤ p) (hbB : b ≠ B)
    (i j : Nat) (hi : ((p : Int)) % (len : Int) = i) (hj : ((p : Int) * 7 + 3) % (len : Int) = j) (hil : i < len) (hjl : j < len)
    (hz : w.cell? ⟨b, off + i, none⟩ = some (.int .u8 z)) (hz0 : 0 ≤ z) (hz1 : z ≤ 255)
    (hy : w.cell? ⟨b, off + j, none⟩ = some (.int .u8 y)) (hy0 : 0 ≤ y) (hy1 : y ≤ 255) :
    Calls Try.prog 13 #[.pointer (some ⟨B, 0, none⟩), .int .i64 n] w (PickPost B p n w) := by
  have hl : ((len : Int) == 0) = false := by simp; omega
  obtain ⟨x, hx, ex⟩ := far_sum z y p len hp hz0 hz1 hy0 hy1
  have hx' : Hid (x ≤ 1000000000000) := hx
  have ex' : Hid (wrap64 (z * 131 + y * 1117 + (p : Int) * 29 + wrap64 (wrap64 ((p : Int) / (len : Int)) * 53)) = (x : Int)) := ex
  clear ex hx
  go_enter Try.func13, Try.ntmps13
  go_wp2
  go_region
  rw [ex'.out]
  go_wp2
  go_ret
  refine ⟨⟨_, rfl, ?_, ?_⟩, picked_drew B p w h1⟩
  · exact far_low x hx'.out n
  · exact far_high x hx'.out n

theorem pick_calls (B : Nat) (a0 : Option Addr) (len cap : Nat) (p : Nat) (n : Int) (w : World)
    (h0 : w.cell? ⟨B, 0, none⟩ = some (.slice a0 len cap)) (h1 : w.cell? ⟨B, 1, none⟩ = some (.int .i64 p))
    (hfz : w.frozen? ⟨B, 1, none⟩ = false) (hp : p ≤ 1000000)
    (hc : 0 < len → ∃ b off, a0 = some ⟨b, off, none⟩ ∧ b ≠ B ∧ ∀ i, i < len → ∃ z, w.cell? ⟨b, off + i, none⟩ = some (.int .u8 z) ∧ 0 ≤ z ∧ z ≤ 255) :
    Calls Try.prog 13 #[.pointer (some ⟨B, 0, none⟩), .int .i64 n] w (PickPost B p n w) := by
  by_cases hn : n < 1 ∨ len = 0
  · exact pick_none B a0 len cap p n w h0 h1 hfz hp hn
  · have hl : 0 < len := by omega
    obtain ⟨b, off, rfl, hbB, hz⟩ := hc hl
    by_cases hlt : p < len
    · obtain ⟨z, hz, hz0, hz1⟩ := hz p hlt
      exact pick_near B b off len cap p z n w h0 h1 hfz hp (by omega) hlt hbB hz hz0 hz1
    · obtain ⟨z, hzc, hz0, hz1⟩ := hz (p % len) (Nat.mod_lt _ hl)
      obtain ⟨y, hyc, hy0, hy1⟩ := hz ((p * 7 + 3) % len) (Nat.mod_lt _ hl)
      exact pick_far B b off len cap p z y n w h0 h1 hfz hp (by omega) hl (by omega) hbB (p % len) ((p * 7 + 3) % len) (by omega) (by first | (push_cast; rfl) | simp)
        (Nat.mod_lt _ hl) (Nat.mod_lt _ hl) hzc hz0 hz1 hyc hy0 hy1
end Go.Proofs.Ytnbmhopoiijhoaa

/- What a drawer of programs stands on: the reader of bytes, the drawer's own block, lists that lie elsewhere; what a draw costs. -/
namespace Go.Proofs.Ytnbmhopoiijhoaa
open Go.RowKit Go.Deep

/-- Where the reader lies, and the drawer; which bytes are read. -/
structure Dr where
  B : Nat
  G : Nat
  a0 : Option Addr
  len : Nat
  cap : Nat

/-- A block that is neither the reader's nor the drawer's. -/
def Dr.free (d : Dr) (W : World) (q : Nat) : Prop := q < W.heap.size ∧ q ≠ d.B ∧ q ≠ d.G

/-- Everything but the reader and the drawer lies as it lay. -/
structure Grew (d : Dr) (W W' : World) : Prop where
  os : W'.os = W.os
  tape : W'.tape = W.tape
  output : W'.output = W.output
  size : W.heap.size ≤ W'.heap.size
  block : ∀ q, d.free W q → W'.heap[q]? = W.heap[q]?

theorem Grew.refl (d : Dr) (W : World) : Grew d W W := ⟨rfl, rfl, rfl, Nat.le_refl _, fun _ _ => rfl⟩

theorem Dr.free.grew {d : Dr} {W W' : World} {q : Nat} (h : d.free W q) (g : Grew d W W') : d.free W' q := ⟨Nat.lt_of_lt_of_le h.1 g.size, h.2⟩

theorem Grew.trans {d : Dr} {W W' W'' : World} (h : Grew d W W') (g : Grew d W' W'') : Grew d W W'' :=
  ⟨g.os.trans h.os, g.tape.trans h.tape, g.output.trans h.output, Nat.le_trans h.size g.size, fun q hq => (g.block q (hq.grew h)).trans (h.block q hq)⟩

theorem Grew.of_below {d : Dr} {W W' : World} (h : Below W.heap.size W W') : Grew d W W' := ⟨h.os, h.tape, h.output, h.size, fun q hq => h.block q hq.1⟩

theorem Grew.alloc {d : Dr} {W W' : World} (h : Grew d W W') (o : Obj) : Grew d W (W'.alloc o) := h.trans (Grew.of_below ((Below.refl _ _).alloc (Nat.le_refl _) _))

theorem Grew.drew {d : Dr} {W W' : World} (h : Grew d W W') : Grew d W W'.drew := ⟨h.os, h.tape, h.output, h.size, h.block⟩

theorem Grew.below {d : Dr} {W W' : World} {n : Nat} (h : Grew d W W') (hn : n ≤ W.heap.size) (h1 : n ≤ d.B) (h2 : n ≤ d.G) : Below n W W' :=
  ⟨h.os, h.tape, h.output, h.size, fun q hq => h.block q ⟨by omega, by omega, by omega⟩⟩

theorem Grew.cell {d : Dr} {W W' : World} (h : Grew d W W') {p : Addr} (hq : d.free W p.block) : W'.cell? p = W.cell? p := World.cell?_of_block (h.block _ hq)

/-- A slice of n things of sz cells that lies elsewhere. -/
def Lies (d : Dr) (W : World) (v : Value) (n sz : Nat) (F : Nat → Value) : Prop :=
  (v = .slice none 0 0 ∧ n = 0) ∨ ∃ b off cap, v = .slice (some ⟨b, off, none⟩) n cap ∧ n ≤ cap ∧ off = 0 ∧ d.free W b ∧ ∀ i, i < n * sz → W.cell? ⟨b, off + i, none⟩ = some (F i)

theorem Lies.grew {d : Dr} {W W' : World} {v : Value} {n sz : Nat} {F : Nat → Value} (h : Lies d W v n sz F) (g : Grew d W W') : Lies d W' v n sz F := by
  rcases h with h | ⟨b, off, cap, rfl, hn, hz, hq, hc⟩
  · exact Or.inl h
  · exact Or.inr ⟨b, off, cap, rfl, hn, hz, hq.grew g, fun i hi => (g.cell (p := ⟨b, off + i, none⟩) hq).trans (hc i hi)⟩

theorem Lies.is {d : Dr} {W : World} {v : Value} {n sz : Nat} {F : Nat → Value} (h : Lies d W v n sz F) : ∃ ad cp, v = .slice ad n cp := by
  rcases h with ⟨rfl, rfl⟩ | ⟨b, off, cap, rfl, -⟩
  · exact ⟨_, _, rfl⟩
  · exact ⟨_, _, rfl⟩

theorem Lies.at {d : Dr} {W : World} {ad : Option Addr} {n cp n' sz : Nat} {F : Nat → Value} (h : Lies d W (.slice ad n cp) n' sz F) (h0 : 0 < n) : n' = n ∧ n ≤ cp ∧ ∃ b off, ad = some ⟨b, off, none⟩ ∧ d.free W b ∧ ∀ i, i < n * sz → W.cell? ⟨b, off + i, none⟩ = some (F i) := by
  rcases h with ⟨e, rfl⟩ | ⟨b, off, cap, e, hn, -, hq, hc⟩
  · cases e; omega
  · cases e
    exact ⟨rfl, hn, b, off, rfl, hq, hc⟩

/-- A name that is known. -/
structure Kn where
  name : ByteArray
  ty : Int
  res : Int

instance : Inhabited Kn := ⟨⟨ByteArray.empty, 0, 0⟩⟩

def Kn.cell (k : Kn) : Nat → Value
  | 0 => .string k.name
  | 1 => .int .i64 k.ty
  | _ => .int .i64 k.res

/-- Names are short. -/
def Brief (s : ByteArray) : Prop := s.size ≤ 100

def NodesD (d : Dr) (W : World) (v : Value) (ns : List Nd) : Prop := Lies d W v ns.length 6 (fun i => (ns.getD (i / 6) default).cell (i % 6)) ∧ ∀ n ∈ ns, Brief n.a ∧ Brief n.b ∧ Brief n.c
def KnowsD (d : Dr) (W : World) (v : Value) (ks : List Kn) : Prop := Lies d W v ks.length 3 (fun i => (ks.getD (i / 3) default).cell (i % 3)) ∧ ∀ k ∈ ks, Brief k.name
def BoolsD (d : Dr) (W : World) (v : Value) (ms : List Bool) : Prop := Lies d W v ms.length 1 (fun i => .bool (ms.getD i false))

theorem NodesD.grew {d : Dr} {W W' : World} {v : Value} {ns : List Nd} (h : NodesD d W v ns) (g : Grew d W W') : NodesD d W' v ns := ⟨h.1.grew g, h.2⟩
theorem KnowsD.grew {d : Dr} {W W' : World} {v : Value} {ks : List Kn} (h : KnowsD d W v ks) (g : Grew d W W') : KnowsD d W' v ks := ⟨h.1.grew g, h.2⟩
theorem BoolsD.grew {d : Dr} {W W' : World} {v : Value} {ms : List Bool} (h : BoolsD d W v ms) (g : Grew d W W') : BoolsD d W' v ms := Lies.grew h g

theorem getD_mem {α : Type} [Inhabited α] {l : List α} {k : Nat} (h : k < l.length) : l.getD k default ∈ l := by
  rw [show l.getD k default = l[k] by simp [List.getD, h]]
  exact List.getElem_mem h

theorem cell_div {α : Type} [Inhabited α] (l : List α) (f : α → Nat → Value) (sz k c : Nat) (hc : c < sz) : f (l.getD ((k * sz + c) / sz) default) ((k * sz + c) % sz) = f (l.getD k default) c := by
  rw [Nat.mul_comm k sz, Nat.mul_add_div (by omega), Nat.div_eq_of_lt hc, Nat.mul_add_mod, Nat.mod_eq_of_lt hc, Nat.add_zero]

theorem NodesD.slice {d : Dr} {W : World} {v : Value} {ns : List Nd} (h : NodesD d W v ns) : NodeSlice W v ns := by
  obtain ⟨h, -⟩ := h
  rcases h with ⟨rfl, h⟩ | ⟨b, off, cap, rfl, hn, -, hq, hc⟩
  · exact ⟨none, 0, by rw [h], Or.inl (List.eq_nil_of_length_eq_zero h)⟩
  · refine ⟨_, cap, rfl, Or.inr ⟨b, off, rfl, hq.1, fun k hk c hc' => ?_⟩⟩
    rw [Nat.add_assoc, hc (k * 6 + c) (by omega)]
    exact congrArg some (cell_div ns Nd.cell 6 k c hc')

theorem NodesD.short {d : Dr} {W : World} {v : Value} {ns : List Nd} (h : NodesD d W v ns) : Short ns := fun n hn => by
  obtain ⟨h1, h2, h3⟩ := h.2 n hn
  unfold Brief at h1 h2 h3
  unfold maxLen
  omega

theorem KnowsD.at {d : Dr} {W : World} {ad : Option Addr} {n cp : Nat} {ks : List Kn} (h : KnowsD d W (.slice ad n cp) ks) {i : Nat} (hi : i < n) : ∃ b off nm ty res, ad = some ⟨b, off, none⟩ ∧ ks.getD i default = ⟨nm, ty, res⟩ ∧ Brief nm ∧ d.free W b ∧ W.cell? ⟨b, off + i * 3, none⟩ = some (.string nm) ∧ W.cell? ⟨b, off + i * 3 + 1, none⟩ = some (.int .i64 ty) ∧ W.cell? ⟨b, off + i * 3 + 2, none⟩ = some (.int .i64 res) := by
  obtain ⟨h, hB⟩ := h
  obtain ⟨hl, -, b, off, rfl, hq, hc⟩ := h.at (by omega)
  obtain ⟨k, hk⟩ : ∃ k, ks.getD i default = k := ⟨_, rfl⟩
  have hb := hB _ (getD_mem (l := ks) (k := i) (by omega))
  have e : ∀ c, c < 3 → W.cell? ⟨b, off + (i * 3 + c), none⟩ = some (k.cell c) := fun c hc' => by
    rw [hc (i * 3 + c) (by omega), ← hk]
    exact congrArg some (cell_div ks Kn.cell 3 i c hc')
  rw [hk] at hb
  obtain ⟨nm, ty, res⟩ := k
  exact ⟨b, off, nm, ty, res, rfl, hk, hb, hq, e 0 (by omega), e 1 (by omega), e 2 (by omega)⟩

theorem KnowsD.is {d : Dr} {W : World} {v : Value} {ks : List Kn} (h : KnowsD d W v ks) : ∃ ad cp, v = .slice ad ks.length cp := h.1.is
theorem NodesD.is {d : Dr} {W : World} {v : Value} {ns : List Nd} (h : NodesD d W v ns) : ∃ ad cp, v = .slice ad ns.length cp := h.1.is
theorem BoolsD.is {d : Dr} {W : World} {v : Value} {ms : List Bool} (h : BoolsD d W v ms) : ∃ ad cp, v = .slice ad ms.length cp := Lies.is h

theorem BoolsD.at {d : Dr} {W : World} {ad : Option Addr} {n cp : Nat} {ms : List Bool} (h : BoolsD d W (.slice ad n cp) ms) {i : Nat} (hi : i < n) : ∃ b off, ad = some ⟨b, off, none⟩ ∧ d.free W b ∧ W.cell? ⟨b, off + i, none⟩ = some (.bool (ms.getD i false)) := by
  obtain ⟨hl, -, b, off, rfl, hq, hc⟩ := Lies.at h (by omega)
  exact ⟨b, off, rfl, hq, hc i (by omega)⟩

/-- What the drawer counts. -/
structure Cn where
  p : Nat
  left : Int
  next : Nat

/-- The reader's block, and the bytes. -/
structure Rdr (d : Dr) (W : World) (p : Nat) : Prop where
  blk : W.heap[d.B]? = some (.cells #[.slice d.a0 d.len d.cap, .int .i64 (p : Int)] 50)
  bytes : 0 < d.len → ∃ b off, d.a0 = some ⟨b, off, none⟩ ∧ d.free W b ∧ ∀ i, i < d.len → ∃ z, W.cell? ⟨b, off + i, none⟩ = some (.int .u8 z) ∧ 0 ≤ z ∧ z ≤ 255

/-- The drawer's block; ve: the operations. -/
structure Gen (d : Dr) (ve : Value) (W : World) (s : Cn) : Prop where
  rd : Rdr d W s.p
  blk : W.heap[d.G]? = some (.cells #[.pointer (some ⟨d.B, 0, none⟩), ve, .int .i64 s.left, .int .i64 (s.next : Int)] 78)
  ne : d.B ≠ d.G

theorem Rdr.same {d : Dr} {W W' : World} {p : Nat} (h : Rdr d W p) (g : Grew d W W') (e : W'.heap[d.B]? = W.heap[d.B]?) : Rdr d W' p := by
  refine ⟨e.trans h.blk, fun hl => ?_⟩
  obtain ⟨b, off, ea, hq, hz⟩ := h.bytes hl
  refine ⟨b, off, ea, hq.grew g, fun i hi => ?_⟩
  obtain ⟨z, hz, h2⟩ := hz i hi
  exact ⟨z, (g.cell (p := ⟨b, off + i, none⟩) hq).trans hz, h2⟩

theorem Gen.below {d : Dr} {ve : Value} {W W' : World} {s : Cn} (h : Gen d ve W s) (hb : Below W.heap.size W W') : Gen d ve W' s :=
  ⟨h.rd.same (Grew.of_below hb) (hb.block _ (heap_lt h.rd.blk)), (hb.block _ (heap_lt h.blk)).trans h.blk, h.ne⟩

theorem Gen.alloc {d : Dr} {ve : Value} {W : World} {s : Cn} (h : Gen d ve W s) (o : Obj) : Gen d ve (W.alloc o) s := h.below ((Below.refl _ _).alloc (Nat.le_refl _) _)

theorem Gen.drew {d : Dr} {ve : Value} {W : World} {s : Cn} (h : Gen d ve W s) : Gen d ve W.drew s := ⟨⟨h.rd.blk, h.rd.bytes⟩, h.blk, h.ne⟩

theorem Rdr.drew {d : Dr} {W : World} {p : Nat} (h : Rdr d W p) : Rdr d W.drew p := ⟨h.blk, h.bytes⟩

theorem Rdr.below {d : Dr} {W W' : World} {p : Nat} (h : Rdr d W p) (hb : Below W.heap.size W W') : Rdr d W' p := h.same (Grew.of_below hb) (hb.block _ (heap_lt h.blk))

/-- What was spent. -/
def Spent (s s' : Cn) (t c : Nat) : Prop := s'.p ≤ s.p + t ∧ s'.next ≤ s.next + t ∧ s.left - t ≤ s'.left ∧ s'.left ≤ s.left ∧ t + 300 * s'.left.toNat ≤ 300 * s.left.toNat + c

/-- There is enough left to spend. -/
def Fit (s : Cn) (c : Nat) : Prop := s.p + 300 * s.left.toNat + c ≤ 900000 ∧ s.next + 300 * s.left.toNat + c ≤ 900000 ∧ -900000 ≤ s.left - 300 * s.left.toNat - c ∧ s.left ≤ 1000

theorem Rdr.picked {d : Dr} {W W' : World} {p : Nat} (h : Rdr d W p) (hg : Grew d W W') (hb : W'.heap[d.B]? = some (.cells #[.slice d.a0 d.len d.cap, .int .i64 ((p : Int) + 1)] 50)) : Rdr d W' (p + 1) := by
  refine ⟨by rw [hb]; push_cast; rfl, fun hl => ?_⟩
  obtain ⟨b, off, ea, hq, hz⟩ := h.bytes hl
  refine ⟨b, off, ea, hq.grew hg, fun i hi => ?_⟩
  obtain ⟨z, hz, h2⟩ := hz i hi
  exact ⟨z, (hg.cell (p := ⟨b, off + i, none⟩) hq).trans hz, h2⟩

/-- A number is drawn. -/
theorem rdr_pick {d : Dr} {W : World} {p : Nat} (h : Rdr d W p) (hp : p ≤ 1000000) (n : Int) (hn : 0 < n) :
    Calls Try.prog 13 #[.pointer (some ⟨d.B, 0, none⟩), .int .i64 n] W fun e W' => ∃ m : Int, e = .returned (.int .i64 m) ∧ 0 ≤ m ∧ m < n ∧ Rdr d W' (p + 1) ∧ Grew d W W' ∧ W'.heap.size = W.heap.size ∧ (∀ q, q ≠ d.B → W'.heap[q]? = W.heap[q]?) := by
  have hc0 := cell_of_heap h.blk 0
  have hc1 := cell_of_heap h.blk 1
  refine (pick_calls d.B d.a0 d.len d.cap p n W (by simpa using hc0) (by simpa using hc1) (frozen_of_heap h.blk 1) hp (fun hl => ?_)).mono ?_
  · obtain ⟨b, off, ea, hq, hz⟩ := h.bytes hl
    exact ⟨b, off, ea, hq.2.1, hz⟩
  · rintro e W' ⟨⟨r, rfl, hr0, hr1⟩, hP⟩
    have hw := hP.how
    have hs : W'.heap.size = W.heap.size := by rcases hw with rfl | rfl <;> simp [World.setCell, World.drew]
    have ho : ∀ q, q ≠ d.B → W'.heap[q]? = W.heap[q]? := fun q hq => by
      rcases hw with rfl | rfl
      · exact Below.heap_setCell W ⟨d.B, 1, none⟩ _ q hq
      · exact Below.heap_setCell W ⟨d.B, 1, none⟩ _ q hq
    have hg : Grew d W W' := ⟨by rcases hw with rfl | rfl <;> rfl, by rcases hw with rfl | rfl <;> rfl, by rcases hw with rfl | rfl <;> rfl, Nat.le_of_eq hs.symm, fun q hq => ho q hq.2.1⟩
    refine ⟨r, rfl, hr0, hr1 hn, h.picked hg ?_, hg, hs, ho⟩
    rcases hw with rfl | rfl
    · simp [World.setCell, Array.getElem?_modify, h.blk]
    · simp [World.setCell, World.drew, Array.getElem?_modify, h.blk]
end Go.Proofs.Ytnbmhopoiijhoaa

/- The drawer's small parts: rows of nodes and of names that are known, grown one by one. -/
namespace Go.Proofs.Ytnbmhopoiijhoaa
open Go.RowKit Go.Deep

/-- The cells of a list of things of sz cells each. -/
def rowZ {α : Type} (f : α → Nat → Value) (sz : Nat) (l : List α) : List Value := l.flatMap fun x => (List.range sz).map (f x)

theorem rowZ_len {α : Type} (f : α → Nat → Value) (sz : Nat) : ∀ l : List α, (rowZ f sz l).length = l.length * sz
  | [] => by simp [rowZ]
  | x :: l => by
    have := rowZ_len f sz l
    simp only [rowZ, List.flatMap_cons, List.length_append, List.length_map, List.length_range, List.length_cons] at this ⊢
    rw [this, Nat.succ_mul]
    omega

theorem rowZ_app {α : Type} (f : α → Nat → Value) (sz : Nat) (l m : List α) : rowZ f sz (l ++ m) = rowZ f sz l ++ rowZ f sz m := by
  simp [rowZ, List.flatMap_append]

theorem rowZ_get {α : Type} [Inhabited α] (f : α → Nat → Value) (sz : Nat) (hz : 0 < sz) : ∀ (l : List α) (i : Nat), i < l.length * sz → (rowZ f sz l)[i]? = some (f (l.getD (i / sz) default) (i % sz))
  | [], i, h => by simp at h
  | x :: l, i, h => by
    have e : rowZ f sz (x :: l) = (List.range sz).map (f x) ++ rowZ f sz l := by simp [rowZ]
    rw [e]
    by_cases hi : i < sz
    · rw [List.getElem?_append_left (by simpa using hi), Nat.div_eq_of_lt hi, Nat.mod_eq_of_lt hi]
      simp [hi]
    · have hi' : sz ≤ i := by omega
      rw [List.length_cons, Nat.succ_mul] at h
      rw [List.getElem?_append_right (by simpa using hi')]
      simp only [List.length_map, List.length_range]
      rw [rowZ_get f sz hz l (i - sz) (by omega)]
      have e1 : i / sz = (i - sz) / sz + 1 := Nat.div_eq_sub_div hz hi'
      have e2 : i % sz = (i - sz) % sz := by rw [Nat.mod_eq_sub_mod hi']
      rw [e1, e2]
      simp [List.getD]

theorem wpList_append_by {P : Program} {ops : Array Oper} {rest : List Oper} {o : Oper} {a : Act} {w : World} {Q : Exit → Act → World → Prop} (hgd : o.guard = none) (s x : Operand) (t : TypeId)
    (ho : o.op = .call { callee := .builtin .append, args := #[s, x], argTypes := #[t, t] }) (v xv : Value) (hs : a.eval s = v) (hx : a.eval x = xv) {R : Value → World → Prop}
    (hr : ∀ ty, ∃ v' w', (Builtin.append_ #[t, t] ty #[v, xv]).run P w = .ok v' w' ∧ R v' w') (h : ∀ v' w', R v' w' → wpList P ops Q rest (a.put o.dst v') w') :
    wpList P ops Q (o :: rest) a w := by
  refine wpList_plain hgd fun K hK => ?_
  obtain ⟨v', w', hr, h2⟩ := hr o.type
  unfold Oper.wp execOp
  simp only [ho, resolve, invoke, builtin, Sem.run_bind, Sem.run_pure, Result.andThen_ok, List.map_toArray, List.map_cons, List.map_nil, hs, hx, hr]
  exact hK _ _ (h v' w' h2)

section
variable {d : Dr}

/-- Things that lie in a row of one's own, from a block on that is none of the drawer's. -/
theorem lies_owns {α : Type} [Inhabited α] {f : α → Nat → Value} {sz : Nat} (hz : 0 < sz) {W : World} {B : Nat} {t : TypeId} {v : Value} {l : List α} (h : W.ownsRow B t sz v l.length (rowZ f sz l)) (h1 : d.B < B) (h2 : d.G < B) : Lies d W v l.length sz (fun i => f (l.getD (i / sz) default) (i % sz)) := by
  have h' := h
  obtain ⟨-, ⟨rfl, h0⟩ | ⟨g, cap, cur, rfl, hB, hc, hnc, -⟩⟩ := h
  · exact Or.inl ⟨rfl, h0⟩
  · refine Or.inr ⟨g, 0, cap, rfl, hnc, rfl, ⟨heap_lt hc, by omega, by omega⟩, fun i hi => ?_⟩
    rw [Nat.zero_add, h'.cellAt i hi, rowZ_get f sz hz l i hi]

/-- A row that was just written out. -/
theorem lies_lit {α : Type} [Inhabited α] {f : α → Nat → Value} {sz : Nat} (hz : 0 < sz) (W : World) (t : TypeId) (l : List α) (c : Array Value) (hc : c = (rowZ f sz l).toArray) (h1 : d.B < W.heap.size) (h2 : d.G < W.heap.size) : Lies d (W.alloc (.cells c t)) (.slice (some ⟨W.heap.size, 0, none⟩) l.length l.length) l.length sz (fun i => f (l.getD (i / sz) default) (i % sz)) := by
  subst hc
  have hh := (MapKept.heap_alloc W (.cells (rowZ f sz l).toArray t)).1
  refine Or.inr ⟨_, 0, _, rfl, Nat.le_refl _, rfl, ⟨heap_lt hh, by omega, by omega⟩, fun i hi => ?_⟩
  rw [Nat.zero_add, cell_of_heap hh i, List.getElem?_toArray, rowZ_get f sz hz l i hi]

/-- Things appended to a row of one's own. -/
theorem app_row {α : Type} [Inhabited α] {f : α → Nat → Value} (h1 : ∀ x i, (f x i).oneCell' = true) {sz : Nat} {W : World} {B : Nat} {t e : TypeId} {i0 : TypeInfo} {z : Value} {by_ : Nat} (ht : Try.prog.underlying t = some (.slice e)) (hi : Try.prog.info? e = some i0) (hz0 : i0.zero = some z) (hz1 : i0.size = sz) (hz2 : i0.bytes = by_) (hzs : z.cells.size = sz) (hsz : 0 < sz) (hby : by_ ≤ 100) {v xv : Value} {l m : List α}
    (hown : W.ownsRow B e sz v l.length (rowZ f sz l)) (hx : Lies d W xv m.length sz (fun i => f (m.getD (i / sz) default) (i % sz))) (hm : l.length + m.length ≤ 1000000) (hB : B ≤ W.heap.size) (ty : TypeId) :
    ∃ v' W', (Builtin.append_ #[t, t] ty #[v, xv]).run Try.prog W = .ok v' W' ∧ W'.ownsRow B e sz v' (l ++ m).length (rowZ f sz (l ++ m)) ∧ W.grownBy W' v.ownBlock := by
  rcases hx with ⟨rfl, hl⟩ | ⟨b, off, cap, rfl, -, -, hq, hc⟩
  · have : m = [] := List.eq_nil_of_length_eq_zero hl
    subst this
    refine ⟨v, W, run_append_owned_none W B t ty e i0 sz ht hi v _ _ hown, ?_, ⟨rfl, rfl, rfl, Nat.le_refl _, fun _ _ _ => rfl⟩⟩
    rw [List.append_nil]
    exact hown
  · obtain ⟨v', W', hr, h2, h3, -, -⟩ := run_append_own_at (P := Try.prog) W B t ty e i0 z sz by_ ht hi hz0 hz1 hz2 hzs hsz v l.length (rowZ f sz l) hown ⟨b, off, none⟩ m.length cap (rowZ f sz m) (rowZ_len f sz m)
      (fun j u hu => by
        have hj : j < m.length * sz := by
          have := (List.getElem?_eq_some_iff.1 hu).1
          rwa [rowZ_len] at this
        rw [rowZ_get f sz hsz m j hj] at hu
        cases hu
        rw [Addr.add_lit]
        exact hc j hj)
      (fun u hu => by
        unfold rowZ at hu
        rw [List.mem_flatMap] at hu
        obtain ⟨x, -, hu⟩ := hu
        rw [List.mem_map] at hu
        obtain ⟨i, -, rfl⟩ := hu
        exact h1 x i) (by unfold maxLen; omega) (by
          have := Nat.mul_le_mul hm hby
          omega) hB
    refine ⟨v', W', hr, ?_, h3⟩
    rw [List.length_append, rowZ_app]
    exact h2
end

theorem nd_one (n : Nd) (i : Nat) : (n.cell i).oneCell' = true := by
  match i with
  | 0 => rfl
  | 1 => rfl
  | 2 => rfl
  | 3 => rfl
  | 4 => rfl
  | _ + 5 => rfl

theorem kn_one (k : Kn) (i : Nat) : (k.cell i).oneCell' = true := by
  match i with
  | 0 => rfl
  | 1 => rfl
  | _ + 2 => rfl

theorem info_know : (Try.prog.info? 116).map (fun i => (i.zero, i.size, i.bytes)) = some (some (.agg #[.string ByteArray.empty, .int .i64 0, .int .i64 0]), 3, 32) := by kernel_rfl

theorem brief_none : Brief ByteArray.empty := by unfold Brief; decide

set_option maxRecDepth 100000 in
theorem node_calls {d : Dr} (k n : Int) (W : World) (h1 : d.B < W.heap.size) (h2 : d.G < W.heap.size) :
    Calls Try.prog 39 #[.int .i64 k, .int .i64 n] W fun e W' => ∃ v, e = .returned v ∧ NodesD d W' v [⟨k, n, ByteArray.empty, ByteArray.empty, ByteArray.empty, 0⟩] ∧ Below W.heap.size W W' := by
  go_enter Try.func39, Try.ntmps39
  go_wp2_with fail
  go_ret
  refine ⟨_, rfl, ⟨lies_lit (f := Nd.cell) (sz := 6) (by decide) W 92 [⟨k, n, ByteArray.empty, ByteArray.empty, ByteArray.empty, 0⟩] _ rfl h1 h2, fun n hn => ?_⟩, (Below.refl _ _).alloc (Nat.le_refl _) _⟩
  rw [List.mem_singleton] at hn
  subst hn
  exact ⟨brief_none, brief_none, brief_none⟩

/-- Lists of nodes, in a list. -/
def KidsV (d : Dr) (W : World) (v : Value) (ls : List (Value × List Nd)) : Prop :=
  Lies d W v ls.length 1 (fun i => (ls.getD i (.slice none 0 0, [])).1) ∧ ∀ x ∈ ls, NodesD d W x.1 x.2

def flatL (ls : List (Value × List Nd)) : List Nd := ls.flatMap Prod.snd

theorem flatL_take (ls : List (Value × List Nd)) (i : Nat) (h : i < ls.length) : flatL (ls.take (i + 1)) = flatL (ls.take i) ++ (ls.getD i (.slice none 0 0, [])).2 := by
  unfold flatL
  rw [List.take_add_one, List.flatMap_append]
  simp [List.getD, h]

theorem flatL_le (ls : List (Value × List Nd)) (i : Nat) : (flatL (ls.take i)).length ≤ (flatL ls).length := by
  conv => rhs; rw [← List.take_append_drop i ls]
  unfold flatL
  rw [List.flatMap_append, List.length_append]
  omega

theorem flatL_mem {ls : List (Value × List Nd)} {n : Nd} (h : n ∈ flatL ls) : ∃ x ∈ ls, n ∈ x.2 := by
  unfold flatL at h
  rw [List.mem_flatMap] at h
  exact h

theorem put_step {W wr W' : World} {acc ns : List Nd} {out v' : Value} (h : wr.ownsRow W.heap.size 92 6 out acc.length (rowZ Nd.cell 6 acc) ∧ Below W.heap.size W wr) (h' : W'.ownsRow W.heap.size 92 6 v' (acc ++ ns).length (rowZ Nd.cell 6 (acc ++ ns)) ∧ wr.grownBy W' out.ownBlock) :
    W'.ownsRow W.heap.size 92 6 v' (acc ++ ns).length (rowZ Nd.cell 6 (acc ++ ns)) ∧ Below W.heap.size W W' :=
  ⟨h'.1, h.2.grown h'.2 h.2.size (fun k hk => (h.1.lt k hk).1)⟩

set_option maxHeartbeats 4000000 in
set_option maxRecDepth 100000 in
theorem gput_calls {d : Dr} (k nm kd : Int) (a b c : ByteArray) (W : World) (vk : Value) (ls : List (Value × List Nd)) (h1 : d.B < W.heap.size) (h2 : d.G < W.heap.size) (hk : KidsV d W vk ls) (hb : Brief a ∧ Brief b ∧ Brief c) (hl : ls.length ≤ 1000) (hm : (flatL ls).length ≤ 800000) :
    Calls Try.prog 55 #[.agg #[.int .i64 k, .int .i64 nm, .string a, .string b, .string c, .int .i64 kd], vk] W fun e W' => ∃ v, e = .returned v ∧ NodesD d W' v (⟨k, nm, a, b, c, (ls.length : Int)⟩ :: flatL ls) ∧ Below W.heap.size W W' := by
  obtain ⟨L, hL⟩ : ∃ L, ls.length = L := ⟨_, rfl⟩
  have HK := hid hk
  have HL := hid (And.intro hL (And.intro hl (And.intro hm (And.intro hb (And.intro h1 h2)))))
  obtain ⟨ad, cp, rfl⟩ := hk.1.is
  rw [hL] at HK ⊢
  clear hk hb hm hl h1 h2 hL
  obtain ⟨i0, hinf, hz0, hz1, hz2⟩ := info_parts info_node
  go_enter Try.func55, Try.ntmps55
  go_wp2_with fail
  go_loopw [5, 6] (fun out i wr => ∃ (i' : Nat) (acc : List Nd), i = .int .i64 i' ∧ i' ≤ L ∧ Hid (wr.ownsRow W.heap.size 92 6 out acc.length (rowZ Nd.cell 6 acc) ∧ Below W.heap.size W wr) ∧ Hid (acc = ⟨k, nm, a, b, c, (L : Int)⟩ :: flatL (ls.take i'))) (fun _ i _ => L - (intOf i).toNat)
  case atStart =>
    have hw : (W.alloc (.cells #[.int .i64 k, .int .i64 nm, .string a, .string b, .string c, .int .i64 (L : Int)] 92)).heap.size = W.heap.size + 1 := by simp
    have ho := World.ownsRow_lit (base := W.heap.size) (e := 92) (size := 6) (W.alloc (.cells #[.int .i64 k, .int .i64 nm, .string a, .string b, .string c, .int .i64 (L : Int)] 92)) #[.int .i64 k, .int .i64 nm, .string a, .string b, .string c, .int .i64 (L : Int)] 1 (by rw [hw]; omega) (by unfold maxLen; omega) rfl
    rw [hw] at ho
    exact ⟨0, [⟨k, nm, a, b, c, (L : Int)⟩], rfl, Nat.zero_le _, ⟨ho, ((Below.refl _ _).alloc (Nat.le_refl _) _).alloc (by rw [hw]; omega) _⟩, by show _ = _; simp [flatL]⟩
  case round =>
    obtain ⟨i', acc, rfl, hle, HO, HA⟩ := hrel
    by_cases hi : (i' : Int) < (L : Int)
    · have hil : i' < ls.length := by have := HL.out.1; omega
      obtain ⟨-, -, g, o, rfl, hq, hc⟩ := HK.out.1.at (by omega : 0 < L)
      have hcell := (HO.out.2.cell (p := ⟨g, o + i', none⟩) hq.1).trans (hc i' (by omega))
      have hnd := HK.out.2 _ (List.mem_of_getElem? (l := ls) (i := i') (a := ls.getD i' (.slice none 0 0, [])) (by simp [List.getD, hil]))
      have hft := flatL_take ls i' hil
      have hfl := flatL_le ls (i' + 1)
      generalize ls.getD i' (.slice none 0 0, []) = kx at hcell hnd hft
      obtain ⟨kv, kns⟩ := kx
      dsimp only at hcell hnd hft
      have HN := hid (hnd.grew (Grew.of_below HO.out.2))
      have HF := hid (And.intro hft hfl)
      obtain ⟨kad, kcp, rfl⟩ := hnd.is
      clear hnd hft hfl hc hil
      have hi0 : (0 : Int) ≤ (i' : Int) := by omega
      have hstep : L - (intOf (.int .i64 ((i' + 1 : Nat) : Int))).toNat < L - (intOf (.int .i64 (i' : Int))).toNat := lt_step hi
      have HS : Hid (acc ++ kns = ⟨k, nm, a, b, c, (L : Int)⟩ :: flatL (ls.take (i' + 1)) ∧ acc.length + kns.length ≤ 900000) := by
        have e : acc ++ kns = ⟨k, nm, a, b, c, (L : Int)⟩ :: flatL (ls.take (i' + 1)) := by rw [HA.out, HF.out.1]; rfl
        refine ⟨e, ?_⟩
        rw [← List.length_append, e, List.length_cons]
        have := HF.out.2
        have := HL.out.2.2.1
        omega
      clear HA HF
      go_wp2_with (at_builtin; refine wpList_append_by rfl _ _ 53 rfl _ _ rfl rfl (fun ty => app_row nd_one Try.underlying53 hinf hz0 hz1 hz2 rfl (by decide) (by decide) HO.out.1 HN.out.1 (by have := HS.out.2; omega) HO.out.2.size ty) ?_; intro v5 w5 hv5; have HO5 := hid (put_step HO.out hv5); clear hv5)
      try rw [wrap_succ (by have := HL.out.2.1; have := HL.out.1; omega)]
      exact ⟨⟨i' + 1, acc ++ kns, rfl, by omega, HO5, HS.out.1⟩, hstep⟩
    · have e : i' = L := by omega
      subst e
      have HE : Hid (acc = ⟨k, nm, a, b, c, (i' : Int)⟩ :: flatL ls) := by
        show _ = _
        rw [HA.out, List.take_of_length_le (by have := HL.out.1; omega)]
      clear HA
      go_wp2_with fail
      go_ret
      refine ⟨_, rfl, ⟨?_, fun n hn => ?_⟩, HO.out.2⟩
      · rw [← HE.out]
        exact lies_owns (f := Nd.cell) (by decide) HO.out.1 HL.out.2.2.2.2.1 HL.out.2.2.2.2.2
      · rw [List.mem_cons] at hn
        rcases hn with rfl | hn
        · exact HL.out.2.2.2.1
        · obtain ⟨x, hx, hnx⟩ := flatL_mem hn
          exact (HK.out.2 x hx).2 n hnx
end Go.Proofs.Ytnbmhopoiijhoaa

/- What the specification's maker of code keeps in memory; its small functions. -/
namespace Go.Proofs.Ytnbmhopoiijhoaa
open Go.RowKit Go.Deep

/-- A slice of names in a row of names. -/
def NmT (W : World) (v : Value) (ss : List ByteArray) : Prop :=
  (v = .slice none 0 0 ∧ ss = []) ∨ ∃ g c cur, v = .slice (some ⟨g, 0, none⟩) ss.length c ∧ W.heap[g]? = some (.cells cur 9) ∧ ∀ j, j < ss.length → cur[j]? = some (.string (ss.getD j ⟨#[]⟩))

theorem NmT.names {W : World} {v : Value} {ss : List ByteArray} (h : NmT W v ss) : NamesV W v ss := by
  rcases h with h | ⟨g, c, cur, e, hg, hc⟩
  · exact Or.inl h
  · exact Or.inr ⟨g, 0, c, e, heap_lt hg, fun j hj => by rw [Nat.zero_add, cell_of_heap hg j]; exact hc j hj⟩

theorem NmT.is {W : World} {v : Value} {ss : List ByteArray} (h : NmT W v ss) : ∃ ad c, v = .slice ad ss.length c := h.names.slice

theorem nmT_owns {W : World} {B : Nat} {v : Value} {n : Nat} {ss : List ByteArray} (h : W.ownsRow B 9 1 v n (strRow ss)) : NmT W v ss := by
  have hl : n = ss.length := (names_owns h).2
  subst hl
  obtain ⟨-, ⟨rfl, h0⟩ | ⟨g, cap, cur, rfl, hB, hg, h1, h2, h3, h4⟩⟩ := h
  · exact Or.inl ⟨rfl, List.eq_nil_of_length_eq_zero h0⟩
  · refine Or.inr ⟨g, cap, cur, rfl, hg, fun j hj => ?_⟩
    have e := congrArg (fun l => l[j]?) h4
    simp only [List.getElem?_take_of_lt (show j < ss.length * 1 by omega), strRow_get ss j hj, Array.getElem?_toList] at e
    exact e

/-- What the maker's functions leave as it was: all but its own three kinds of blocks. -/
structure Cf (W W' : World) : Prop where
  os : W'.os = W.os
  tape : W'.tape = W.tape
  output : W'.output = W.output
  size : W.heap.size ≤ W'.heap.size
  block : ∀ (q : Nat) (c : Array Value) (t : TypeId), W.heap[q]? = some (Obj.cells c t) → t ≠ 37 → t ≠ 73 → t ≠ 69 → W'.heap[q]? = W.heap[q]?

theorem Cf.of_below {W W' : World} (h : Below W.heap.size W W') : Cf W W' := ⟨h.os, h.tape, h.output, h.size, fun q _ _ hq _ _ _ => h.block q (heap_lt hq)⟩
theorem Cf.refl (W : World) : Cf W W := Cf.of_below (Below.refl _ _)
theorem Cf.trans {W W' W'' : World} (h : Cf W W') (h' : Cf W' W'') : Cf W W'' :=
  ⟨h'.os.trans h.os, h'.tape.trans h.tape, h'.output.trans h.output, Nat.le_trans h.size h'.size, fun q c t hq h1 h2 h3 => by
    have e := h.block q c t hq h1 h2 h3
    exact (h'.block q c t (e.trans hq) h1 h2 h3).trans e⟩

theorem NmT.frame {W W' : World} {v : Value} {ss : List ByteArray} (h : NmT W v ss) (hf : Cf W W') : NmT W' v ss := by
  rcases h with h | ⟨g, c, cur, e, hg, hc⟩
  · exact Or.inl h
  · exact Or.inr ⟨g, c, cur, e, (hf.block g cur _ hg (by decide) (by decide) (by decide)).trans hg, hc⟩

def ltV (x : Lt × Value) : Nat → Value
  | 0 => .int .i64 (x.1.t.at_ : Int)
  | 1 => x.2
  | 2 => .int .i64 (x.1.fr : Int)
  | _ => .int .i64 (x.1.wh : Int)

instance : Inhabited Lt := ⟨⟨default, [], 0, 0⟩⟩

/-- The maker, as it lies. -/
structure Cm (W0 : World) (Mb : Nat) (ve vt : Value) (s : Cs) (ls : List (Lt × Value)) (vo vl : Value) (W : World) : Prop where
  blk : W.heap[Mb]? = some (.cells #[ve, vt, vo, vl] 69)
  orow : W.ownsRow W0.heap.size 37 4 vo s.out.length (rowZ In.cell 4 s.out)
  lrow : W.ownsRow W0.heap.size 73 4 vl ls.length (rowZ ltV 4 ls)
  lnam : ∀ x ∈ ls, NmT W x.2 x.1.names
  lfst : ls.map Prod.fst = s.later
  os : W.os = W0.os
  tape : W.tape = W0.tape
  output : W.output = W0.output
  size : W0.heap.size ≤ W.heap.size
  kept : ∀ q, q < W0.heap.size → q ≠ Mb → W.heap[q]? = W0.heap[q]?
  nb : Mb < W0.heap.size

def CmE (W0 : World) (Mb : Nat) (ve vt : Value) (s : Cs) (W : World) : Prop := ∃ ls vo vl, Cm W0 Mb ve vt s ls vo vl W

theorem row_keeps {W W' : World} {B : Nat} {e : TypeId} {sz : Nat} {v : Value} {n : Nat} {xs : List Value} (h : W.ownsRow B e sz v n xs) (he : ∀ g c, W.heap[g]? = some (.cells c e) → B ≤ g → W'.heap[g]? = W.heap[g]?) : W'.ownsRow B e sz v n xs :=
  own_same h (fun g eg => by obtain ⟨hB, c, hc⟩ := own_type h eg; exact he g c hc hB)

/-- Something elsewhere is done. -/
theorem Cm.below {W0 : World} {Mb : Nat} {ve vt : Value} {s : Cs} {ls : List (Lt × Value)} {vo vl : Value} {W W' : World} (h : Cm W0 Mb ve vt s ls vo vl W) (hb : Below W.heap.size W W') : Cm W0 Mb ve vt s ls vo vl W' :=
  ⟨(hb.block _ (heap_lt h.blk)).trans h.blk, row_keeps h.orow (fun g _ hc _ => hb.block g (heap_lt hc)), row_keeps h.lrow (fun g _ hc _ => hb.block g (heap_lt hc)), fun x hx => (h.lnam x hx).frame (Cf.of_below hb), h.lfst,
    hb.os.trans h.os, hb.tape.trans h.tape, hb.output.trans h.output, Nat.le_trans h.size hb.size, fun q hq hn => (hb.block q (Nat.lt_of_lt_of_le hq h.size)).trans (h.kept q hq hn), h.nb⟩

theorem CmE.below {W0 : World} {Mb : Nat} {ve vt : Value} {s : Cs} {W W' : World} (h : CmE W0 Mb ve vt s W) (hb : Below W.heap.size W W') : CmE W0 Mb ve vt s W' := by
  obtain ⟨ls, vo, vl, h⟩ := h
  exact ⟨ls, vo, vl, h.below hb⟩

theorem maker_set2 {W : World} {Mb : Nat} {a b c d : Value} (h : W.heap[Mb]? = some (.cells #[a, b, c, d] 69)) (v : Value) : (W.setCell ⟨Mb, 2, none⟩ v).heap[Mb]? = some (.cells #[a, b, v, d] 69) := by
  simp [World.setCell, Array.getElem?_modify, h]

theorem maker_set3 {W : World} {Mb : Nat} {a b c d : Value} (h : W.heap[Mb]? = some (.cells #[a, b, c, d] 69)) (v : Value) : (W.setCell ⟨Mb, 3, none⟩ v).heap[Mb]? = some (.cells #[a, b, c, v] 69) := by
  simp [World.setCell, Array.getElem?_modify, h]

/-- The block of a row of another kind. -/
theorem row_ne {W : World} {B : Nat} {e : TypeId} {sz : Nat} {v : Value} {n : Nat} {xs : List Value} (h : W.ownsRow B e sz v n xs) {q : Nat} {c : Array Value} {t : TypeId} (hq : W.heap[q]? = some (.cells c t)) (ht : t ≠ e) : some q ≠ v.ownBlock := fun e2 => by
  obtain ⟨-, cur, hc⟩ := own_type h e2.symm
  rw [hq] at hc
  cases hc
  exact ht rfl

/-- An instruction more. -/
theorem cm_put {W0 : World} {Mb : Nat} {ve vt : Value} {s : Cs} {ls : List (Lt × Value)} {vo vl : Value} {W W' : World} (h : Cm W0 Mb ve vt s ls vo vl W) (i : In) {vo' : Value} (ho : W'.ownsRow W0.heap.size 37 4 vo' (s.out.length + 1) (rowZ In.cell 4 s.out ++ [.int .i64 i.op, .int .i64 i.a, .int .i64 i.b, .int .i64 i.c])) (hg : W.grownBy W' vo.ownBlock) :
    CmE W0 Mb ve vt (s.put i) (W'.setCell ⟨Mb, 2, none⟩ vo') ∧ Cf W (W'.setCell ⟨Mb, 2, none⟩ vo') := by
  have e : ∀ q, q ≠ Mb → (W'.setCell ⟨Mb, 2, none⟩ vo').heap[q]? = W'.heap[q]? := fun q hq => Below.heap_setCell W' ⟨Mb, 2, none⟩ _ q hq
  have hs : (W'.setCell ⟨Mb, 2, none⟩ vo').heap.size = W'.heap.size := by simp [World.setCell]
  have hb' := (hg.block Mb (heap_lt h.blk) (row_ne h.orow h.blk (by decide))).trans h.blk
  have hf : Cf W (W'.setCell ⟨Mb, 2, none⟩ vo') := ⟨hg.os, hg.tape, hg.output, by rw [hs]; exact hg.size, fun q c t hq h1 _ h3 => (e q (fun e2 => by subst e2; rw [h.blk] at hq; cases hq; exact h3 rfl)).trans (hg.block q (heap_lt hq) (row_ne h.orow hq h1))⟩
  refine ⟨⟨ls, vo', vl, maker_set2 hb' _, ?_, ?_, fun x hx => (h.lnam x hx).frame hf, h.lfst, hg.os.trans h.os, hg.tape.trans h.tape, hg.output.trans h.output, by rw [hs]; exact Nat.le_trans h.size hg.size, fun q hq hn => ?_, h.nb⟩, hf⟩
  · have e3 : rowZ In.cell 4 (s.out ++ [i]) = rowZ In.cell 4 s.out ++ [.int .i64 i.op, .int .i64 i.a, .int .i64 i.b, .int .i64 i.c] := by rw [rowZ_app]; rfl
    show (W'.setCell ⟨Mb, 2, none⟩ vo').ownsRow _ _ _ _ (s.out ++ [i]).length (rowZ In.cell 4 (s.out ++ [i]))
    rw [e3, List.length_append]
    exact row_keeps ho (fun g c hc _ => e g (fun e2 => by subst e2; rw [hb'] at hc; cases hc))
  · exact row_keeps h.lrow (fun g c hc _ => (e g (fun e2 => by subst e2; rw [h.blk] at hc; cases hc)).trans (hg.block g (heap_lt hc) (row_ne h.orow hc (by decide))))
  · refine (e q hn).trans ((hg.block q (Nat.lt_of_lt_of_le hq h.size) (fun e2 => ?_)).trans (h.kept q hq hn))
    have := (own_type h.orow e2.symm).1
    omega

/-- A part more is put off. -/
theorem cm_wait {W0 : World} {Mb : Nat} {ve vt : Value} {s : Cs} {ls : List (Lt × Value)} {vo vl : Value} {W W' : World} (h : Cm W0 Mb ve vt s ls vo vl W) (l : Lt) {v : Value} (hn : NmT W v l.names) {vl' : Value} (ho : W'.ownsRow W0.heap.size 73 4 vl' (ls.length + 1) (rowZ ltV 4 ls ++ [.int .i64 (l.t.at_ : Int), v, .int .i64 (l.fr : Int), .int .i64 (l.wh : Int)])) (hg : W.grownBy W' vl.ownBlock) :
    CmE W0 Mb ve vt (s.wait l) (W'.setCell ⟨Mb, 3, none⟩ vl') ∧ Cf W (W'.setCell ⟨Mb, 3, none⟩ vl') := by
  have e : ∀ q, q ≠ Mb → (W'.setCell ⟨Mb, 3, none⟩ vl').heap[q]? = W'.heap[q]? := fun q hq => Below.heap_setCell W' ⟨Mb, 3, none⟩ _ q hq
  have hs : (W'.setCell ⟨Mb, 3, none⟩ vl').heap.size = W'.heap.size := by simp [World.setCell]
  have hb' := (hg.block Mb (heap_lt h.blk) (row_ne h.lrow h.blk (by decide))).trans h.blk
  have hf : Cf W (W'.setCell ⟨Mb, 3, none⟩ vl') := ⟨hg.os, hg.tape, hg.output, by rw [hs]; exact hg.size, fun q c t hq _ h1 h3 => (e q (fun e2 => by subst e2; rw [h.blk] at hq; cases hq; exact h3 rfl)).trans (hg.block q (heap_lt hq) (row_ne h.lrow hq h1))⟩
  refine ⟨⟨ls ++ [(l, v)], vo, vl', maker_set3 hb' _, ?_, ?_, fun x hx => ?_, ?_, hg.os.trans h.os, hg.tape.trans h.tape, hg.output.trans h.output, by rw [hs]; exact Nat.le_trans h.size hg.size, fun q hq hn => ?_, h.nb⟩, hf⟩
  · exact row_keeps h.orow (fun g c hc _ => (e g (fun e2 => by subst e2; rw [h.blk] at hc; cases hc)).trans (hg.block g (heap_lt hc) (row_ne h.lrow hc (by decide))))
  · have e3 : rowZ ltV 4 (ls ++ [(l, v)]) = rowZ ltV 4 ls ++ [.int .i64 (l.t.at_ : Int), v, .int .i64 (l.fr : Int), .int .i64 (l.wh : Int)] := by rw [rowZ_app]; rfl
    rw [e3, List.length_append]
    exact row_keeps ho (fun g c hc _ => e g (fun e2 => by subst e2; rw [hb'] at hc; cases hc))
  · rw [List.mem_append, List.mem_singleton] at hx
    rcases hx with hx | rfl
    · exact (h.lnam x hx).frame hf
    · exact hn.frame hf
  · rw [List.map_append, h.lfst]
    rfl
  · refine (e q hn).trans ((hg.block q (Nat.lt_of_lt_of_le hq h.size) (fun e2 => ?_)).trans (h.kept q hq hn))
    have := (own_type h.lrow e2.symm).1
    omega

/-- An instruction is written anew. -/
def quad (X : World) (g k : Nat) (i : In) : World := (((X.setCell ⟨g, k * 4, none⟩ (.int .i64 i.op)).setCell ⟨g, k * 4 + 1, none⟩ (.int .i64 i.a)).setCell ⟨g, k * 4 + 2, none⟩ (.int .i64 i.b)).setCell ⟨g, k * 4 + 3, none⟩ (.int .i64 i.c)

theorem quad_other (X : World) (g k : Nat) (i : In) : (∀ j, j ≠ g → (quad X g k i).heap[j]? = X.heap[j]?) ∧ (quad X g k i).heap.size = X.heap.size := by
  refine ⟨fun j hj => ?_, by simp [quad, World.setCell]⟩
  unfold quad
  rw [Below.heap_setCell _ ⟨g, k * 4 + 3, none⟩ _ j hj, Below.heap_setCell _ ⟨g, k * 4 + 2, none⟩ _ j hj, Below.heap_setCell _ ⟨g, k * 4 + 1, none⟩ _ j hj, Below.heap_setCell _ ⟨g, k * 4, none⟩ _ j hj]

theorem quad_os (X : World) (g k : Nat) (i : In) : (quad X g k i).os = X.os ∧ (quad X g k i).tape = X.tape ∧ (quad X g k i).output = X.output := by
  simp [quad, World.setCell]

theorem quad_list (l : List In) (k : Nat) (hk : k < l.length) (i : In) : ((((rowZ In.cell 4 l).set (k * 4) (.int .i64 i.op)).set (k * 4 + 1) (.int .i64 i.a)).set (k * 4 + 2) (.int .i64 i.b)).set (k * 4 + 3) (.int .i64 i.c) = rowZ In.cell 4 (l.set k i) := by
  apply List.ext_getElem?
  intro j
  by_cases hj : j < l.length * 4
  · rw [rowZ_get In.cell 4 (by decide) (l.set k i) j (by rw [List.length_set]; exact hj)]
    have hl := rowZ_len In.cell 4 l
    have h0 := rowZ_get In.cell 4 (by decide) l j hj
    by_cases hik : j / 4 = k
    · have hgd : (l.set k i).getD (j / 4) default = i := by rw [hik]; simp [List.getD, hk]
      rw [hgd]
      have hr : j % 4 = 0 ∨ j % 4 = 1 ∨ j % 4 = 2 ∨ j % 4 = 3 := by omega
      rcases hr with hr | hr | hr | hr
      · rw [List.getElem?_set_ne (by omega), List.getElem?_set_ne (by omega), List.getElem?_set_ne (by omega), show k * 4 = j by omega, List.getElem?_set_self (by omega), hr]; rfl
      · rw [List.getElem?_set_ne (by omega), List.getElem?_set_ne (by omega), show k * 4 + 1 = j by omega, List.getElem?_set_self (by simp; omega), hr]; rfl
      · rw [List.getElem?_set_ne (by omega), show k * 4 + 2 = j by omega, List.getElem?_set_self (by simp; omega), hr]; rfl
      · rw [show k * 4 + 3 = j by omega, List.getElem?_set_self (by simp; omega), hr]; rfl
    · rw [List.getElem?_set_ne (by omega), List.getElem?_set_ne (by omega), List.getElem?_set_ne (by omega), List.getElem?_set_ne (by omega), h0]
      have hgd : (l.set k i).getD (j / 4) default = l.getD (j / 4) default := by simp [List.getD, List.getElem?_set_ne (Ne.symm hik)]
      rw [hgd]
  · rw [List.getElem?_eq_none (by simp only [List.length_set, rowZ_len]; omega), List.getElem?_eq_none (by simp only [List.length_set, rowZ_len]; omega)]

theorem quad_row {X : World} {B g cap k : Nat} {l : List In} (h : X.ownsRow B 37 4 (.slice (some ⟨g, 0, none⟩) l.length cap) l.length (rowZ In.cell 4 l)) (hk : k < l.length) (i : In) : (quad X g k i).ownsRow B 37 4 (.slice (some ⟨g, 0, none⟩) (l.set k i).length cap) (l.set k i).length (rowZ In.cell 4 (l.set k i)) := by
  have h1 := (h.stored (k * 4) (.int .i64 i.op)).1
  have h2 := (h1.stored (k * 4 + 1) (.int .i64 i.a)).1
  have h3 := (h2.stored (k * 4 + 2) (.int .i64 i.b)).1
  have h4 := (h3.stored (k * 4 + 3) (.int .i64 i.c)).1
  rw [quad_list l k hk i] at h4
  rw [List.length_set]
  exact h4

theorem cm_lead {W0 : World} {Mb : Nat} {ve vt : Value} {s : Cs} {ls : List (Lt × Value)} {g cap : Nat} {vl : Value} {W : World} (h : Cm W0 Mb ve vt s ls (.slice (some ⟨g, 0, none⟩) s.out.length cap) vl W) {fr : Nat} (hfr : fr < s.out.length) (wh : Nat) :
    CmE W0 Mb ve vt (s.lead fr wh) (quad W g fr ((s.out.getD fr default).lead wh s.out.length)) ∧ Cf W (quad W g fr ((s.out.getD fr default).lead wh s.out.length)) := by
  obtain ⟨e, hs⟩ := quad_other W g fr ((s.out.getD fr default).lead wh s.out.length)
  obtain ⟨o1, o2, o3⟩ := quad_os W g fr ((s.out.getD fr default).lead wh s.out.length)
  obtain ⟨hB, cur, hc⟩ := own_type h.orow (g := g) rfl
  have hf : Cf W (quad W g fr ((s.out.getD fr default).lead wh s.out.length)) := ⟨o1, o2, o3, by rw [hs]; exact Nat.le_refl _, fun q c t hq h1 _ _ => e q (fun e2 => by subst e2; rw [hc] at hq; cases hq; exact h1 rfl)⟩
  refine ⟨⟨ls, .slice (some ⟨g, 0, none⟩) s.out.length cap, vl, (e Mb (fun e2 => by subst e2; rw [h.blk] at hc; cases hc)).trans h.blk, ?_, row_keeps h.lrow (fun q c hq _ => e q (fun e2 => by subst e2; rw [hc] at hq; cases hq)), fun x hx => (h.lnam x hx).frame hf, h.lfst, o1.trans h.os, o2.trans h.tape, o3.trans h.output, by rw [hs]; exact h.size, fun q hq hn => (e q (by omega)).trans (h.kept q hq hn), h.nb⟩, hf⟩
  have := quad_row h.orow hfr ((s.out.getD fr default).lead wh s.out.length)
  rw [List.length_set] at this
  show (quad W g fr _).ownsRow _ _ _ _ (s.out.set fr _).length _
  rw [List.length_set]
  exact this
end Go.Proofs.Ytnbmhopoiijhoaa

/- The maker's small functions. -/
namespace Go.Proofs.Ytnbmhopoiijhoaa
open Go.RowKit Go.Deep

theorem info_insC : (Try.prog.info? 37).map (fun i => (i.zero, i.size, i.bytes)) = some (some (.agg #[.int .i64 0, .int .i64 0, .int .i64 0, .int .i64 0]), 4, 32) := by kernel_rfl
theorem info_later : (Try.prog.info? 73).map (fun i => (i.zero, i.size, i.bytes)) = some (some (.agg #[.int .i64 0, .slice none 0 0, .int .i64 0, .int .i64 0]), 4, 48) := by kernel_rfl

def PutPost (W0 : World) (Mb : Nat) (ve vt : Value) (s : Cs) (i : In) (W : World) (e : Ending) (W' : World) : Prop :=
  e = .returned (.int .i64 (s.out.length : Int)) ∧ CmE W0 Mb ve vt (s.put i) W' ∧ Cf W W'

set_option maxHeartbeats 2000000 in
set_option maxRecDepth 100000 in
theorem putM_calls {W0 : World} {Mb : Nat} {ve vt : Value} {s : Cs} (i : In) {W : World} (h : CmE W0 Mb ve vt s W) (hl : s.out.length ≤ 960000) :
    Calls Try.prog 35 #[.pointer (some ⟨Mb, 0, none⟩), .agg #[.int .i64 i.op, .int .i64 i.a, .int .i64 i.b, .int .i64 i.c]] W (PutPost W0 Mb ve vt s i W) := by
  obtain ⟨ls, vo, vl, h⟩ := h
  obtain ⟨op, a, b, c⟩ := i
  obtain ⟨adp, cpp, hvp⟩ := own_slice h.orow
  subst hvp
  have hbx := (MapKept.heap_alloc W (.cells #[.int .i64 op, .int .i64 a, .int .i64 b, .int .i64 c] 37)).1
  have hb0 : Below W.heap.size W (W.alloc (.cells #[.int .i64 op, .int .i64 a, .int .i64 b, .int .i64 c] 37)) := (Below.refl _ _).alloc (Nat.le_refl _) _
  obtain ⟨Y, hY⟩ : ∃ Y, W.alloc (.cells #[.int .i64 op, .int .i64 a, .int .i64 b, .int .i64 c] 37) = Y := ⟨_, rfl⟩
  have HY := hid hY
  rw [hY] at hbx hb0
  have St0 := hid (h.below hb0)
  have HB0 := hid hb0
  have HBx := hid hbx
  have HL := hid hl
  have hsz : W.heap.size + 1 = Y.heap.size := by rw [← hY]; simp
  have d1 := cell_of_heap St0.out.blk 2
  simp at d1
  have hPl : Mb < Y.heap.size := heap_lt St0.out.blk
  have hxl : W.heap.size < Y.heap.size := by omega
  have e0 := cell_of_heap HBx.out 0
  have e1 := cell_of_heap HBx.out 1
  have e2 := cell_of_heap HBx.out 2
  have e3 := cell_of_heap HBx.out 3
  simp at e0 e1 e2 e3
  clear h hl hY hb0 hbx
  go_enter Try.func35, Try.ntmps35
  go_upto_region 1 with fail
  rw [HY.out]
  clear HY
  have q0 : ∀ y : Later Y.heap.size Y, y.w.cell? ⟨Mb, 2, none⟩ = _ := fun y => y.cell hPl d1
  have p0 : ∀ y : Later Y.heap.size Y, y.w.cell? ⟨W.heap.size, 0, none⟩ = _ := fun y => y.cell hxl e0
  have p1 : ∀ y : Later Y.heap.size Y, y.w.cell? ⟨W.heap.size, 1, none⟩ = _ := fun y => y.cell hxl e1
  have p2 : ∀ y : Later Y.heap.size Y, y.w.cell? ⟨W.heap.size, 2, none⟩ = _ := fun y => y.cell hxl e2
  have p3 : ∀ y : Later Y.heap.size Y, y.w.cell? ⟨W.heap.size, 3, none⟩ = _ := fun y => y.cell hxl e3
  clear d1 e0 e1 e2 e3
  refine till_begin (c := 7) (S := fun w' => ∃ x : Later Y.heap.size Y, w' = x.w) (by kernel_rfl) ?_
  refine till_walk (by kernel_rfl) 6 0 _ _ (by kernel_rfl) (by kernel_rfl) ⟨⟨Y.drew, (Below.refl _ _).drew⟩, rfl⟩ ?_
  simp only [List.drop_zero, List.take_succ_cons, List.take_zero]
  repeat (go_big_quiet_step (fail))
  refine wpQuiet_nil ?_
  rintro w7 ⟨x1, rfl⟩
  have hL1 := x1.h
  clear q0 p0 p1 p2 p3
  generalize x1.w = X1 at *
  refine till_make (k := 6) (v := .slice (some ⟨X1.heap.size, 0, none⟩) 1 1) (w1 := X1.alloc (.cells #[.int .i64 op, .int .i64 a, .int .i64 b, .int .i64 c] 37)) (by decide) rfl (by kernel_rfl) rfl (by simp [go_sem]) ⟨⟨_, hL1.alloc (by have := hL1.size; omega) _⟩, rfl⟩ (by simp [go_sem]; exact rfl) ?_
  have hE := (MapKept.heap_alloc X1 (.cells #[.int .i64 op, .int .i64 a, .int .i64 b, .int .i64 c] 37)).1
  have hKx := hL1.trans (((Below.refl X1.heap.size X1).alloc (Nat.le_refl _) (.cells #[.int .i64 op, .int .i64 a, .int .i64 b, .int .i64 c] 37)).mono hL1.size)
  generalize X1.alloc (.cells #[.int .i64 op, .int .i64 a, .int .i64 b, .int .i64 c] 37) = X2 at *
  have St2 := hid (St0.out.below hKx)
  obtain ⟨i0, hi, hz0, hz1, hz2⟩ := info_parts info_insC
  obtain ⟨vp2, X3, hrun, hown, hgrow, -, hat⟩ := run_append_own_at (P := Try.prog) X2 W0.heap.size 23 23 37 i0 _ 4 32 Try.underlying23 hi hz0 hz1 hz2 rfl (by decide) (.slice adp s.out.length cpp) s.out.length (rowZ In.cell 4 s.out) St2.out.orow ⟨X1.heap.size, 0, none⟩ 1 1 [.int .i64 op, .int .i64 a, .int .i64 b, .int .i64 c] rfl (fun j u hu => by
    rw [Addr.add_lit]
    match j, hu with
    | 0, hu => simp at hu; subst hu; exact cell_of_heap hE 0
    | 1, hu => simp at hu; subst hu; exact cell_of_heap hE 1
    | 2, hu => simp at hu; subst hu; exact cell_of_heap hE 2
    | 3, hu => simp at hu; subst hu; exact cell_of_heap hE 3) (fun u hu => by
    simp at hu
    rcases hu with rfl | rfl | rfl | rfl <;> rfl) (by have := HL.out; unfold maxLen; omega) (by have := HL.out; omega) St2.out.size
  have hnx := cm_put St2.out ⟨op, a, b, c⟩ hown hgrow
  refine till_cut (v := vp2) (w1 := X3) rfl (by kernel_rfl) rfl (append_runN (s := .tmp 9) (x := .tmp 11) (t := 23) rfl rfl rfl hrun) (by simp [go_sem]; exact rfl) ?_
  refine any_stage (fun _ => True) ?_
  have hb3 := (hgrow.block Mb (heap_lt St2.out.blk) (row_ne St2.out.orow St2.out.blk (by decide))).trans St2.out.blk
  have d1 := cell_of_heap hb3 2
  have w1 := frozen_of_heap hb3 2
  simp at d1
  obtain ⟨ad2, cp2, hv2⟩ := own_slice hown
  subst hv2
  refine stage_make (k := 8) (v := .pointer (some ⟨Mb, 0, none⟩)) (w1 := X3) rfl (by kernel_rfl) rfl (by simp [go_sem]) trivial (by simp [go_sem]; exact rfl) ?_
  refine stage_make (k := 9) (v := .pointer (some ⟨Mb, 2, none⟩)) (w1 := X3) rfl (by kernel_rfl) rfl (by simp [go_sem]) trivial (by simp [go_sem]; exact rfl) ?_
  refine stage_skip (k := 10) rfl (w1 := X3.setCell ⟨Mb, 2, none⟩ (.slice ad2 (s.out.length + 1) cp2)) rfl (by kernel_rfl) rfl (by simp [go_sem, d1, w1]) trivial ?_
  refine stage_end (by kernel_rfl) ?_
  have HNx := hid hnx.1
  have HFr := hid (((Cf.of_below HB0.out).trans (Cf.of_below hKx)).trans hnx.2)
  have hfin := cell_of_heap (maker_set2 hb3 (.slice ad2 (s.out.length + 1) cp2)) 2
  simp at hfin
  clear hnx hrun hown hgrow hat hE hKx hi hz0 hz1 hz2 hb3 d1 w1 St2 St0 HBx HB0 hL1 hPl hxl hsz
  generalize X3.setCell ⟨Mb, 2, none⟩ (.slice ad2 (s.out.length + 1) cp2) = Z at *
  go_wp2_with fail
  rw [show wrap64 (s.out.length : Int) = (s.out.length : Int) by have := HL.out; unfold wrap64; omega]
  go_ret
  exact ⟨rfl, HNx.out, HFr.out⟩

def LeadPost (W0 : World) (Mb : Nat) (ve vt : Value) (s : Cs) (W : World) (e : Ending) (W' : World) : Prop :=
  (∃ x, e = .returned x) ∧ CmE W0 Mb ve vt s W' ∧ Cf W W'

/-- Blocks of parts that are put off stay. -/
def Cl (W W' : World) : Prop := ∀ (q : Nat) (c : Array Value), W.heap[q]? = some (Obj.cells c 73) → W'.heap[q]? = W.heap[q]?

def LeadPost2 (W0 : World) (Mb : Nat) (ve vt : Value) (s : Cs) (W : World) (e : Ending) (W' : World) : Prop := LeadPost W0 Mb ve vt s W e W' ∧ Cl W W'

theorem lead_a (i : In) (v : Int) : i.lead 0 v = ⟨i.op, v, i.b, i.c⟩ := rfl
theorem lead_b (i : In) (v : Int) : i.lead 1 v = ⟨i.op, i.a, v, i.c⟩ := rfl
theorem lead_c (i : In) (v : Int) : i.lead 2 v = ⟨i.op, i.a, i.b, v⟩ := rfl

theorem box_set {W : World} {q : Nat} {x0 x1 x2 x3 : Value} (h : W.heap[q]? = some (.cells #[x0, x1, x2, x3] 37)) (v : Value) :
    (W.setCell ⟨q, 1, none⟩ v).heap[q]? = some (.cells #[x0, v, x2, x3] 37) ∧ (W.setCell ⟨q, 2, none⟩ v).heap[q]? = some (.cells #[x0, x1, v, x3] 37) ∧ (W.setCell ⟨q, 3, none⟩ v).heap[q]? = some (.cells #[x0, x1, x2, v] 37) := by
  refine ⟨?_, ?_, ?_⟩ <;> simp [World.setCell, Array.getElem?_modify, h]

/-- The box beside the maker is written. -/
theorem Cm.box {W0 : World} {Mb : Nat} {ve vt : Value} {s : Cs} {ls : List (Lt × Value)} {vo vl : Value} {W Y : World} (h : Cm W0 Mb ve vt s ls vo vl W) (hb : Below W.heap.size W Y) {q : Nat} (hq : W.heap.size ≤ q) (j : Nat) (v : Value) : Cm W0 Mb ve vt s ls vo vl (Y.setCell ⟨q, j, none⟩ v) ∧ Below W.heap.size W (Y.setCell ⟨q, j, none⟩ v) := by
  have hb2 : Below W.heap.size W (Y.setCell ⟨q, j, none⟩ v) := ⟨hb.os, hb.tape, hb.output, by simp [World.setCell]; exact hb.size, fun k hk => (Below.heap_setCell Y ⟨q, j, none⟩ v k (by show k ≠ q; omega)).trans (hb.block k hk)⟩
  exact ⟨h.below hb2, hb2⟩

set_option maxHeartbeats 2000000 in
set_option maxRecDepth 100000 in
theorem lead2_calls {W0 : World} {Mb : Nat} {ve vt : Value} {s : Cs} (fr wh : Nat) {W : World} (h : CmE W0 Mb ve vt s W) (hl : s.out.length ≤ 960000) (hfr : fr < s.out.length) (hwh : wh = 0 ∨ wh = 1 ∨ wh = 2) :
    Calls Try.prog 36 #[.pointer (some ⟨Mb, 0, none⟩), .int .i64 (fr : Int), .int .i64 (wh : Int)] W (LeadPost2 W0 Mb ve vt (s.lead fr wh) W) := by
  obtain ⟨ls, vo, vl, h⟩ := h
  obtain ⟨g, cap, hvo⟩ : ∃ g cap, vo = .slice (some ⟨g, 0, none⟩) s.out.length cap := by
    obtain ⟨-, ⟨-, h0⟩ | ⟨g, cap, cur, e, -⟩⟩ := h.orow
    · omega
    · exact ⟨g, cap, e⟩
  subst hvo
  have d2 := cell_of_heap h.blk 2
  simp at d2
  have hc : ∀ j, j < 4 → W.cell? ⟨g, fr * 4 + j, none⟩ = some ((s.out.getD fr default).cell j) := fun j hj => by
    rw [h.orow.cellAt (fr * 4 + j) (by omega), rowZ_get In.cell 4 (by decide) s.out _ (by omega)]
    rw [show (fr * 4 + j) / 4 = fr by omega, show (fr * 4 + j) % 4 = j by omega]
  obtain ⟨i, hi⟩ : ∃ i, s.out.getD fr default = i := ⟨_, rfl⟩
  rw [hi] at hc
  have c0 := hc 0 (by omega)
  have c1 := hc 1 (by omega)
  have c2 := hc 2 (by omega)
  have c3 := hc 3 (by omega)
  obtain ⟨op, a, b, c⟩ := i
  simp only [In.cell, Nat.add_zero] at c0 c1 c2 c3
  have HI := hid hi
  have hA := (MapKept.heap_alloc W (.cells #[.int .i64 op, .int .i64 a, .int .i64 b, .int .i64 c] 37)).1
  have hB := (Below.refl W.heap.size W).alloc (Nat.le_refl _) (.cells #[.int .i64 op, .int .i64 a, .int .i64 b, .int .i64 c] 37)
  obtain ⟨Y, hY⟩ : ∃ Y, W.alloc (.cells #[.int .i64 op, .int .i64 a, .int .i64 b, .int .i64 c] 37) = Y := ⟨_, rfl⟩
  have HY := hid hY
  rw [hY] at hA hB
  have HA := hid hA
  have HB := hid hB
  have HSt := hid h
  have HL := hid (And.intro hl hfr)
  have hgW : g < W.heap.size := by obtain ⟨-, cur, hcur⟩ := own_type h.orow (g := g) rfl; exact heap_lt hcur
  have HFin : Hid (∀ Z wh', Cm W0 Mb ve vt s ls (.slice (some ⟨g, 0, none⟩) s.out.length cap) vl Z → Below W.heap.size W Z → LeadPost2 W0 Mb ve vt (s.lead fr wh') W (.returned (.tuple #[])) (quad Z g fr ((⟨op, a, b, c⟩ : In).lead wh' s.out.length))) := fun Z wh' hz hf => by
    have h2 := cm_lead hz hfr wh'
    obtain ⟨-, cur, hcur⟩ := own_type hz.orow (g := g) rfl
    have h3 := (quad_other Z g fr ((⟨op, a, b, c⟩ : In).lead wh' s.out.length)).1
    rw [hi] at h2
    refine ⟨⟨⟨_, rfl⟩, h2.1, (Cf.of_below hf).trans h2.2⟩, fun q x hq => ?_⟩
    have h4 := hf.block q (heap_lt hq)
    exact (h3 q (fun e => by subst e; rw [h4, hq] at hcur; cases hcur)).trans h4
  clear hi hY hc h hl hA hB
  have hf0 : (0 : Int) ≤ (fr : Int) := by omega
  have hf1 : (fr : Int) < (s.out.length : Int) := by omega
  go_enter Try.func36, Try.ntmps36
  go_upto_region 1 with fail
  rw [HY.out]
  have d2 := cell_of_heap (HSt.out.below HB.out).blk 2
  simp at d2
  clear HY c0 c1 c2 c3
  rcases hwh with hw | hw | hw
  · subst hw
    obtain ⟨Z, hZ⟩ : ∃ Z, Y.setCell ⟨W.heap.size, 1, none⟩ (.int .i64 (s.out.length : Int)) = Z := ⟨_, rfl⟩
    have hbox := (box_set HA.out (.int .i64 (s.out.length : Int))).1
    have hst := HSt.out.box HB.out (Nat.le_refl _) 1 (.int .i64 (s.out.length : Int))
    have a1 := cell_of_heap HA.out 1
    have a2 := frozen_of_heap HA.out 1
    simp at a1
    rw [hZ] at hbox hst
    have HZ := hid hZ
    clear hZ
    go_upto_region 8 with fail
    rw [HZ.out]
    clear HZ a1 a2
    have HBx := hid hbox
    have St := hid hst
    have b2 := cell_of_heap St.out.1.blk 2
    have e0 := cell_of_heap HBx.out 0
    have e1 := cell_of_heap HBx.out 1
    have e2 := cell_of_heap HBx.out 2
    have e3 := cell_of_heap HBx.out 3
    simp at b2 e0 e1 e2 e3
    have hPl : Mb < Z.heap.size := heap_lt St.out.1.blk
    have hxl : W.heap.size < Z.heap.size := heap_lt HBx.out
    have q0 : ∀ y : Later Z.heap.size Z, y.w.cell? ⟨Mb, 2, none⟩ = _ := fun y => y.cell hPl b2
    have p0 : ∀ y : Later Z.heap.size Z, y.w.cell? ⟨W.heap.size, 0, none⟩ = _ := fun y => y.cell hxl e0
    have p1 : ∀ y : Later Z.heap.size Z, y.w.cell? ⟨W.heap.size, 1, none⟩ = _ := fun y => y.cell hxl e1
    have p2 : ∀ y : Later Z.heap.size Z, y.w.cell? ⟨W.heap.size, 2, none⟩ = _ := fun y => y.cell hxl e2
    have p3 : ∀ y : Later Z.heap.size Z, y.w.cell? ⟨W.heap.size, 3, none⟩ = _ := fun y => y.cell hxl e3
    clear b2 e0 e1 e2 e3 hbox hst
    refine till_begin (c := 6) (S := fun w' => ∃ x : Later Z.heap.size Z, w' = x.w) (by kernel_rfl) ?_
    refine till_walk (by kernel_rfl) 6 0 _ _ (by kernel_rfl) (by kernel_rfl) ⟨⟨Z.drew, (Below.refl _ _).drew⟩, rfl⟩ ?_
    simp only [List.drop_zero, List.take_succ_cons, List.take_zero]
    repeat (go_big_quiet_step (fail))
    refine wpQuiet_nil ?_
    rintro w7 ⟨x1, rfl⟩
    have hL1 := x1.h
    clear q0 p0 p1 p2 p3
    generalize x1.w = X1 at *
    have S1 := hid (St.out.1.below hL1)
    have F1 := hid (St.out.2.trans (hL1.mono St.out.2.size))
    refine till_cut (v := .pointer (some ⟨g, fr * 4, none⟩)) (w1 := X1) rfl (by kernel_rfl) rfl (by simp [go_sem, hf0, hf1]) (by simp [go_sem]; exact rfl) ?_
    refine any_stage (fun _ => True) ?_
    have hg1 := own_type S1.out.orow (g := g) rfl
    have hd : ∀ j, j < 4 → X1.cell? ⟨g, fr * 4 + j, none⟩ = some ((s.out.getD fr default).cell j) := fun j hj => by
      rw [S1.out.orow.cellAt (fr * 4 + j) (by omega), rowZ_get In.cell 4 (by decide) s.out _ (by omega)]
      rw [show (fr * 4 + j) / 4 = fr by omega, show (fr * 4 + j) % 4 = j by omega]
    obtain ⟨-, cur, hcur⟩ := hg1
    have f0 := frozen_of_heap hcur (fr * 4)
    have f1 := frozen_of_heap hcur (fr * 4 + 1)
    have f2 := frozen_of_heap hcur (fr * 4 + 2)
    have f3 := frozen_of_heap hcur (fr * 4 + 3)
    have k0 := hd 0 (by omega)
    have k1 := hd 1 (by omega)
    have k2 := hd 2 (by omega)
    have k3 := hd 3 (by omega)
    rw [Nat.add_zero] at k0
    refine stage_skip (k := 7) rfl (w1 := quad X1 g fr ⟨op, s.out.length, b, c⟩) rfl (by kernel_rfl) rfl (by unfold quad; simp [go_sem, f0, f1, f2, f3, k0, k1, k2, k3]) trivial ?_
    refine stage_end (by kernel_rfl) ?_
    have HR := hid (HFin.out X1 0 S1.out F1.out)
    rw [lead_a] at HR
    clear f0 f1 f2 f3 k0 k1 k2 k3 hcur hd hL1 S1 F1 St HBx hPl hxl
    generalize quad X1 g fr ⟨op, s.out.length, b, c⟩ = Z2 at *
    go_wp2_with fail
    go_end0
    exact HR.out
  · subst hw
    obtain ⟨Z, hZ⟩ : ∃ Z, Y.setCell ⟨W.heap.size, 2, none⟩ (.int .i64 (s.out.length : Int)) = Z := ⟨_, rfl⟩
    have hbox := (box_set HA.out (.int .i64 (s.out.length : Int))).2.1
    have hst := HSt.out.box HB.out (Nat.le_refl _) 2 (.int .i64 (s.out.length : Int))
    have a1 := cell_of_heap HA.out 2
    have a2 := frozen_of_heap HA.out 2
    simp at a1
    rw [hZ] at hbox hst
    have HZ := hid hZ
    clear hZ
    go_upto_region 8 with fail
    rw [HZ.out]
    clear HZ a1 a2
    have HBx := hid hbox
    have St := hid hst
    have b2 := cell_of_heap St.out.1.blk 2
    have e0 := cell_of_heap HBx.out 0
    have e1 := cell_of_heap HBx.out 1
    have e2 := cell_of_heap HBx.out 2
    have e3 := cell_of_heap HBx.out 3
    simp at b2 e0 e1 e2 e3
    have hPl : Mb < Z.heap.size := heap_lt St.out.1.blk
    have hxl : W.heap.size < Z.heap.size := heap_lt HBx.out
    have q0 : ∀ y : Later Z.heap.size Z, y.w.cell? ⟨Mb, 2, none⟩ = _ := fun y => y.cell hPl b2
    have p0 : ∀ y : Later Z.heap.size Z, y.w.cell? ⟨W.heap.size, 0, none⟩ = _ := fun y => y.cell hxl e0
    have p1 : ∀ y : Later Z.heap.size Z, y.w.cell? ⟨W.heap.size, 1, none⟩ = _ := fun y => y.cell hxl e1
    have p2 : ∀ y : Later Z.heap.size Z, y.w.cell? ⟨W.heap.size, 2, none⟩ = _ := fun y => y.cell hxl e2
    have p3 : ∀ y : Later Z.heap.size Z, y.w.cell? ⟨W.heap.size, 3, none⟩ = _ := fun y => y.cell hxl e3
    clear b2 e0 e1 e2 e3 hbox hst
    refine till_begin (c := 6) (S := fun w' => ∃ x : Later Z.heap.size Z, w' = x.w) (by kernel_rfl) ?_
    refine till_walk (by kernel_rfl) 6 0 _ _ (by kernel_rfl) (by kernel_rfl) ⟨⟨Z.drew, (Below.refl _ _).drew⟩, rfl⟩ ?_
    simp only [List.drop_zero, List.take_succ_cons, List.take_zero]
    repeat (go_big_quiet_step (fail))
    refine wpQuiet_nil ?_
    rintro w7 ⟨x1, rfl⟩
    have hL1 := x1.h
    clear q0 p0 p1 p2 p3
    generalize x1.w = X1 at *
    have S1 := hid (St.out.1.below hL1)
    have F1 := hid (St.out.2.trans (hL1.mono St.out.2.size))
    refine till_cut (v := .pointer (some ⟨g, fr * 4, none⟩)) (w1 := X1) rfl (by kernel_rfl) rfl (by simp [go_sem, hf0, hf1]) (by simp [go_sem]; exact rfl) ?_
    refine any_stage (fun _ => True) ?_
    have hg1 := own_type S1.out.orow (g := g) rfl
    have hd : ∀ j, j < 4 → X1.cell? ⟨g, fr * 4 + j, none⟩ = some ((s.out.getD fr default).cell j) := fun j hj => by
      rw [S1.out.orow.cellAt (fr * 4 + j) (by omega), rowZ_get In.cell 4 (by decide) s.out _ (by omega)]
      rw [show (fr * 4 + j) / 4 = fr by omega, show (fr * 4 + j) % 4 = j by omega]
    obtain ⟨-, cur, hcur⟩ := hg1
    have f0 := frozen_of_heap hcur (fr * 4)
    have f1 := frozen_of_heap hcur (fr * 4 + 1)
    have f2 := frozen_of_heap hcur (fr * 4 + 2)
    have f3 := frozen_of_heap hcur (fr * 4 + 3)
    have k0 := hd 0 (by omega)
    have k1 := hd 1 (by omega)
    have k2 := hd 2 (by omega)
    have k3 := hd 3 (by omega)
    rw [Nat.add_zero] at k0
    refine stage_skip (k := 7) rfl (w1 := quad X1 g fr ⟨op, a, s.out.length, c⟩) rfl (by kernel_rfl) rfl (by unfold quad; simp [go_sem, f0, f1, f2, f3, k0, k1, k2, k3]) trivial ?_
    refine stage_end (by kernel_rfl) ?_
    have HR := hid (HFin.out X1 1 S1.out F1.out)
    rw [lead_b] at HR
    clear f0 f1 f2 f3 k0 k1 k2 k3 hcur hd hL1 S1 F1 St HBx hPl hxl
    generalize quad X1 g fr ⟨op, a, s.out.length, c⟩ = Z2 at *
    go_wp2_with fail
    go_end0
    exact HR.out
  · subst hw
    obtain ⟨Z, hZ⟩ : ∃ Z, Y.setCell ⟨W.heap.size, 3, none⟩ (.int .i64 (s.out.length : Int)) = Z := ⟨_, rfl⟩
    have hbox := (box_set HA.out (.int .i64 (s.out.length : Int))).2.2
    have hst := HSt.out.box HB.out (Nat.le_refl _) 3 (.int .i64 (s.out.length : Int))
    have a1 := cell_of_heap HA.out 3
    have a2 := frozen_of_heap HA.out 3
    simp at a1
    rw [hZ] at hbox hst
    have HZ := hid hZ
    clear hZ
    go_upto_region 8 with fail
    rw [HZ.out]
    clear HZ a1 a2
    have HBx := hid hbox
    have St := hid hst
    have b2 := cell_of_heap St.out.1.blk 2
    have e0 := cell_of_heap HBx.out 0
    have e1 := cell_of_heap HBx.out 1
    have e2 := cell_of_heap HBx.out 2
    have e3 := cell_of_heap HBx.out 3
    simp at b2 e0 e1 e2 e3
    have hPl : Mb < Z.heap.size := heap_lt St.out.1.blk
    have hxl : W.heap.size < Z.heap.size := heap_lt HBx.out
    have q0 : ∀ y : Later Z.heap.size Z, y.w.cell? ⟨Mb, 2, none⟩ = _ := fun y => y.cell hPl b2
    have p0 : ∀ y : Later Z.heap.size Z, y.w.cell? ⟨W.heap.size, 0, none⟩ = _ := fun y => y.cell hxl e0
    have p1 : ∀ y : Later Z.heap.size Z, y.w.cell? ⟨W.heap.size, 1, none⟩ = _ := fun y => y.cell hxl e1
    have p2 : ∀ y : Later Z.heap.size Z, y.w.cell? ⟨W.heap.size, 2, none⟩ = _ := fun y => y.cell hxl e2
    have p3 : ∀ y : Later Z.heap.size Z, y.w.cell? ⟨W.heap.size, 3, none⟩ = _ := fun y => y.cell hxl e3
    clear b2 e0 e1 e2 e3 hbox hst
    refine till_begin (c := 6) (S := fun w' => ∃ x : Later Z.heap.size Z, w' = x.w) (by kernel_rfl) ?_
    refine till_walk (by kernel_rfl) 6 0 _ _ (by kernel_rfl) (by kernel_rfl) ⟨⟨Z.drew, (Below.refl _ _).drew⟩, rfl⟩ ?_
    simp only [List.drop_zero, List.take_succ_cons, List.take_zero]
    repeat (go_big_quiet_step (fail))
    refine wpQuiet_nil ?_
    rintro w7 ⟨x1, rfl⟩
    have hL1 := x1.h
    clear q0 p0 p1 p2 p3
    generalize x1.w = X1 at *
    have S1 := hid (St.out.1.below hL1)
    have F1 := hid (St.out.2.trans (hL1.mono St.out.2.size))
    refine till_cut (v := .pointer (some ⟨g, fr * 4, none⟩)) (w1 := X1) rfl (by kernel_rfl) rfl (by simp [go_sem, hf0, hf1]) (by simp [go_sem]; exact rfl) ?_
    refine any_stage (fun _ => True) ?_
    have hg1 := own_type S1.out.orow (g := g) rfl
    have hd : ∀ j, j < 4 → X1.cell? ⟨g, fr * 4 + j, none⟩ = some ((s.out.getD fr default).cell j) := fun j hj => by
      rw [S1.out.orow.cellAt (fr * 4 + j) (by omega), rowZ_get In.cell 4 (by decide) s.out _ (by omega)]
      rw [show (fr * 4 + j) / 4 = fr by omega, show (fr * 4 + j) % 4 = j by omega]
    obtain ⟨-, cur, hcur⟩ := hg1
    have f0 := frozen_of_heap hcur (fr * 4)
    have f1 := frozen_of_heap hcur (fr * 4 + 1)
    have f2 := frozen_of_heap hcur (fr * 4 + 2)
    have f3 := frozen_of_heap hcur (fr * 4 + 3)
    have k0 := hd 0 (by omega)
    have k1 := hd 1 (by omega)
    have k2 := hd 2 (by omega)
    have k3 := hd 3 (by omega)
    rw [Nat.add_zero] at k0
    refine stage_skip (k := 7) rfl (w1 := quad X1 g fr ⟨op, a, b, s.out.length⟩) rfl (by kernel_rfl) rfl (by unfold quad; simp [go_sem, f0, f1, f2, f3, k0, k1, k2, k3]) trivial ?_
    refine stage_end (by kernel_rfl) ?_
    have HR := hid (HFin.out X1 2 S1.out F1.out)
    rw [lead_c] at HR
    clear f0 f1 f2 f3 k0 k1 k2 k3 hcur hd hL1 S1 F1 St HBx hPl hxl
    generalize quad X1 g fr ⟨op, a, b, s.out.length⟩ = Z2 at *
    go_wp2_with fail
    go_end0
    exact HR.out

theorem lead_calls {W0 : World} {Mb : Nat} {ve vt : Value} {s : Cs} (fr wh : Nat) {W : World} (h : CmE W0 Mb ve vt s W) (hl : s.out.length ≤ 960000) (hfr : fr < s.out.length) (hwh : wh = 0 ∨ wh = 1 ∨ wh = 2) :
    Calls Try.prog 36 #[.pointer (some ⟨Mb, 0, none⟩), .int .i64 (fr : Int), .int .i64 (wh : Int)] W (LeadPost W0 Mb ve vt (s.lead fr wh) W) := (lead2_calls fr wh h hl hfr hwh).mono fun _ _ x => x.1

theorem later_cells (x0 x1 x2 x3 : Value) (h0 : x0.oneCell' = true) (h1 : x1.oneCell' = true) (h2 : x2.oneCell' = true) (h3 : x3.oneCell' = true) : ∀ u ∈ [x0, x1, x2, x3], u.oneCell' = true := fun u hu => by
  simp at hu
  rcases hu with rfl | rfl | rfl | rfl
  · exact h0
  · exact h1
  · exact h2
  · exact h3

set_option maxHeartbeats 2000000 in
set_option maxRecDepth 100000 in
theorem wait_calls {W0 : World} {Mb : Nat} {ve vt : Value} {s : Cs} (l : Lt) {v : Value} {W : World} (h : CmE W0 Mb ve vt s W) (hl : s.later.length ≤ 960000) (hn : NmT W v l.names) :
    Calls Try.prog 48 #[.pointer (some ⟨Mb, 0, none⟩), .int .i64 (l.t.at_ : Int), v, .int .i64 (l.fr : Int), .int .i64 (l.wh : Int)] W (LeadPost W0 Mb ve vt (s.wait l) W) := by
  obtain ⟨ls, vo, vl, h⟩ := h
  obtain ⟨adp, cpp, hvp⟩ := own_slice h.lrow
  subst hvp
  obtain ⟨adn, cpn, hvn⟩ := hn.is
  have hll : ls.length = s.later.length := by rw [← h.lfst, List.length_map]
  have hE := (MapKept.heap_alloc W (.cells #[.int .i64 (l.t.at_ : Int), v, .int .i64 (l.fr : Int), .int .i64 (l.wh : Int)] 73)).1
  have hB := (Below.refl W.heap.size W).alloc (Nat.le_refl _) (.cells #[.int .i64 (l.t.at_ : Int), v, .int .i64 (l.fr : Int), .int .i64 (l.wh : Int)] 73)
  have hone : v.oneCell' = true := by rw [hvn]; rfl
  have St2 := hid (h.below hB)
  have HN2 := hid (hn.frame (Cf.of_below hB))
  have HCf := hid (Cf.of_below hB)
  have HE := hid hE
  have HL := hid (And.intro hl hll)
  have HO := hid hone
  obtain ⟨i0, hi, hz0, hz1, hz2⟩ := info_parts info_later
  have d3 := cell_of_heap h.blk 3
  simp at d3
  have hcs : ∀ (j : Nat) (u : Value), [Value.int .i64 (l.t.at_ : Int), v, .int .i64 (l.fr : Int), .int .i64 (l.wh : Int)][j]? = some u → (W.alloc (.cells #[.int .i64 (l.t.at_ : Int), v, .int .i64 (l.fr : Int), .int .i64 (l.wh : Int)] 73)).cell? (Addr.add ⟨W.heap.size, 0, none⟩ j) = some u := fun j u hu => by
    rw [Addr.add_lit]
    match j, hu with
    | 0, hu => simp at hu; subst hu; exact cell_of_heap hE 0
    | 1, hu => simp at hu; subst hu; exact cell_of_heap hE 1
    | 2, hu => simp at hu; subst hu; exact cell_of_heap hE 2
    | 3, hu => simp at hu; subst hu; exact cell_of_heap hE 3
  have HCs := hid hcs
  have HOc := hid (later_cells (.int .i64 (l.t.at_ : Int)) v (.int .i64 (l.fr : Int)) (.int .i64 (l.wh : Int)) rfl hone rfl rfl)
  clear h hB hE hn hll hl hone hcs HO
  subst hvn
  go_enter Try.func48, Try.ntmps48
  go_wp2_with (at_builtin; refine wpList_append_own_at _ rfl _ _ 67 rfl W0.heap.size 73 i0 (.agg #[.int .i64 0, .slice none 0 0, .int .i64 0, .int .i64 0]) 4 48 Try.underlying67 hi hz0 hz1 hz2 rfl (by decide) _ _ _ rfl St2.out.lrow ⟨W.heap.size, 0, none⟩ 1 1 [.int .i64 (l.t.at_ : Int), .slice adn l.names.length cpn, .int .i64 (l.fr : Int), .int .i64 (l.wh : Int)] rfl rfl HCs.out HOc.out (by have := HL.out; unfold maxLen; omega) (by have := HL.out; omega) St2.out.size ?_; intro vp2 X3 hown hgrow hnil hat; obtain ⟨ad2, cp2, hv2⟩ := own_slice hown; subst hv2; have hnx := cm_wait St2.out l HN2.out hown hgrow; have hb3 := (hgrow.block Mb (heap_lt St2.out.blk) (row_ne St2.out.lrow St2.out.blk (by decide))).trans St2.out.blk; have w3 := frozen_of_heap hb3 3; have x3 := cell_of_heap hb3 3; simp at x3; have HNx := hid hnx.1; have HFr := hid (HCf.out.trans hnx.2); clear hown hgrow hnil hat hnx hb3)
  go_end0
  exact ⟨⟨_, rfl⟩, HNx.out, HFr.out⟩
end Go.Proofs.Ytnbmhopoiijhoaa

/- Where a kid stands, and the specification's way to it. -/
namespace Go.Proofs.Ytnbmhopoiijhoaa
open Go.RowKit Go.Deep

theorem kidsAt_first (f : Fo) (p : Nat) (h : 0 < f.count) : ((kidsAt f p).getD 0 default).at_ = p := by
  cases f with
  | none => simp [Fo.count] at h
  | tree n k r => rfl

theorem kidsAt_next : ∀ (f : Fo) (p i : Nat), i + 1 < f.count → ((kidsAt f p).getD (i + 1) default).at_ = ((kidsAt f p).getD i default).at_ + 1 + ((kidsAt f p).getD i default).k.flat.length
  | .none, p, i, h => by simp [Fo.count] at h
  | .tree n k r, p, 0, h => by
    have h1 := kidsAt_first r (p + 1 + k.flat.length) (by simp only [Fo.count] at h; omega)
    simp only [kidsAt, List.getD_cons_succ, List.getD_cons_zero]
    exact h1
  | .tree n k r, p, i + 1, h => by
    have h1 := kidsAt_next r (p + 1 + k.flat.length) i (by simp only [Fo.count] at h; omega)
    simp only [kidsAt, List.getD_cons_succ]
    exact h1

theorem Stands.end {ns : List Nd} {t : Tp} (h : Stands ns t) : treeEnd ns (t.at_ : Int) = ((t.at_ + 1 + t.k.flat.length : Nat) : Int) := by
  obtain ⟨suf, hd⟩ := h.drop
  exact treeEnd_at hd h.kids h.good.wf

theorem Stands.first {ns : List Nd} {t : Tp} (_h : Stands ns t) (h0 : 0 < t.k.count) : (t.kid 0).at_ = t.at_ + 1 := kidsAt_first t.k _ h0
theorem Stands.next {ns : List Nd} {t : Tp} (h : Stands ns t) {i : Nat} (hi : i + 1 < t.k.count) : treeEnd ns ((t.kid i).at_ : Int) = ((t.kid (i + 1)).at_ : Int) := by
  rw [(h.kid (by omega)).end]
  exact congrArg _ (kidsAt_next t.k _ i hi).symm

theorem Stands.lt {ns : List Nd} {t : Tp} (h : Stands ns t) : t.at_ < ns.length ∧ ns.getD t.at_ default = t.n ∧ t.at_ + t.size ≤ ns.length := by
  obtain ⟨suf, hd⟩ := h.drop
  have hl := congrArg List.length hd
  simp only [List.length_drop, List.length_cons, List.length_append] at hl
  refine ⟨by omega, ?_, by unfold Tp.size; omega⟩
  have : ns.getD t.at_ default = (ns.drop t.at_).getD 0 default := by simp [List.getD, List.getElem?_drop]
  rw [this, hd]
  rfl

set_option maxHeartbeats 2000000 in
set_option maxRecDepth 100000 in
theorem kid_calls {b off cap : Nat} {ns : List Nd} {t : Tp} (i : Nat) (W : World) (hn : NodesAt W b off ns) (hm : ns.length ≤ 300) (h : Stands ns t) (hi : i < t.k.count) :
    Calls Try.prog 51 #[.slice (some ⟨b, off, none⟩) ns.length cap, .int .i64 (t.at_ : Int), .int .i64 (i : Int)] W fun e W' => e = .returned (.int .i64 ((t.kid i).at_ : Int)) ∧ W = W' := by
  have HE := hid (fun (at_ : Int) => specEnd_calls b off cap ns at_ W hn (by omega))
  have HS := hid (And.intro h (And.intro hi hm))
  have hlt := h.lt.1
  have HW : Hid (wrap64 ((t.at_ : Int) + 1) = ((t.kid 0).at_ : Int)) := by
    show _ = _
    rw [h.first (by omega)]
    unfold wrap64
    omega
  have HI : Hid (i ≤ 300) := by
    show _ ≤ _
    have h1 := t.kids_len
    have h2 := Fo.count_le t.k
    have h3 := h.lt.2.2
    unfold Tp.size at h3
    omega
  clear hn hm h hi hlt
  generalize ns.length = len at *
  generalize t.at_ = p at *
  go_enter Try.func51, Try.ntmps51
  go_wp2_with fail
  rw [HW.out]
  go_loopw [1, 7] (fun at_ j wr => ∃ (k : Nat), k ≤ i ∧ at_ = .int .i64 ((t.kid k).at_ : Int) ∧ j = .int .i64 (k : Int) ∧ wr = W) (fun _ j _ => i - (intOf j).toNat)
  case atStart => exact ⟨0, Nat.zero_le _, rfl, rfl, rfl⟩
  case round =>
    obtain ⟨k, hk, rfl, rfl, rfl⟩ := hrel
    by_cases hki : (k : Int) < (i : Int)
    · have hnx := HS.out.1.next (i := k) (by have := HS.out.2.1; omega)
      have HC := hid (HE.out ((t.kid k).at_ : Int))
      rw [hnx] at HC
      have hstep : i - (intOf (.int .i64 ((k + 1 : Nat) : Int))).toNat < i - (intOf (.int .i64 (k : Int))).toNat := by simp only [intOf, Int.toNat_natCast]; omega
      clear hnx
      go_wp2_with fail
      refine HC.out.mono ?_
      rintro e W1 ⟨rfl, rfl⟩
      go_wp2_with fail
      try rw [wrap_succ (by have := HI.out; omega)]
      exact ⟨⟨k + 1, by omega, rfl, rfl, trivial⟩, hstep⟩
    · have e : k = i := by omega
      subst e
      go_wp2_with fail
      go_ret
      exact ⟨rfl, rfl⟩
end Go.Proofs.Ytnbmhopoiijhoaa

/- A region in stages, more: what must hold of the world may grow on the way; one that makes something beside a call. -/
namespace Go.Proofs.Ytnbmhopoiijhoaa
open Go.RowKit

theorem held_more {P : Program} {md : Region.Mode} {ops : Array Oper} {Q : Exit → Act → World → Prop} {S S' : World → Prop} (h : ∀ w, S' w → S w) : ∀ (n : Nat) (ls : Array Bool) (a : Act) (w : World), wpAnyH P md ops Q S' n ls a w → wpAnyH P md ops Q S n ls a w
  | 0, _, _, _, x => x
  | n + 1, _, _, _, x => ⟨x.1, fun i hi => wpOp_mono (fun a' w' y => ⟨h w' y.1, held_more h n _ a' w' y.2⟩) (x.2 i hi)⟩

section
variable {P : Program} {l0 : List Oper} {Q : Exit → Act → World → Prop} {S : World → Prop}

/-- From here on more holds of the world. -/
theorem pick_more (S' : World → Prop) {n : Nat} {ls : Array Bool} {a : Act} {w : World} (hi : ∀ w, S' w → S w) (h : wpAnyH P .any l0.toArray (NoPanic Q) S' n ls a w) : wpAnyH P .any l0.toArray (NoPanic Q) S n ls a w := held_more hi n ls a w h

/-- A call that may come up. -/
def PickCl (P : Program) (l0 : List Oper) (Q : Exit → Act → World → Prop) (S : World → Prop) (n : Nat) (ls : Array Bool) (a : Act) (w : World) (i : Nat) : Prop :=
  ∃ o f args, l0[i]? = some o ∧ Region.wanted o (yielded l0.toArray a.tmps) = true ∧ (execOp a.eval o).run P w = .ok (.enter f args) w ∧ Calls P f args w fun e w' => ∃ v, e = .returned v ∧ S w' ∧ wpAnyH P .any l0.toArray (NoPanic Q) S n (ls.setIfInBounds i true) (a.put o.dst v) w'

theorem PickMk.op {n i : Nat} {ls : Array Bool} {a : Act} {w : World} (h : PickMk P l0 Q S n ls a w i) : wpOp P l0.toArray (NoPanic Q) i (fun a' w' => S w' ∧ wpAnyH P .any l0.toArray (NoPanic Q) S n (ls.setIfInBounds i true) a' w') a w := by
  obtain ⟨o, v, w1, ho, hw, hrun, hS, h⟩ := h
  have ho' : l0.toArray[i]? = some o := by simpa using ho
  unfold wpOp
  rw [ho']
  dsimp only
  rw [if_pos hw]
  refine Or.inl ?_
  unfold Oper.wp
  rw [hrun]
  exact ⟨hS, h⟩

theorem PickCl.op {n i : Nat} {ls : Array Bool} {a : Act} {w : World} (h : PickCl P l0 Q S n ls a w i) : wpOp P l0.toArray (NoPanic Q) i (fun a' w' => S w' ∧ wpAnyH P .any l0.toArray (NoPanic Q) S n (ls.setIfInBounds i true) a' w') a w := by
  obtain ⟨o, f, args, ho, hw, hrun, h⟩ := h
  have ho' : l0.toArray[i]? = some o := by simpa using ho
  unfold wpOp
  rw [ho']
  dsimp only
  rw [if_pos hw]
  refine Or.inl ?_
  unfold Oper.wp
  rw [hrun]
  refine Calls.mono h ?_
  rintro e w3 ⟨v, rfl, hS, hn⟩
  exact ⟨hS, hn⟩

/-- A store that is alone ready. -/
theorem pick_skip {i n : Nat} {o : Oper} {ls ls' : Array Bool} {a : Act} {w w1 : World} (hd : o.dst = none) (ho : l0[i]? = some o) (hr : (Region.ready .any l0.toArray ls == [i]) = true) (hl : ls.setIfInBounds i true = ls') (hw : Region.wanted o (yielded l0.toArray a.tmps) = true)
    (hrun : (execOp a.eval o).run P w = .ok .skip w1) (hS : S w1) (h : wpAnyH P .any l0.toArray (NoPanic Q) S n ls' a w1) : wpAnyH P .any l0.toArray (NoPanic Q) S (n + 1) ls a w := by
  subst hl
  have ho' : l0.toArray[i]? = some o := by simpa using ho
  refine wpAnyH_all (rs := [i]) (by simpa using hr) (by simp) (fun j hj => ?_)
  rw [List.mem_singleton] at hj
  subst hj
  unfold wpOp
  rw [ho']
  dsimp only
  rw [if_pos hw]
  refine Or.inl ?_
  have hp : a.put o.dst undef = a := by rw [hd]; rfl
  unfold Oper.wp
  rw [hrun]
  refine ⟨hS, ?_⟩
  rw [hp]
  exact h

/-- One that makes something, or a call: whichever comes up. -/
theorem pick_either {i j n : Nat} {ls : Array Bool} {a : Act} {w : World} (hr : (Region.ready .any l0.toArray ls == [i, j]) = true) (h1 : PickMk P l0 Q S n ls a w i) (h2 : PickCl P l0 Q S n ls a w j) : wpAnyH P .any l0.toArray (NoPanic Q) S (n + 1) ls a w := by
  refine wpAnyH_all (rs := [i, j]) (by simpa using hr) (by simp) (fun k hk => ?_)
  simp only [List.mem_cons, List.not_mem_nil, or_false] at hk
  rcases hk with rfl | rfl
  · exact h1.op
  · exact h2.op
end
end Go.Proofs.Ytnbmhopoiijhoaa

/- Names put together, looked for; the place of a kid. -/
namespace Go.Proofs.Ytnbmhopoiijhoaa
open Go.RowKit Go.Deep

theorem row_made (X : World) : (X.alloc (.cells #[] 9)).ownsRow X.heap.size 9 1 (.slice (some ⟨X.heap.size, 0, none⟩) 0 0) 0 (strRow []) := World.ownsRow_made X #[] 0 (Nat.le_refl _) (Nat.zero_le _) rfl

set_option maxHeartbeats 2000000 in
set_option maxRecDepth 100000 in
theorem withN_calls {v mv : Value} {ss ms : List ByteArray} (W : World) (h : NamesV W v ss) (hm : NamesV W mv ms) (hl : ss.length + ms.length ≤ 100000) :
    Calls Try.prog 49 #[v, mv] W fun e W' => ∃ u, e = .returned u ∧ NmT W' u (ss ++ ms) ∧ Below W.heap.size W W' := by
  have hb0 : Below W.heap.size W (W.alloc (.cells #[] 9)) := (Below.refl _ _).alloc (Nat.le_refl _) _
  obtain ⟨ad, cp, rfl⟩ := h.slice
  obtain ⟨adm, cpm, rfl⟩ := hm.slice
  have HV := hid (And.intro (h.below hb0) (And.intro hm (And.intro hl hb0)))
  clear h hm hl hb0
  go_enter Try.func49, Try.ntmps49
  go_wp2_with (first
    | (at_builtin; refine wpList_append_by rfl _ _ 64 rfl _ _ rfl rfl (fun ty => app_names ty (row_made W) HV.out.1 (by have := HV.out.2.2.1; simp; omega) (by simp)) ?_; rintro v5 w5 ⟨ho5, hg5, -⟩; have B5 : Hid (Below W.heap.size W w5) := HV.out.2.2.2.grown hg5 (by simp) (fun k hk => ((row_made W).lt k hk).1); have O5 := hid ho5; have M5 := hid (HV.out.2.1.below B5.out); clear ho5 hg5)
    | (at_builtin; refine wpList_append_by rfl _ _ 64 rfl _ _ rfl rfl (fun ty => app_names ty O5.out M5.out (by have := HV.out.2.2.1; simp; omega) B5.out.size) ?_; rintro v6 w6 ⟨ho6, hg6, -⟩; have B6 : Hid (Below W.heap.size W w6) := B5.out.grown hg6 B5.out.size (fun k hk => (O5.out.lt k hk).1); have O6 := hid ho6; clear ho6 hg6))
  go_ret
  exact ⟨_, rfl, nmT_owns O6.out, B6.out⟩

set_option maxHeartbeats 2000000 in
set_option maxRecDepth 100000 in
theorem index_calls {v : Value} {ss : List ByteArray} (x : ByteArray) (W : World) (h : NamesV W v ss) (hl : ss.length ≤ 100000) :
    Calls Try.prog 47 #[v, .string x] W fun e W' => e = .returned (.int .i64 (idxZ ss x)) ∧ W = W' := by
  obtain ⟨ad, cp, rfl⟩ := h.slice
  obtain ⟨L, hL⟩ : ∃ L, ss.length = L := ⟨_, rfl⟩
  have HV := hid h
  have HL := hid (And.intro hL hl)
  rw [hL] at HV ⊢
  obtain ⟨TG, hTG⟩ : ∃ TG, idxZ ss x = TG := ⟨_, rfl⟩
  have HTG : Hid (idxGo ss x L = TG) := by show _ = _; rw [← hL]; exact hTG
  rw [hTG]
  clear h hl hL hTG
  go_enter Try.func47, Try.ntmps47
  have HW1 : Hid (wrap64 ((L : Int) - 1) = (L : Int) - 1) := by show _ = _; have := HL.out; unfold wrap64; omega
  go_wp2_with fail
  rw [HW1.out]
  go_loopw [5] (fun i wr => ∃ (k : Nat) (z : Int), i = .int .i64 z ∧ z = (k : Int) - 1 ∧ k ≤ L ∧ Hid (idxGo ss x k = TG) ∧ wr = W) (fun i _ => (intOf i + 1).toNat)
  case atStart => exact ⟨L, _, rfl, rfl, Nat.le_refl _, HTG, rfl⟩
  case round =>
    obtain ⟨k, z, rfl, hz, hk, HI, rfl⟩ := hrel
    cases k with
    | zero =>
      have hzn : ¬ ((0 : Int) ≤ z) := by omega
      have HE : Hid (TG = -1) := by show _ = _; rw [← HI.out]; rfl
      clear hz
      go_wp2_with fail
      go_ret
      rw [HE.out]
      exact ⟨rfl, rfl⟩
    | succ k =>
      have hzk : z = (k : Int) := by omega
      subst hzk
      clear hz
      obtain ⟨-, g, o, rfl, hg, hc⟩ := HV.out.cell (by omega : 0 < L)
      have hcell := hc k (by omega)
      have HI2 : Hid ((if ((ss.getD k ⟨#[]⟩).toList == x.toList) = true then ((ss.length - 1 - k : Nat) : Int) else idxGo ss x k) = TG) := HI
      obtain ⟨y, hy⟩ : ∃ y, ss.getD k ⟨#[]⟩ = y := ⟨_, rfl⟩
      rw [hy] at hcell HI2
      have hk0 : (0 : Int) ≤ (k : Int) := by omega
      have hkL : (k : Int) < (L : Int) := by omega
      clear hc hy HI
      cases heq : (y.toList == x.toList) with
      | true =>
        rw [heq, if_pos rfl] at HI2
        have HW2 : Hid (wrap64 (wrap64 ((L : Int) - 1) - (k : Int)) = TG) := by show _ = _; rw [HW1.out, ← HI2.out]; have := HL.out; unfold wrap64; omega
        go_wp2_with fail
        go_ret
        rw [HW2.out]
        exact ⟨rfl, rfl⟩
      | false =>
        rw [heq, if_neg (by decide)] at HI2
        have HW2 : Hid (wrap64 ((k : Int) - 1) = (k : Int) - 1) := by show _ = _; have := HL.out; unfold wrap64; omega
        go_wp2_with fail
        rw [HW2.out]
        exact ⟨⟨k, _, rfl, rfl, by omega, HI2, trivial⟩, by simp only [intOf]; omega⟩
end Go.Proofs.Ytnbmhopoiijhoaa
