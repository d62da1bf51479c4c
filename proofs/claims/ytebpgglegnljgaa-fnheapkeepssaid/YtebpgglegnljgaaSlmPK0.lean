import Derived.Test.YtebpgglegnljgaaRows
import Derived.WalkKit
import Derived.ProofKit
import Derived.Laws.AppendOwn
import Derived.Deep.QuietTactic
import Derived.Deep.OwnRows
import Derived.Deep.Slices
import Derived.Deep.RegionWith
import Derived.BigQuiet
namespace Go.Proofs.Ytebpgglegnljgaa
open Go.RowKit

theorem below_drewN {B : Nat} {a w : World} (h : Below B a w) (n : Nat) : Below B a (w.drewN n) := h.trans ⟨rfl, rfl, rfl, Nat.le_refl _, fun _ _ => rfl⟩

theorem cell_of_heap {w : World} {b : Nat} {a : Array Value} {t : TypeId} (h : w.heap[b]? = some (.cells a t)) (i : Nat) : w.cell? ⟨b, i, none⟩ = a[i]? := by
  simp [World.cell?, h]

theorem frozen_of_heap {w : World} {b : Nat} {a : Array Value} {t : TypeId} (h : w.heap[b]? = some (.cells a t)) (i : Nat) : w.frozen? ⟨b, i, none⟩ = false := by
  simp [World.frozen?, h]

theorem heap_lt {w : World} {b : Nat} {o : Obj} (h : w.heap[b]? = some o) : b < w.heap.size := (Array.getElem?_eq_some_iff.1 h).1

theorem one_kept {w w2 : World} {o : Obj} (h : Below (w.alloc o).heap.size (w.alloc o) w2) : w2.heap[w.heap.size]? = some o ∧ Below w.heap.size w w2 := by
  have s1 : (w.alloc o).heap.size = w.heap.size + 1 := by simp
  exact ⟨(h.block _ (by rw [s1]; omega)).trans (MapKept.heap_alloc w _).1, ((Below.refl _ _).alloc (Nat.le_refl _) _).trans (h.mono (by rw [s1]; omega))⟩

end Go.Proofs.Ytebpgglegnljgaa

namespace Go.Proofs.Ytebpgglegnljgaa
open Go.RowKit

theorem hid {p : Prop} (h : p) : Hid p := h

theorem kept_refl (w : World) (row : Option Nat) : w.grownBy w row := ⟨rfl, rfl, rfl, Nat.le_refl _, fun _ _ _ => rfl⟩

theorem kept_of_below {w w' : World} (h : Below w.heap.size w w') (row : Option Nat) : w.grownBy w' row := ⟨h.os, h.tape, h.output, h.size, fun k hk _ => h.block k hk⟩

theorem kept_set {w w' : World} {g : Nat} (h : w.grownBy w' (some g)) (i : Nat) (v : Value) : w.grownBy (w'.setCell ⟨g, i, none⟩ v) (some g) :=
  ⟨h.os, h.tape, h.output, by simpa [World.setCell] using h.size, fun k hk hne => (Below.heap_setCell _ _ _ _ (fun e => hne (by rw [e]))).trans (h.block k hk hne)⟩

theorem kept_below {w w' w'' : World} {g : Nat} (h : w.grownBy w' (some g)) (hb : Below w'.heap.size w' w'') : w.grownBy w'' (some g) :=
  ⟨hb.os.trans h.os, hb.tape.trans h.tape, hb.output.trans h.output, Nat.le_trans h.size hb.size, fun k hk hne => (hb.block k (Nat.lt_of_lt_of_le hk h.size)).trans (h.block k hk hne)⟩

theorem kept_owns {w w' : World} {base : Nat} {e : TypeId} {size : Nat} {v : Value} {n : Nat} {xs : List Value} (h : w.ownsRow base e size v n xs) (hb : Below w.heap.size w w') : w'.ownsRow base e size v n xs :=
  h.kept (kept_of_below hb none) (by cases hv : v.ownBlock <;> simp)

theorem one_below {w w2 : World} {o : Obj} (h : Below (w.alloc o).heap.size (w.alloc o) w2) : Below w.heap.size w w2 := (one_kept h).2

def Rw (w : World) (g : Nat) (t : TypeId) (N : Nat) (f : Nat → Value) (n : Nat) : Prop :=
  ∃ (c : Array Value) (fz : Nat × Nat), w.heap[g]? = some (.cells c t fz) ∧ c.size = N ∧ (∀ i, i < N → c[i]? = some (f i)) ∧ (fz = (0, 0) ∨ n ≤ fz.1)

theorem rw_of_row {w : World} {g : Nat} {t : TypeId} {N : Nat} {f : Nat → Value} (h : w.rowIs g t N f) (n : Nat) : Rw w g t N f n := by
  obtain ⟨c, hg, hs, hc⟩ := h
  exact ⟨c, (0, 0), hg, hs, hc, Or.inl rfl⟩

namespace Rw
variable {w : World} {g : Nat} {t : TypeId} {N n : Nat} {f : Nat → Value}

theorem cell (h : Rw w g t N f n) {i : Nat} (hi : i < N) : w.cell? ⟨g, i, none⟩ = some (f i) := by
  obtain ⟨c, fz, hg, hs, hc, _⟩ := h
  simp [World.cell?, hg, hc i hi]

theorem frozen (h : Rw w g t N f n) (i : Nat) (hi : i < n) : w.frozen? ⟨g, i, none⟩ = false := by
  obtain ⟨c, fz, hg, hs, hc, hz⟩ := h
  obtain ⟨lo, hi'⟩ := fz
  simp only [World.frozen?, hg]
  rcases hz with hz | hz
  · simp at hz
    simp [hz.2]
  · simp at hz
    simp
    omega

theorem lt (h : Rw w g t N f n) : g < w.heap.size := by
  obtain ⟨c, fz, hg, _⟩ := h
  exact heap_lt hg

theorem of_block {w' : World} (h : Rw w g t N f n) (e : w'.heap[g]? = w.heap[g]?) : Rw w' g t N f n := by
  obtain ⟨c, fz, hg, r⟩ := h
  exact ⟨c, fz, e.trans hg, r⟩

theorem set (h : Rw w g t N f n) (i : Nat) (v : Value) : Rw (w.setCell ⟨g, i, none⟩ v) g t N (fun j => if j = i then v else f j) n := by
  obtain ⟨c, fz, hg, hs, hc, hz⟩ := h
  refine ⟨c.setIfInBounds i v, fz, ?_, by simp [hs], fun j hj => ?_, hz⟩
  · rw [setCell_eq_setRow w g i c t fz v hg]
    exact setRow_heap w g _ _ t _ hg
  · by_cases hji : j = i
    · subst hji
      simp [hs, hj]
    · have hij : ¬ i = j := fun e => hji e.symm
      simp [hji, hij, hc j hj]
end Rw

def CellRow (t : TypeId) (w : World) (g n : Nat) (F : Nat → Value) : Prop :=
  ∃ N f, Rw w g t N f n ∧ n ≤ N ∧ ∀ i, i < n → f i = F i

theorem CellRow.of_block {t : TypeId} {w w' : World} {g n : Nat} {F : Nat → Value} (h : CellRow t w g n F) (e : w'.heap[g]? = w.heap[g]?) : CellRow t w' g n F := by
  obtain ⟨N, f, hr, h1, h2⟩ := h
  exact ⟨N, f, hr.of_block e, h1, h2⟩

theorem CellRow.lt {t : TypeId} {w : World} {g n : Nat} {F : Nat → Value} (h : CellRow t w g n F) : g < w.heap.size := by
  obtain ⟨N, f, hr, _⟩ := h
  exact hr.lt

theorem CellRow.cell {t : TypeId} {w : World} {g n : Nat} {F : Nat → Value} (h : CellRow t w g n F) {i : Nat} (hi : i < n) : w.cell? ⟨g, i, none⟩ = some (F i) := by
  obtain ⟨N, f, hr, h1, h2⟩ := h
  rw [hr.cell (by omega), h2 i hi]

theorem CellRow.congr {t : TypeId} {w : World} {g n : Nat} {F G : Nat → Value} (h : CellRow t w g n F) (e : ∀ i, i < n → F i = G i) : CellRow t w g n G := by
  obtain ⟨N, f, hr, h1, h2⟩ := h
  exact ⟨N, f, hr, h1, fun i hi => (h2 i hi).trans (e i hi)⟩

def SliceR (t : TypeId) (sz B : Nat) (w : World) (v : Value) (n : Nat) (F : Nat → Value) : Prop :=
  ∃ ad cap, v = .slice ad n cap ∧ (n = 0 ∨ ∃ g, ad = some ⟨g, 0, none⟩ ∧ B ≤ g ∧ CellRow t w g (n * sz) F)

theorem SliceR.below {t : TypeId} {sz B : Nat} {w w' : World} {v : Value} {n : Nat} {F : Nat → Value} (h : SliceR t sz B w v n F) (hb : Below w.heap.size w w') : SliceR t sz B w' v n F := by
  obtain ⟨ad, cap, rfl, h⟩ := h
  refine ⟨ad, cap, rfl, h.imp id ?_⟩
  rintro ⟨g, rfl, hB, hr⟩
  exact ⟨g, rfl, hB, hr.of_block (hb.block g hr.lt)⟩

theorem SliceR.mono {t : TypeId} {sz B B' : Nat} {w : World} {v : Value} {n : Nat} {F : Nat → Value} (h : SliceR t sz B w v n F) (hb : B' ≤ B) : SliceR t sz B' w v n F := by
  obtain ⟨ad, cap, rfl, h⟩ := h
  refine ⟨ad, cap, rfl, h.imp id ?_⟩
  rintro ⟨g, rfl, hB, hr⟩
  exact ⟨g, rfl, by omega, hr⟩

theorem SliceR.block {t : TypeId} {sz B : Nat} {w : World} {v : Value} {n : Nat} {F : Nat → Value} (h : SliceR t sz B w v n F) (h0 : n ≠ 0) : ∃ g, v.ownBlock = some g ∧ B ≤ g ∧ g < w.heap.size := by
  obtain ⟨ad, cap, rfl, h⟩ := h
  obtain ⟨g, rfl, hB, hr⟩ := h.resolve_left h0
  exact ⟨g, rfl, hB, hr.lt⟩

theorem sliceR_of_owns {t : TypeId} {sz B : Nat} {w : World} {v : Value} {n : Nat} {xs : List Value} (h : w.ownsRow B t sz v n xs) : SliceR t sz B w v n (fun i => xs.getD i undef) := by
  rcases h.2 with ⟨rfl, hn⟩ | ⟨g, cap, cur, rfl, hB, hg, hnc, hcm, hsz, htake⟩
  · exact ⟨none, 0, by rw [hn], Or.inl hn⟩
  · refine ⟨_, cap, rfl, Or.inr ⟨g, rfl, hB, cur.size, fun i => cur.getD i undef, ⟨cur, (0, 0), hg, rfl, fun i hi => by simp [hi], Or.inl rfl⟩, by rw [hsz]; exact Nat.mul_le_mul_right _ hnc, fun i hi => ?_⟩⟩
    rw [← htake]
    simp only [List.getD, Array.getD_eq_getD_getElem?]
    rw [List.getElem?_take_of_lt hi, Array.getElem?_toList]
end Go.Proofs.Ytebpgglegnljgaa

namespace Go.Proofs.Ytebpgglegnljgaa
open Go.RowKit

def intCells (bs : List Int) (i : Nat) : Value := .int .i64 (bs.getD i 0)

theorem wrap_inc {k n : Nat} (hk : k < n) (hm : n ≤ 1048576) : wrap64 ((k : Int) + 1) = ((k + 1 : Nat) : Int) := by
  unfold wrap64
  omega

def IntSlice (w : World) (v : Value) (bs : List Int) : Prop :=
  ∃ a cap, v = .slice a bs.length cap ∧ (bs = [] ∨ ∃ b off, a = some ⟨b, off, none⟩ ∧ b < w.heap.size ∧ ∀ k, k < bs.length → w.cell? ⟨b, off + k, none⟩ = some (.int .i64 (bs.getD k 0)))

theorem IntSlice.below {w w' : World} {v : Value} {bs : List Int} (h : IntSlice w v bs) (hb : Below w.heap.size w w') : IntSlice w' v bs := by
  obtain ⟨a, cap, rfl, h⟩ := h
  refine ⟨a, cap, rfl, h.imp id ?_⟩
  rintro ⟨b, off, rfl, hlt, hn⟩
  exact ⟨b, off, rfl, Nat.lt_of_lt_of_le hlt hb.size, fun k hk => (hb.cell hlt).trans (hn k hk)⟩

theorem SliceR.intSlice {B : Nat} {w : World} {v : Value} {bs : List Int} (h : SliceR 3 1 B w v bs.length (intCells bs)) : IntSlice w v bs := by
  obtain ⟨ad, cap, rfl, h⟩ := h
  refine ⟨ad, cap, rfl, ?_⟩
  by_cases h0 : bs = []
  · exact Or.inl h0
  · obtain ⟨g, rfl, _, hr⟩ := h.resolve_left (fun e => h0 (List.length_eq_zero_iff.1 e))
    refine Or.inr ⟨g, 0, rfl, hr.lt, fun k hk => ?_⟩
    rw [Nat.zero_add]
    exact hr.cell (by omega)

end Go.Proofs.Ytebpgglegnljgaa

namespace Go.Proofs.Ytebpgglegnljgaa
open Go.RowKit

theorem info_int : (Try.prog.info? 3).map (fun i => (i.zero, i.size, i.bytes)) = some (some (.int .i64 0), 1, 8) := by kernel_rfl

structure HpN where
  size : Int
  to : Int
  bottom : Int
  top : Int
  scan : Int
  fb : Int
  ft : Int
  flips : Int
  touched : Int

def heapV (v : Value) (h : HpN) : Value := .agg #[v, .int .i64 h.size, .int .i64 h.to, .int .i64 h.bottom, .int .i64 h.top, .int .i64 h.scan, .int .i64 h.fb, .int .i64 h.ft, .int .i64 h.flips, .int .i64 h.touched]

def noHeap : Value := heapV (.slice none 0 0) ⟨0, 0, 0, 0, 0, 0, 0, 0, 0⟩

def HeapBlk (w : World) (b : Nat) (v : Value) (h : HpN) : Prop := w.heap[b]? = some (.cells #[v, .int .i64 h.size, .int .i64 h.to, .int .i64 h.bottom, .int .i64 h.top, .int .i64 h.scan, .int .i64 h.fb, .int .i64 h.ft, .int .i64 h.flips, .int .i64 h.touched] 25)

theorem HeapBlk.cells {w : World} {b : Nat} {v : Value} {h : HpN} (e : HeapBlk w b v h) :
    w.cell? ⟨b, 0, none⟩ = some v ∧ w.cell? ⟨b, 1, none⟩ = some (.int .i64 h.size) ∧ w.cell? ⟨b, 2, none⟩ = some (.int .i64 h.to) ∧ w.cell? ⟨b, 3, none⟩ = some (.int .i64 h.bottom) ∧ w.cell? ⟨b, 4, none⟩ = some (.int .i64 h.top) ∧ w.cell? ⟨b, 5, none⟩ = some (.int .i64 h.scan) ∧ w.cell? ⟨b, 6, none⟩ = some (.int .i64 h.fb) ∧ w.cell? ⟨b, 7, none⟩ = some (.int .i64 h.ft) ∧ w.cell? ⟨b, 8, none⟩ = some (.int .i64 h.flips) ∧ w.cell? ⟨b, 9, none⟩ = some (.int .i64 h.touched) := by
  refine ⟨?_, ?_, ?_, ?_, ?_, ?_, ?_, ?_, ?_, ?_⟩ <;> · rw [cell_of_heap e]; rfl

theorem HeapBlk.below {w w' : World} {b : Nat} {v : Value} {h : HpN} (e : HeapBlk w b v h) (hb : Below w.heap.size w w') : HeapBlk w' b v h := (hb.block b (heap_lt e)).trans e

theorem HeapBlk.new (w : World) (v : Value) (h : HpN) : HeapBlk (w.alloc (.cells #[v, .int .i64 h.size, .int .i64 h.to, .int .i64 h.bottom, .int .i64 h.top, .int .i64 h.scan, .int .i64 h.fb, .int .i64 h.ft, .int .i64 h.flips, .int .i64 h.touched] 25)) w.heap.size v h := (MapKept.heap_alloc w _).1

theorem two_kept {w w2 : World} {o o' : Obj} (h : Below ((w.alloc o).alloc o').heap.size ((w.alloc o).alloc o') w2) : w2.heap[w.heap.size]? = some o ∧ w2.heap[w.heap.size + 1]? = some o' ∧ Below w.heap.size w w2 := by
  have s1 : (w.alloc o).heap.size = w.heap.size + 1 := by simp
  obtain ⟨h1, h2⟩ := one_kept h
  obtain ⟨h3, h4⟩ := one_kept h2
  exact ⟨h3, by rw [← s1]; exact h1, h4⟩

end Go.Proofs.Ytebpgglegnljgaa

namespace Go.Proofs.Ytebpgglegnljgaa
open Go.RowKit

def fieldsZ (k : Int) : Int :=
  if k = 1 ∨ k = 2 ∨ k = 3 ∨ k = 4 ∨ k = 5 ∨ k = 8 then 2 else if k = 6 ∨ k = 7 then 5 else 0

set_option maxRecDepth 100000 in
theorem implFields_calls (k : Int) (w : World) :
    Calls Try.prog 40 #[.int .i64 k] w fun e w' => e = .returned (.int .i64 (fieldsZ k)) ∧ w = w' := by
  go_enter Try.func40, Try.ntmps40
  go_wp2
  all_goals
    go_ret
    refine ⟨?_, rfl⟩
    simp_all [fieldsZ]

set_option maxRecDepth 100000 in
theorem specFields_calls (k : Int) (w : World) :
    Calls Try.prog 29 #[.int .i64 k] w fun e w' => e = .returned (.int .i64 (fieldsZ k)) ∧ w = w' := by
  go_enter Try.func29, Try.ntmps29
  go_wp2
  all_goals
    go_ret
    refine ⟨?_, rfl⟩
    simp_all [fieldsZ]
end Go.Proofs.Ytebpgglegnljgaa

namespace Go.Proofs.Ytebpgglegnljgaa
open Go.RowKit

theorem ofInt_toNat (x : Int) : ((BitVec.ofInt 64 x).toNat : Int) = x % 18446744073709551616 := by
  rw [BitVec.toNat_ofInt]
  omega

theorem and_low (x : Int) (k : Nat) (hk : k ≤ 8) (m : Int) (hm : m = ((2 ^ k - 1 : Nat) : Int)) : bits .and .i64 x m = x % ((2 ^ k : Nat) : Int) := by
  subst hm
  have hp : 2 ^ k ≤ 256 := Nat.pow_le_pow_right (n := 2) (by decide) hk
  have hp0 : 0 < 2 ^ k := Nat.pow_pos (by decide)
  have h1 := ofInt_toNat x
  have h2 : (BitVec.ofInt 64 ((2 ^ k - 1 : Nat) : Int)).toNat = 2 ^ k - 1 := by
    rw [BitVec.ofInt_natCast, BitVec.toNat_ofNat]
    exact Nat.mod_eq_of_lt (by omega)
  show IntKind.i64.wrap ((BitVec.ofInt 64 x &&& BitVec.ofInt 64 ((2 ^ k - 1 : Nat) : Int)).toNat : Int) = _
  rw [BitVec.toNat_and, h2, Nat.and_two_pow_sub_one_eq_mod, IntKind.wrap_i64]
  generalize (BitVec.ofInt 64 x).toNat = y at h1 ⊢
  have h3 : ((y % 2 ^ k : Nat) : Int) = (y : Int) % ((2 ^ k : Nat) : Int) := by simp
  have h4 : y % 2 ^ k < 2 ^ k := Nat.mod_lt _ hp0
  have h5 : (18446744073709551616 : Int) = ((2 ^ k : Nat) : Int) * ((2 ^ (64 - k) : Nat) : Int) := by
    rw [← Int.natCast_mul, ← Nat.pow_add, Nat.add_sub_cancel' (by omega)]
    rfl
  have h6 : (y : Int) % ((2 ^ k : Nat) : Int) = x % ((2 ^ k : Nat) : Int) := by
    rw [h1, h5, Int.emod_emod_of_dvd]
    exact ⟨_, rfl⟩
  rw [← h6, ← h3]
  generalize y % 2 ^ k = z at h4 ⊢
  generalize 2 ^ k = u at *
  omega

theorem and7 (x : Int) : bits .and .i64 x 7 = x % 8 := and_low x 3 (by decide) 7 rfl
theorem and15 (x : Int) : bits .and .i64 x 15 = x % 16 := and_low x 4 (by decide) 15 rfl
end Go.Proofs.Ytebpgglegnljgaa

namespace Go.Proofs.Ytebpgglegnljgaa
open Go.RowKit

def tagZ (x : Int) : Int := x % 8
def numZ (x : Int) : Int := x / 8
def makeZ (t n : Int) : Int := if t < 0 ∨ 4 < t then 0 else wrap64 (8 * n + t)

set_option maxRecDepth 100000 in
theorem implTag_calls (x : Int) (w : World) :
    Calls Try.prog 23 #[.int .i64 x] w fun e w' => e = .returned (.int .i64 (tagZ x)) ∧ w = w' := by
  go_enter Try.func23, Try.ntmps23
  go_wp2
  go_ret
  refine ⟨?_, rfl⟩
  show Ending.returned (.int .i64 (bits .and .i64 x 7)) = _
  rw [and7]
  rfl

set_option maxRecDepth 100000 in
theorem specTag_calls (x : Int) (w : World) :
    Calls Try.prog 37 #[.int .i64 x] w fun e w' => e = .returned (.int .i64 (tagZ x)) ∧ w = w' := by
  go_enter Try.func37, Try.ntmps37
  go_wp2
  go_ret
  refine ⟨?_, rfl⟩
  show Ending.returned (.int .i64 (bits .and .i64 x 7)) = _
  rw [and7]
  rfl

set_option maxRecDepth 100000 in
theorem implNum_calls (x : Int) (w : World) :
    Calls Try.prog 52 #[.int .i64 x] w fun e w' => e = .returned (.int .i64 (numZ x)) ∧ w = w' := by
  go_enter Try.func52, Try.ntmps52
  go_wp2
  go_ret
  exact ⟨rfl, rfl⟩

set_option maxRecDepth 100000 in
theorem specNum_calls (x : Int) (w : World) :
    Calls Try.prog 54 #[.int .i64 x] w fun e w' => e = .returned (.int .i64 (numZ x)) ∧ w = w' := by
  go_enter Try.func54, Try.ntmps54
  go_wp2
  go_ret
  exact ⟨rfl, rfl⟩

theorem wrap_mul_add (t n : Int) : wrap64 (wrap64 (n * 8) + t) = wrap64 (8 * n + t) := by unfold wrap64; omega
theorem wrap_mul_add' (t n : Int) : wrap64 (wrap64 (8 * n) + t) = wrap64 (8 * n + t) := by unfold wrap64; omega

set_option maxRecDepth 100000 in
theorem implMake_calls (t n : Int) (w : World) :
    Calls Try.prog 74 #[.int .i64 t, .int .i64 n] w fun e w' => e = .returned (.int .i64 (makeZ t n)) ∧ w = w' := by
  go_enter Try.func74, Try.ntmps74
  go_wp2
  all_goals
    go_ret
    refine ⟨?_, rfl⟩
    simp_all [makeZ, wrap_mul_add]
    try (intro h; exact absurd h (by omega))

set_option maxRecDepth 100000 in
theorem specMake_calls (t n : Int) (w : World) :
    Calls Try.prog 39 #[.int .i64 t, .int .i64 n] w fun e w' => e = .returned (.int .i64 (makeZ t n)) ∧ w = w' := by
  go_enter Try.func39, Try.ntmps39
  go_wp2
  all_goals
    go_ret
    refine ⟨?_, rfl⟩
    simp_all [makeZ, wrap_mul_add']
    try (intro h; exact absurd h (by omega))

end Go.Proofs.Ytebpgglegnljgaa

namespace Go.Proofs.Ytebpgglegnljgaa
open Go.RowKit

def sizeZ (x : Int) : Int :=
  if x % 16 = 15 then (if x / 16 = 3 ∨ x / 16 = 6 then x / 16 else 0)
  else if fieldsZ (x % 16) = 0 ∨ x / 16 ≠ 1 + fieldsZ (x % 16) then 0 else x / 16

theorem fields_three (k : Int) : fieldsZ k = 0 ∨ fieldsZ k = 2 ∨ fieldsZ k = 5 := by
  unfold fieldsZ
  split
  · simp
  · split <;> simp

theorem size_three (x : Int) : sizeZ x = 0 ∨ sizeZ x = 3 ∨ sizeZ x = 6 := by
  unfold sizeZ
  have := fields_three (x % 16)
  split
  · split
    · omega
    · simp
  · split
    · simp
    · omega

def sizeN (x : Int) : Nat := (sizeZ x).toNat

theorem sizeN_cast (x : Int) : (sizeN x : Int) = sizeZ x := by
  have := size_three x
  unfold sizeN
  omega

theorem sizeN_le (x : Int) : sizeN x ≤ 6 := by
  have := size_three x
  unfold sizeN
  omega

def lay (ws : List Int) (p to : Nat) (S : List Int) : Option (List Int) :=
  if _h : p < to then
    if _hn : sizeN (ws.getD p 0) = 0 ∨ to < p + sizeN (ws.getD p 0) then none
    else lay ws (p + sizeN (ws.getD p 0)) to (S.set p (sizeN (ws.getD p 0)))
  else some S
termination_by to - p
decreasing_by omega

theorem lay_end (ws : List Int) {p to : Nat} (S : List Int) (h : ¬ p < to) : lay ws p to S = some S := by
  rw [lay, dif_neg h]

theorem lay_bad (ws : List Int) {p to : Nat} (S : List Int) (h : p < to) (hn : sizeN (ws.getD p 0) = 0 ∨ to < p + sizeN (ws.getD p 0)) : lay ws p to S = none := by
  rw [lay, dif_pos h, dif_pos hn]

theorem lay_next (ws : List Int) {p to : Nat} (S : List Int) (h : p < to) (hn : ¬ (sizeN (ws.getD p 0) = 0 ∨ to < p + sizeN (ws.getD p 0))) :
    lay ws p to S = lay ws (p + sizeN (ws.getD p 0)) to (S.set p (sizeN (ws.getD p 0))) := by
  rw [lay, dif_pos h, dif_neg hn]

def Noted (ws S : List Int) : Prop := S.length = ws.length ∧ ∀ a, S.getD a 0 ≠ 0 → a < ws.length ∧ S.getD a 0 = sizeZ (ws.getD a 0) ∧ a + sizeN (ws.getD a 0) ≤ ws.length

theorem getD_set (S : List Int) (p a : Nat) (x : Int) : (S.set p x).getD a 0 = if a = p ∧ p < S.length then x else S.getD a 0 := by
  simp only [List.getD, List.getElem?_set]
  by_cases h : a = p
  · subst h
    by_cases h2 : a < S.length
    · simp [h2]
    · simp [h2]
  · have h' : ¬ p = a := fun e => h e.symm
    simp [h, h']

theorem lay_noted {ws : List Int} {p to : Nat} {S S' : List Int} (hto : to ≤ ws.length) (hS : Noted ws S) (h : lay ws p to S = some S') : Noted ws S' := by
  by_cases hp : p < to
  · by_cases hn : sizeN (ws.getD p 0) = 0 ∨ to < p + sizeN (ws.getD p 0)
    · rw [lay_bad ws S hp hn] at h
      cases h
    · rw [lay_next ws S hp hn] at h
      refine lay_noted hto ?_ h
      refine ⟨by simpa using hS.1, fun a ha => ?_⟩
      rw [getD_set] at ha ⊢
      split at ha
      · rename_i hc
        obtain ⟨rfl, _⟩ := hc
        rw [if_pos ⟨rfl, by assumption⟩]
        exact ⟨by omega, sizeN_cast _, by omega⟩
      · rename_i hc
        rw [if_neg hc]
        exact hS.2 a ha
  · rw [lay_end ws S hp] at h
    cases h
    exact hS
termination_by to - p
decreasing_by omega

theorem lay_else {ws : List Int} {p to : Nat} {S S' : List Int} (h : lay ws p to S = some S') (a : Nat) (ha : a < p ∨ to ≤ a) : S'.getD a 0 = S.getD a 0 := by
  by_cases hp : p < to
  · by_cases hn : sizeN (ws.getD p 0) = 0 ∨ to < p + sizeN (ws.getD p 0)
    · rw [lay_bad ws S hp hn] at h
      cases h
    · rw [lay_next ws S hp hn] at h
      rw [lay_else h a (by omega), getD_set, if_neg (by omega)]
  · rw [lay_end ws S hp] at h
    cases h
    rfl
termination_by to - p
decreasing_by omega

def inZ (h : HpN) (a : Int) : Bool := decide (h.to ≤ a ∧ a < h.to + h.size)

def specLeads (ws S : List Int) (h : HpN) (x : Int) (old : Bool) : Bool :=
  if x % 8 ≠ 0 then decide (x % 8 ≤ 4)
  else if x / 8 < 0 ∨ (ws.length : Int) ≤ x / 8 ∨ S.getD (x / 8).toNat 0 = 0 then false
  else (inZ h (x / 8) && decide (ws.getD (x / 8).toNat 0 % 16 ≠ 15)) || (!inZ h (x / 8) && old)

def Ordered (h : HpN) (len : Nat) : Prop :=
  20 ≤ h.size ∧ h.size ≤ 4000 ∧ (len : Int) = 2 * h.size ∧ (h.to = 0 ∨ h.to = h.size) ∧ 0 ≤ h.flips ∧ 0 ≤ h.touched ∧
  h.to ≤ h.scan ∧ h.scan ≤ h.bottom ∧ h.bottom ≤ h.top ∧ h.top ≤ h.to + h.size ∧
  h.size - h.to ≤ h.fb ∧ h.fb ≤ h.ft ∧ h.ft ≤ h.size - h.to + h.size

instance (h : HpN) (len : Nat) : Decidable (Ordered h len) := by unfold Ordered; infer_instance

def boolCells (S : List Int) (i : Nat) : Value := .bool (S.getD i 0 != 0)
end Go.Proofs.Ytebpgglegnljgaa

namespace Go.Proofs.Ytebpgglegnljgaa
open Go.RowKit

structure Later (B : Nat) (W : World) where
  w : World
  h : Below B W w

instance (B : Nat) (W : World) : Nonempty (Later B W) := ⟨⟨W, Below.refl _ _⟩⟩

theorem Later.cell {B : Nat} {W : World} (x : Later B W) {p : Addr} {v : Value} (hp : p.block < B) (h : W.cell? p = some v) : x.w.cell? p = some v := (x.h.cell hp).trans h

theorem wp_region_calm {P : Program} {id : Nat} {Q : Exit → Act → World → Prop} {a : Act} {w : World} {l : List Oper} (B : Nat) (hm : P.follows .mixedOrders = true) (hB : Region.lexB .any l.toArray = true)
    (h : wpQuiet P l.toArray (fun w' => ∃ x : Later B w, w' = x.w) (fun a' => ∀ w', (∃ x : Later B w, w' = x.w) → Q .normal a' w') l a) : (Code.region id l.toArray true).wp P Q a w :=
  wp_region_quiet (C := fun w' => ∃ x : Later B w, w' = x.w) hm hB ⟨⟨w.drew, (Below.refl B w).drew⟩, rfl⟩ (by simpa using h)
end Go.Proofs.Ytebpgglegnljgaa

namespace Go.Proofs.Ytebpgglegnljgaa
open Go.RowKit

def layV (v : Value) (h : HpN) (vs : Value) : Value := .agg #[v, .int .i64 h.size, .int .i64 h.to, .int .i64 h.bottom, .int .i64 h.top, .int .i64 h.scan, .int .i64 h.fb, .int .i64 h.ft, .int .i64 h.flips, .int .i64 h.touched, vs]

def LayBlk (w : World) (b : Nat) (v : Value) (h : HpN) (vs : Value) : Prop := w.heap[b]? = some (.cells #[v, .int .i64 h.size, .int .i64 h.to, .int .i64 h.bottom, .int .i64 h.top, .int .i64 h.scan, .int .i64 h.fb, .int .i64 h.ft, .int .i64 h.flips, .int .i64 h.touched, vs] 58)

theorem LayBlk.new (w : World) (v : Value) (h : HpN) (vs : Value) : LayBlk (w.alloc (.cells #[v, .int .i64 h.size, .int .i64 h.to, .int .i64 h.bottom, .int .i64 h.top, .int .i64 h.scan, .int .i64 h.fb, .int .i64 h.ft, .int .i64 h.flips, .int .i64 h.touched, vs] 58)) w.heap.size v h vs := (MapKept.heap_alloc w _).1

theorem LayBlk.below {w w' : World} {b : Nat} {v : Value} {h : HpN} {vs : Value} (e : LayBlk w b v h vs) (hb : Below w.heap.size w w') : LayBlk w' b v h vs := (hb.block b (heap_lt e)).trans e

theorem LayBlk.cells {w : World} {b : Nat} {v : Value} {h : HpN} {vs : Value} (e : LayBlk w b v h vs) :
    w.cell? ⟨b, 0, none⟩ = some v ∧ w.cell? ⟨b, 1, none⟩ = some (.int .i64 h.size) ∧ w.cell? ⟨b, 2, none⟩ = some (.int .i64 h.to) ∧ w.cell? ⟨b, 3, none⟩ = some (.int .i64 h.bottom) ∧ w.cell? ⟨b, 4, none⟩ = some (.int .i64 h.top) ∧ w.cell? ⟨b, 5, none⟩ = some (.int .i64 h.scan) ∧ w.cell? ⟨b, 6, none⟩ = some (.int .i64 h.fb) ∧ w.cell? ⟨b, 7, none⟩ = some (.int .i64 h.ft) ∧ w.cell? ⟨b, 8, none⟩ = some (.int .i64 h.flips) ∧ w.cell? ⟨b, 9, none⟩ = some (.int .i64 h.touched) ∧ w.cell? ⟨b, 10, none⟩ = some vs := by
  refine ⟨?_, ?_, ?_, ?_, ?_, ?_, ?_, ?_, ?_, ?_, ?_⟩ <;> · rw [cell_of_heap e]; rfl

theorem LayBlk.later {B : Nat} {w : World} {b : Nat} {v : Value} {h : HpN} {vs : Value} (e : LayBlk w b v h vs) (hb : b < B) :
    (∀ x : Later B w, x.w.cell? ⟨b, 0, none⟩ = some v) ∧ (∀ x : Later B w, x.w.cell? ⟨b, 1, none⟩ = some (.int .i64 h.size)) ∧ (∀ x : Later B w, x.w.cell? ⟨b, 2, none⟩ = some (.int .i64 h.to)) ∧ (∀ x : Later B w, x.w.cell? ⟨b, 3, none⟩ = some (.int .i64 h.bottom)) ∧ (∀ x : Later B w, x.w.cell? ⟨b, 4, none⟩ = some (.int .i64 h.top)) ∧ (∀ x : Later B w, x.w.cell? ⟨b, 5, none⟩ = some (.int .i64 h.scan)) ∧ (∀ x : Later B w, x.w.cell? ⟨b, 6, none⟩ = some (.int .i64 h.fb)) ∧ (∀ x : Later B w, x.w.cell? ⟨b, 7, none⟩ = some (.int .i64 h.ft)) ∧ (∀ x : Later B w, x.w.cell? ⟨b, 8, none⟩ = some (.int .i64 h.flips)) ∧ (∀ x : Later B w, x.w.cell? ⟨b, 9, none⟩ = some (.int .i64 h.touched)) ∧ ∀ x : Later B w, x.w.cell? ⟨b, 10, none⟩ = some vs := by
  obtain ⟨c0, c1, c2, c3, c4, c5, c6, c7, c8, c9, c10⟩ := e.cells
  exact ⟨fun x => x.cell hb c0, fun x => x.cell hb c1, fun x => x.cell hb c2, fun x => x.cell hb c3, fun x => x.cell hb c4, fun x => x.cell hb c5, fun x => x.cell hb c6, fun x => x.cell hb c7, fun x => x.cell hb c8, fun x => x.cell hb c9, fun x => x.cell hb c10⟩

theorem HeapBlk.later {B : Nat} {w : World} {b : Nat} {v : Value} {h : HpN} (e : HeapBlk w b v h) (hb : b < B) :
    (∀ x : Later B w, x.w.cell? ⟨b, 0, none⟩ = some v) ∧ (∀ x : Later B w, x.w.cell? ⟨b, 1, none⟩ = some (.int .i64 h.size)) ∧ (∀ x : Later B w, x.w.cell? ⟨b, 2, none⟩ = some (.int .i64 h.to)) ∧ (∀ x : Later B w, x.w.cell? ⟨b, 3, none⟩ = some (.int .i64 h.bottom)) ∧ (∀ x : Later B w, x.w.cell? ⟨b, 4, none⟩ = some (.int .i64 h.top)) ∧ (∀ x : Later B w, x.w.cell? ⟨b, 5, none⟩ = some (.int .i64 h.scan)) ∧ (∀ x : Later B w, x.w.cell? ⟨b, 6, none⟩ = some (.int .i64 h.fb)) ∧ (∀ x : Later B w, x.w.cell? ⟨b, 7, none⟩ = some (.int .i64 h.ft)) ∧ (∀ x : Later B w, x.w.cell? ⟨b, 8, none⟩ = some (.int .i64 h.flips)) ∧ ∀ x : Later B w, x.w.cell? ⟨b, 9, none⟩ = some (.int .i64 h.touched) := by
  obtain ⟨c0, c1, c2, c3, c4, c5, c6, c7, c8, c9⟩ := e.cells
  exact ⟨fun x => x.cell hb c0, fun x => x.cell hb c1, fun x => x.cell hb c2, fun x => x.cell hb c3, fun x => x.cell hb c4, fun x => x.cell hb c5, fun x => x.cell hb c6, fun x => x.cell hb c7, fun x => x.cell hb c8, fun x => x.cell hb c9⟩

set_option maxRecDepth 100000 in
theorem within_calls (v : Value) (h : HpN) (x sp : Int) (w : World) (h0 : 0 ≤ sp) (h1 : sp ≤ 4000) (h2 : 0 ≤ h.size) (h3 : h.size ≤ 4000) :
    Calls Try.prog 78 #[heapV v h, .int .i64 x, .int .i64 sp] w fun e w' => e = .returned (.bool (decide (sp ≤ x ∧ x < sp + h.size))) ∧ Below w.heap.size w w' := by
  obtain ⟨g1, g2, g3, g4, g5, g6, g7, g8, g9⟩ := h
  dsimp only at *
  unfold heapV
  dsimp only
  by_cases q1 : sp ≤ x
  · by_cases q2 : x < sp + g1
    · rw [decide_eq_true ⟨q1, q2⟩]
      go_enter Try.func78, Try.ntmps78
      go_wp2
      go_ret
      refine ⟨?_, (Below.refl _ _).alloc (Nat.le_refl _) _⟩
      simp_all
    · rw [decide_eq_false (fun e => q2 e.2)]
      go_enter Try.func78, Try.ntmps78
      go_wp2
      go_ret
      refine ⟨?_, (Below.refl _ _).alloc (Nat.le_refl _) _⟩
      simp_all
  · rw [decide_eq_false (fun e => q1 e.1)]
    go_enter Try.func78, Try.ntmps78
    go_wp2
    go_ret
    refine ⟨?_, (Below.refl _ _).alloc (Nat.le_refl _) _⟩
    simp_all

set_option maxRecDepth 100000 in
theorem other_calls (v : Value) (h : HpN) (w : World) (h0 : 0 ≤ h.to) (h1 : h.to ≤ 4000) (h2 : 0 ≤ h.size) (h3 : h.size ≤ 4000) :
    Calls Try.prog 60 #[heapV v h] w fun e w' => e = .returned (.int .i64 (h.size - h.to)) ∧ Below w.heap.size w w' := by
  obtain ⟨g1, g2, g3, g4, g5, g6, g7, g8, g9⟩ := h
  dsimp only at *
  unfold heapV
  dsimp only
  go_enter Try.func60, Try.ntmps60
  go_wp2
  go_ret
  exact ⟨rfl, (Below.refl _ _).alloc (Nat.le_refl _) _⟩

def leadsZ (S : List Int) (size : Int) (x sp : Int) : Bool := decide (x % 8 = 0) && (decide (sp ≤ x / 8 ∧ x / 8 < sp + size) && decide (0 < S.getD (x / 8).toNat 0))

set_option maxHeartbeats 1000000 in
set_option maxRecDepth 100000 in
theorem leads_calls (v : Value) (h : HpN) (gb goff gcap : Nat) (S : List Int) (x sp : Int) (w : World) (h0 : 0 ≤ sp) (h1 : sp ≤ 4000) (h2 : 0 ≤ h.size) (h3 : h.size ≤ 4000) (hl : sp + h.size ≤ S.length)
    (hgb : gb < w.heap.size) (hs : ∀ k, k < S.length → w.cell? ⟨gb, goff + k, none⟩ = some (.int .i64 (S.getD k 0))) :
    Calls Try.prog 51 #[layV v h (.slice (some ⟨gb, goff, none⟩) S.length gcap), .int .i64 x, .int .i64 sp] w fun e w' => e = .returned (.bool (leadsZ S h.size x sp)) ∧ Below w.heap.size w w' := by
  have HS := hid hs
  clear hs
  have HWi := hid (fun w => within_calls v h (x / 8) sp w h0 h1 h2 h3)
  obtain ⟨g1, g2, g3, g4, g5, g6, g7, g8, g9⟩ := h
  unfold layV heapV at *
  dsimp only at *
  by_cases ht : x % 8 = 0
  · have HT : Hid (∀ w, Calls Try.prog 23 #[.int .i64 x] w fun e w' => e = .returned (.int .i64 0) ∧ w = w') := fun w => by
      have := implTag_calls x w
      unfold tagZ at this
      rw [ht] at this
      exact this
    by_cases hi : sp ≤ x / 8 ∧ x / 8 < sp + g1
    · have hA : leadsZ S g1 x sp = decide (0 < S.getD (x / 8).toNat 0) := by unfold leadsZ; rw [decide_eq_true ht, decide_eq_true hi]; rfl
      obtain ⟨k, hk⟩ := Int.eq_ofNat_of_zero_le (show 0 ≤ x / 8 by omega)
      have hkN : k < S.length := by omega
      have c0 := HS.out k hkN
      rw [hA, hk, Int.toNat_natCast]
      rw [decide_eq_true hi] at HWi
      have HNum : Hid (∀ w, Calls Try.prog 52 #[.int .i64 x] w fun e w' => e = .returned (.int .i64 (k : Int)) ∧ w = w') := fun w => by
        have := implNum_calls x w
        unfold numZ at this
        rw [hk] at this
        exact this
      rw [hk] at HWi
      clear hA hk hi ht HS
      generalize S.getD k 0 = y at *
      go_enter Try.func51, Try.ntmps51
      go_wp2_with fail
      have hL := LayBlk.new w v ⟨g1, g2, g3, g4, g5, g6, g7, g8, g9⟩ (.slice (some ⟨gb, goff, none⟩) S.length gcap)
      obtain ⟨v0, v1, v2, v3, v4, v5, v6, v7, v8, v9, v10⟩ := hL.later (B := (w.alloc (.cells #[v, .int .i64 g1, .int .i64 g2, .int .i64 g3, .int .i64 g4, .int .i64 g5, .int .i64 g6, .int .i64 g7, .int .i64 g8, .int .i64 g9, .slice (some ⟨gb, goff, none⟩) S.length gcap] 58)).heap.size) (by simp)
      dsimp only at v0 v1 v2 v3 v4 v5 v6 v7 v8 v9 v10
      have hk0 := (Below.refl w.heap.size w).alloc (Nat.le_refl _) (.cells #[v, .int .i64 g1, .int .i64 g2, .int .i64 g3, .int .i64 g4, .int .i64 g5, .int .i64 g6, .int .i64 g7, .int .i64 g8, .int .i64 g9, .slice (some ⟨gb, goff, none⟩) S.length gcap] 58)
      have vc : ∀ x : Later (w.alloc (.cells #[v, .int .i64 g1, .int .i64 g2, .int .i64 g3, .int .i64 g4, .int .i64 g5, .int .i64 g6, .int .i64 g7, .int .i64 g8, .int .i64 g9, .slice (some ⟨gb, goff, none⟩) S.length gcap] 58)).heap.size (w.alloc (.cells #[v, .int .i64 g1, .int .i64 g2, .int .i64 g3, .int .i64 g4, .int .i64 g5, .int .i64 g6, .int .i64 g7, .int .i64 g8, .int .i64 g9, .slice (some ⟨gb, goff, none⟩) S.length gcap] 58)), x.w.cell? ⟨gb, goff + k, none⟩ = some (.int .i64 y) := fun x => x.cell (by simp; omega) ((hk0.cell (p := ⟨gb, goff + k, none⟩) hgb).trans c0)
      have HK0 := hid hk0
      clear hL hk0
      generalize (w.alloc (.cells #[v, .int .i64 g1, .int .i64 g2, .int .i64 g3, .int .i64 g4, .int .i64 g5, .int .i64 g6, .int .i64 g7, .int .i64 g8, .int .i64 g9, .slice (some ⟨gb, goff, none⟩) S.length gcap] 58)) = W at *
      refine wp_region_calm W.heap.size (by kernel_rfl) (by kernel_rfl) ?_
      repeat (go_big_quiet_step (first | (rename_i x; go_at_call 23; refine (HT.out _).mono ?_; rintro e w5 ⟨rfl, rfl⟩; exact ⟨rfl, x, rfl⟩) | (rename_i x; go_at_call 52; refine (HNum.out _).mono ?_; rintro e w5 ⟨rfl, rfl⟩; exact ⟨rfl, x, rfl⟩) | (rename_i x; go_at_call 78; refine (HWi.out _).mono ?_; rintro e w5 ⟨rfl, hb5⟩; exact ⟨rfl, ⟨w5, x.h.trans (hb5.mono x.h.size)⟩, rfl⟩)))
      refine wpQuiet_nil ?_
      rintro w5 ⟨x, rfl⟩
      have HBx := hid (HK0.out.trans (x.h.mono HK0.out.size))
      clear v0 v1 v2 v3 v4 v5 v6 v7 v8 v9 v10
      go_wp2_with fail
      go_ret
      exact ⟨rfl, HBx.out⟩
    · have hA : leadsZ S g1 x sp = false := by unfold leadsZ; rw [decide_eq_false hi, Bool.false_and, Bool.and_false]
      rw [hA]
      rw [decide_eq_false hi] at HWi
      have HNum := hid (fun w => implNum_calls x w)
      unfold numZ at HNum
      clear hA hi ht HS
      generalize x / 8 = k at *
      go_enter Try.func51, Try.ntmps51
      go_wp2_with fail
      have hL := LayBlk.new w v ⟨g1, g2, g3, g4, g5, g6, g7, g8, g9⟩ (.slice (some ⟨gb, goff, none⟩) S.length gcap)
      obtain ⟨v0, v1, v2, v3, v4, v5, v6, v7, v8, v9, v10⟩ := hL.later (B := (w.alloc (.cells #[v, .int .i64 g1, .int .i64 g2, .int .i64 g3, .int .i64 g4, .int .i64 g5, .int .i64 g6, .int .i64 g7, .int .i64 g8, .int .i64 g9, .slice (some ⟨gb, goff, none⟩) S.length gcap] 58)).heap.size) (by simp)
      dsimp only at v0 v1 v2 v3 v4 v5 v6 v7 v8 v9 v10
      have hk0 := (Below.refl w.heap.size w).alloc (Nat.le_refl _) (.cells #[v, .int .i64 g1, .int .i64 g2, .int .i64 g3, .int .i64 g4, .int .i64 g5, .int .i64 g6, .int .i64 g7, .int .i64 g8, .int .i64 g9, .slice (some ⟨gb, goff, none⟩) S.length gcap] 58)
      skip
      have HK0 := hid hk0
      clear hL hk0
      generalize (w.alloc (.cells #[v, .int .i64 g1, .int .i64 g2, .int .i64 g3, .int .i64 g4, .int .i64 g5, .int .i64 g6, .int .i64 g7, .int .i64 g8, .int .i64 g9, .slice (some ⟨gb, goff, none⟩) S.length gcap] 58)) = W at *
      refine wp_region_calm W.heap.size (by kernel_rfl) (by kernel_rfl) ?_
      repeat (go_big_quiet_step (first | (rename_i x; go_at_call 23; refine (HT.out _).mono ?_; rintro e w5 ⟨rfl, rfl⟩; exact ⟨rfl, x, rfl⟩) | (rename_i x; go_at_call 52; refine (HNum.out _).mono ?_; rintro e w5 ⟨rfl, rfl⟩; exact ⟨rfl, x, rfl⟩) | (rename_i x; go_at_call 78; refine (HWi.out _).mono ?_; rintro e w5 ⟨rfl, hb5⟩; exact ⟨rfl, ⟨w5, x.h.trans (hb5.mono x.h.size)⟩, rfl⟩)))
      refine wpQuiet_nil ?_
      rintro w5 ⟨x, rfl⟩
      have HBx := hid (HK0.out.trans (x.h.mono HK0.out.size))
      clear v0 v1 v2 v3 v4 v5 v6 v7 v8 v9 v10
      go_wp2_with fail
      go_ret
      exact ⟨rfl, HBx.out⟩
  · have hA : leadsZ S g1 x sp = false := by unfold leadsZ; rw [decide_eq_false ht, Bool.false_and]
    have HT := hid (fun w => implTag_calls x w)
    have ht0 : (tagZ x == 0) = false := by unfold tagZ; simpa using ht
    have ht1 : ¬ tagZ x = 0 := ht
    rw [hA]
    clear hA ht HS
    generalize tagZ x = t at *
    go_enter Try.func51, Try.ntmps51
    go_wp2_with fail
    have hL := LayBlk.new w v ⟨g1, g2, g3, g4, g5, g6, g7, g8, g9⟩ (.slice (some ⟨gb, goff, none⟩) S.length gcap)
    obtain ⟨v0, v1, v2, v3, v4, v5, v6, v7, v8, v9, v10⟩ := hL.later (B := (w.alloc (.cells #[v, .int .i64 g1, .int .i64 g2, .int .i64 g3, .int .i64 g4, .int .i64 g5, .int .i64 g6, .int .i64 g7, .int .i64 g8, .int .i64 g9, .slice (some ⟨gb, goff, none⟩) S.length gcap] 58)).heap.size) (by simp)
    dsimp only at v0 v1 v2 v3 v4 v5 v6 v7 v8 v9 v10
    have hk0 := (Below.refl w.heap.size w).alloc (Nat.le_refl _) (.cells #[v, .int .i64 g1, .int .i64 g2, .int .i64 g3, .int .i64 g4, .int .i64 g5, .int .i64 g6, .int .i64 g7, .int .i64 g8, .int .i64 g9, .slice (some ⟨gb, goff, none⟩) S.length gcap] 58)
    skip
    have HK0 := hid hk0
    clear hL hk0
    generalize (w.alloc (.cells #[v, .int .i64 g1, .int .i64 g2, .int .i64 g3, .int .i64 g4, .int .i64 g5, .int .i64 g6, .int .i64 g7, .int .i64 g8, .int .i64 g9, .slice (some ⟨gb, goff, none⟩) S.length gcap] 58)) = W at *
    refine wp_region_calm W.heap.size (by kernel_rfl) (by kernel_rfl) ?_
    repeat (go_big_quiet_step (first | (rename_i x; go_at_call 23; refine (HT.out _).mono ?_; rintro e w5 ⟨rfl, rfl⟩; exact ⟨rfl, x, rfl⟩)))
    refine wpQuiet_nil ?_
    rintro w5 ⟨x, rfl⟩
    have HBx := hid (HK0.out.trans (x.h.mono HK0.out.size))
    clear v0 v1 v2 v3 v4 v5 v6 v7 v8 v9 v10
    go_wp2_with fail
    go_ret
    exact ⟨rfl, HBx.out⟩
end Go.Proofs.Ytebpgglegnljgaa

namespace Go.Proofs.Ytebpgglegnljgaa
open Go.RowKit

def wordOkZ (S : List Int) (h : HpN) (x : Int) : Bool := if x % 8 = 0 then leadsZ S h.size x h.to else decide (x % 8 ≤ 4)

set_option maxHeartbeats 1000000 in
set_option maxRecDepth 100000 in
theorem wordOk_calls (v : Value) (h : HpN) (gb goff gcap : Nat) (S : List Int) (x : Int) (w : World) (h0 : 0 ≤ h.to) (h1 : h.to ≤ 4000) (h2 : 0 ≤ h.size) (h3 : h.size ≤ 4000) (hl : h.to + h.size ≤ S.length)
    (hgb : gb < w.heap.size) (hs : ∀ k, k < S.length → w.cell? ⟨gb, goff + k, none⟩ = some (.int .i64 (S.getD k 0))) :
    Calls Try.prog 69 #[layV v h (.slice (some ⟨gb, goff, none⟩) S.length gcap), .int .i64 x] w fun e w' => e = .returned (.bool (wordOkZ S h x)) ∧ Below w.heap.size w w' := by
  have HLd := hid (fun (w' : World) (hb : Below w.heap.size w w') => leads_calls v h gb goff gcap S x h.to w' h0 h1 h2 h3 hl (Nat.lt_of_lt_of_le hgb hb.size) (fun k hk => (hb.cell (p := ⟨gb, goff + k, none⟩) hgb).trans (hs k hk)))
  clear hs hl
  by_cases ht : x % 8 = 0
  · have HT : Hid (∀ w, Calls Try.prog 23 #[.int .i64 x] w fun e w' => e = .returned (.int .i64 0) ∧ w = w') := fun w => by
      have := implTag_calls x w
      unfold tagZ at this
      rw [ht] at this
      exact this
    have hA : wordOkZ S h x = leadsZ S h.size x h.to := if_pos ht
    rw [hA]
    generalize leadsZ S h.size x h.to = R at *
    clear hA ht
    obtain ⟨g1, g2, g3, g4, g5, g6, g7, g8, g9⟩ := h
    unfold layV at *
    dsimp only at *
    go_enter Try.func69, Try.ntmps69
    go_wp2_with (first | (go_at_call 23; refine (HT.out _).mono ?_; rintro e w5 ⟨rfl, rfl⟩))
    have hk0 := (Below.refl w.heap.size w).alloc (Nat.le_refl _) (.cells #[v, .int .i64 g1, .int .i64 g2, .int .i64 g3, .int .i64 g4, .int .i64 g5, .int .i64 g6, .int .i64 g7, .int .i64 g8, .int .i64 g9, .slice (some ⟨gb, goff, none⟩) S.length gcap] 58)
    refine (HLd.out _ hk0).mono ?_
    rintro e W1 ⟨rfl, hb1⟩
    have HB1 := hid (hk0.trans (hb1.mono hk0.size))
    clear hb1 hk0 HLd
    go_wp2_with fail
    go_ret
    exact ⟨rfl, HB1.out⟩
  · have hA : wordOkZ S h x = decide (x % 8 ≤ 4) := if_neg ht
    rw [hA]
    have HT := hid (fun w => implTag_calls x w)
    unfold tagZ at HT
    have ht0 : (x % 8 == 0) = false := by simpa using ht
    clear hA HLd
    generalize x % 8 = t at *
    obtain ⟨g1, g2, g3, g4, g5, g6, g7, g8, g9⟩ := h
    unfold layV at *
    dsimp only at *
    go_enter Try.func69, Try.ntmps69
    go_wp2_with (first | (go_at_call 23; refine (HT.out _).mono ?_; rintro e w5 ⟨rfl, rfl⟩))
    go_ret
    exact ⟨rfl, (Below.refl _ _).alloc (Nat.le_refl _) _⟩

def kindOr (x : Int) : Int := if sizeZ x = 0 then 0 else x % 16

theorem size_moved {x : Int} (h : x % 16 = 15) : sizeZ x = if x / 16 = 3 ∨ x / 16 = 6 then x / 16 else 0 := by unfold sizeZ; rw [if_pos h]
theorem size_other {x : Int} (h : ¬ x % 16 = 15) : sizeZ x = if fieldsZ (x % 16) = 0 ∨ x / 16 ≠ 1 + fieldsZ (x % 16) then 0 else x / 16 := by unfold sizeZ; rw [if_neg h]
theorem fields15 : fieldsZ 15 = 0 := rfl
theorem fields3 : fieldsZ 3 = 2 := rfl
theorem fields6 : fieldsZ 6 = 5 := rfl

set_option maxHeartbeats 2000000 in
set_option maxRecDepth 100000 in
theorem objectAt_calls (b off N cap a : Nat) (x : Int) (w : World) (ha : a < N) (hbw : b < w.heap.size) (hc : w.cell? ⟨b, off + a, none⟩ = some (.int .i64 x)) :
    Calls Try.prog 33 #[.slice (some ⟨b, off, none⟩) N cap, .int .i64 a] w fun e w' => e = .returned (.tuple #[.int .i64 (kindOr x), .int .i64 (sizeZ x)]) ∧ Below w.heap.size w w' := by
  have hb15 := and15 x
  have HF := hid (fun (k : Int) (w : World) => implFields_calls k w)
  have hf := fields_three (x % 16)
  have H3 := hid fields3
  have H6 := hid fields6
  have vc : ∀ y : Later w.heap.size w, y.w.cell? ⟨b, off + a, none⟩ = some (.int .i64 x) := fun y => y.cell hbw hc
  by_cases hm : x % 16 = 15
  · have hZ := size_moved hm
    have hK : kindOr x = if sizeZ x = 0 then 0 else 15 := by unfold kindOr; rw [hm]
    rw [hm] at hb15
    have HZ := hid hZ
    have HK := hid hK
    have H15 := hid fields15
    generalize kindOr x = K at *
    generalize sizeZ x = Z at *
    clear hZ hK hf hc
    go_enter Try.func33, Try.ntmps33
    go_wp2_with fail
    refine wp_region_calm w.heap.size (by kernel_rfl) (by kernel_rfl) ?_
    repeat (go_big_quiet_step (fail))
    refine wpQuiet_nil ?_
    rintro w5 ⟨y, rfl⟩
    clear vc hb15 hm
    generalize x / 16 = n at *
    go_wp2_with (first | (go_at_call 40; refine (HF.out _ _).mono ?_; rintro e w5 ⟨rfl, rfl⟩; (first | rw [H3.out] | rw [H6.out] | rw [H15.out])))
    all_goals
      exact bodyPost_ret (results_tmp2 (fn := Try.f33) rfl _ _ _) rfl ⟨by
        have hZ := HZ.out
        have hK := HK.out
        clear HZ HK
        simp_all, y.h⟩
  · have hZ := size_other hm
    have hK : kindOr x = if sizeZ x = 0 then 0 else x % 16 := rfl
    have HZ := hid hZ
    have HK := hid hK
    have hm1 : (x % 16 == 15) = false := by simpa using hm
    generalize kindOr x = K at *
    generalize sizeZ x = Z at *
    clear hZ hK hc
    generalize x % 16 = k at *
    have hf1 : fieldsZ k ≤ 5 := by omega
    have hf0 : 0 ≤ fieldsZ k := by omega
    clear hf
    go_enter Try.func33, Try.ntmps33
    go_wp2_with fail
    refine wp_region_calm w.heap.size (by kernel_rfl) (by kernel_rfl) ?_
    repeat (go_big_quiet_step (fail))
    refine wpQuiet_nil ?_
    rintro w5 ⟨y, rfl⟩
    clear vc
    generalize x / 16 = n at *
    have HFk := hid (fun (w : World) => HF.out k w)
    generalize fieldsZ k = f at *
    go_wp2_with (first | (go_at_call 40; refine (HFk.out _).mono ?_; rintro e w5 ⟨rfl, rfl⟩))
    all_goals
      exact bodyPost_ret (results_tmp2 (fn := Try.f33) rfl _ _ _) rfl ⟨by
        have hZ := HZ.out
        have hK := HK.out
        clear HZ HK
        simp_all
        try omega, y.h⟩

set_option maxHeartbeats 1000000 in
set_option maxRecDepth 100000 in
theorem fieldsAt_calls (b off N cap a n : Nat) (x : Int) (w : World) (hn : sizeZ x = (n : Int)) (hn3 : 3 ≤ n) (ha : a + n ≤ N) (hcap : N ≤ cap) (hN : N ≤ 8000) (hbw : b < w.heap.size) (hc : w.cell? ⟨b, off + a, none⟩ = some (.int .i64 x)) :
    Calls Try.prog 34 #[.slice (some ⟨b, off, none⟩) N cap, .int .i64 a] w fun e w' => e = .returned (.slice (some ⟨b, off + (a + 1), none⟩) (n - 1) (cap - (a + 1))) ∧ Below w.heap.size w w' := by
  have HA := hid (objectAt_calls b off N cap a x w (by omega) hbw hc)
  rw [hn] at HA
  clear hc hn
  generalize kindOr x = K at *
  have h1 : (a : Int) + (n : Int) ≤ (N : Int) := by omega
  have h2 : (3 : Int) ≤ (n : Int) := by omega
  have h3 : (N : Int) ≤ (cap : Int) := by omega
  have h4 : (a : Int) + (n : Int) ≤ 8000 := by omega
  go_enter Try.func34, Try.ntmps34
  go_wp2_with fail
  refine HA.out.mono ?_
  rintro e W1 ⟨rfl, hb1⟩
  have HB1 := hid hb1
  clear HA hb1
  go_wp2_with fail
  go_ret
  refine ⟨?_, HB1.out⟩
  show Ending.returned (.slice (some ⟨b, off + (a + 1), none⟩) (a + n - (a + 1)) (cap - (a + 1))) = _
  rw [show a + n - (a + 1) = n - 1 by omega]
end Go.Proofs.Ytebpgglegnljgaa

namespace Go.Proofs.Ytebpgglegnljgaa
open Go.RowKit

def LayPost (R : Option (List Int)) (gb N p0 to : Nat) (S : List Int) (w : World) (e : Ending) (w' : World) : Prop :=
  (∃ ok, e = .returned (.bool ok) ∧ ((R = none ∧ ok = false ∧ ∃ S' : List Int, S'.length = N ∧ CellRow 3 w' gb N (intCells S') ∧ ∀ a, a < p0 ∨ to ≤ a → S'.getD a 0 = S.getD a 0) ∨ ∃ S', R = some S' ∧ ok = true ∧ S'.length = N ∧ CellRow 3 w' gb N (intCells S'))) ∧ w.grownBy w' (some gb)

theorem int_set (S : List Int) (p : Nat) (hp : p < S.length) (n : Int) {f : Nat → Value} {N : Nat} (hf : ∀ i, i < N → f i = intCells S i) :
    ∀ i, i < N → (fun j => if j = p then Value.int .i64 n else f j) i = intCells (S.set p n) i := by
  intro i hi
  show (if i = p then Value.int .i64 n else f i) = _
  unfold intCells
  rw [getD_set]
  by_cases h : i = p
  · rw [if_pos h, if_pos ⟨h, hp⟩]
  · rw [if_neg h, if_neg (fun e => h e.1)]
    exact hf i hi

set_option maxHeartbeats 2000000 in
set_option maxRecDepth 100000 in
theorem implLay_calls (b off cap gb gcap N p0 to : Nat) (ws S : List Int) (h : HpN) (w : World) (hS : S.length = N) (hN2 : N ≤ 8000) (hto : to ≤ N)
    (hb : b < w.heap.size) (hw : ∀ k, k < N → w.cell? ⟨b, off + k, none⟩ = some (.int .i64 (ws.getD k 0))) (hne : b ≠ gb) (hr : CellRow 3 w gb N (intCells S)) :
    Calls Try.prog 59 #[layV (.slice (some ⟨b, off, none⟩) N cap) h (.slice (some ⟨gb, 0, none⟩) N gcap), .int .i64 p0, .int .i64 to] w (LayPost (lay ws p0 to S) gb N p0 to S w) := by
  have HW := hid hw
  have hgb := hr.lt
  have HR := hid hr
  clear hw hr
  obtain ⟨g1, g2, g3, g4, g5, g6, g7, g8, g9⟩ := h
  unfold layV
  dsimp only
  generalize hR : lay ws p0 to S = R
  have HL := hid hR
  clear hR
  go_enter Try.func59, Try.ntmps59
  go_wp2_with fail
  have hblk := LayBlk.new w (.slice (some ⟨b, off, none⟩) N cap) ⟨g1, g2, g3, g4, g5, g6, g7, g8, g9⟩ (.slice (some ⟨gb, 0, none⟩) N gcap)
  have hk0 := (Below.refl w.heap.size w).alloc (Nat.le_refl _) (.cells #[.slice (some ⟨b, off, none⟩) N cap, .int .i64 g1, .int .i64 g2, .int .i64 g3, .int .i64 g4, .int .i64 g5, .int .i64 g6, .int .i64 g7, .int .i64 g8, .int .i64 g9, .slice (some ⟨gb, 0, none⟩) N gcap] 58)
  go_loopw [7] (fun i wr => ∃ (p : Nat) (S' : List Int), i = .int .i64 p ∧ Hid (lay ws p to S' = R ∧ S'.length = N ∧ CellRow 3 wr gb N (intCells S') ∧ w.grownBy wr (some gb) ∧ p0 ≤ p ∧ ∀ a, a < p0 ∨ to ≤ a → S'.getD a 0 = S.getD a 0) ∧ LayBlk wr w.heap.size (.slice (some ⟨b, off, none⟩) N cap) ⟨g1, g2, g3, g4, g5, g6, g7, g8, g9⟩ (.slice (some ⟨gb, 0, none⟩) N gcap)) (fun i _ => to - (intOf i).toNat)
  case atStart => exact ⟨p0, S, rfl, ⟨HL.out, hS, HR.out.of_block (hk0.block gb hgb), kept_of_below hk0 _, Nat.le_refl _, fun _ _ => rfl⟩, hblk⟩
  case round =>
    obtain ⟨p, S', rfl, HI, hB⟩ := hrel
    clear hblk hk0 HR HL
    have HB := hid hB
    obtain ⟨c0, -, -, -, -, -, -, -, -, -, c10⟩ := hB.cells
    clear hB
    by_cases hlt : (p : Int) < (to : Int)
    · have cw : wr.cell? ⟨b, off + p, none⟩ = some (.int .i64 (ws.getD p 0)) := (World.cell?_of_block (w := w) (HI.out.2.2.2.1.block b hb (by simpa using hne))).trans (HW.out p (by omega))
      have hbr : b < wr.heap.size := Nat.lt_of_lt_of_le hb HI.out.2.2.2.1.size
      have HOb := hid (objectAt_calls b off N cap p (ws.getD p 0) wr (by omega) hbr cw)
      have hs3 := sizeN_le (ws.getD p 0)
      have es := sizeN_cast (ws.getD p 0)
      have ES := hid es.symm
      clear cw
      by_cases hn : sizeN (ws.getD p 0) = 0 ∨ to < p + sizeN (ws.getD p 0)
      · have HE := hid ((lay_bad ws S' (by omega) hn).symm.trans HI.out.1)
        have hn' : (sizeN (ws.getD p 0) : Int) = 0 ∨ (to : Int) - (p : Int) < (sizeN (ws.getD p 0) : Int) := by omega
        rw [ES.out] at HOb
        clear hn es ES
        generalize ws.getD p 0 = x at *
        generalize sizeN x = n at *
        generalize kindOr x = K at *
        have hz : ((n : Int) == 0) = true ∨ (((n : Int) == 0) = false ∧ (to : Int) - (p : Int) < (n : Int)) := by
          by_cases h0 : n = 0
          · left; simp [h0]
          · right; exact ⟨by simp; omega, by omega⟩
        clear hn'
        rcases hz with hz | ⟨hz, hz2⟩
        all_goals
          go_wp2_with fail
          refine HOb.out.mono ?_
          rintro e W1 ⟨rfl, hb1⟩
          have HB1 := hid hb1
          clear hb1 HOb c0 c10
          go_wp2_with fail
          go_ret
          exact ⟨⟨false, rfl, Or.inl ⟨HE.out.symm, rfl, S', HI.out.2.1, HI.out.2.2.1.of_block (HB1.out.block gb HI.out.2.2.1.lt), HI.out.2.2.2.2.2⟩⟩, kept_below HI.out.2.2.2.1 HB1.out⟩
      · have HE := hid ((lay_next ws S' (by omega) hn).symm.trans HI.out.1)
        rw [ES.out] at HOb
        clear es ES
        generalize ws.getD p 0 = x at *
        generalize sizeN x = n at *
        generalize kindOr x = K at *
        have hn0 : (0 : Int) < (n : Int) := by omega
        have hn1 : (n : Int) ≤ (to : Int) - (p : Int) := by omega
        have hz : ((n : Int) == 0) = false := by simp; omega
        have HPS : Hid (p < S'.length) := by show _ < _; have := HI.out.2.1; omega
        have hpn : (p : Int) + (n : Int) ≤ 8000 := by omega
        clear hn hs3
        go_wp2_with fail
        refine HOb.out.mono ?_
        rintro e W1 ⟨rfl, hb1⟩
        obtain ⟨N', f, hrow, hN', hf⟩ := HI.out.2.2.1.of_block (hb1.block gb HI.out.2.2.1.lt)
        have HF := hid hf
        have q0 := hrow.cell (i := p) (by omega)
        have z0 := hrow.frozen p (by omega)
        have HRow := hid hrow
        have HBl := hid (HB.out.below hb1)
        have HG := hid (kept_below HI.out.2.2.2.1 hb1)
        obtain ⟨d0, -, -, -, -, -, -, -, -, -, d10⟩ := HBl.out.cells
        clear hf hrow hb1 HOb c0 c10
        go_wp2_with fail
        have hs : to - (intOf (.int .i64 ((p : Int) + (n : Int)))).toNat < to - (intOf (.int .i64 (p : Int))).toNat := by simp only [intOf, Int.toNat_natCast]; omega
        refine ⟨⟨p + n, S'.set p (n : Int), ?_, ⟨HE.out, ?_, ?_, ?_, ?_, ?_⟩, ?_⟩, hs⟩
        · push_cast
          rfl
        · rw [List.length_set]
          exact HI.out.2.1
        · exact ⟨N', _, HRow.out.set p _, hN', int_set S' p HPS.out (n : Int) HF.out⟩
        · exact kept_set HG.out _ _
        · have := HI.out.2.2.2.2.1
          omega
        · intro c hc
          have := HI.out.2.2.2.2.1
          rw [getD_set, if_neg (by omega)]
          exact HI.out.2.2.2.2.2 c hc
        · exact (Below.heap_setCell _ _ _ _ (by dsimp only; omega)).trans HBl.out
    · have HE := hid ((lay_end ws S' (by omega)).symm.trans HI.out.1)
      go_wp2_with fail
      go_ret
      exact ⟨⟨true, rfl, Or.inr ⟨S', HE.out.symm, rfl, HI.out.2.1, HI.out.2.2.1⟩⟩, HI.out.2.2.2.1⟩

theorem implLay_at (b off cap gb gcap N : Nat) (P T : Int) (ws S : List Int) (h : HpN) (w : World) (hS : S.length = N) (hN2 : N ≤ 8000) (hP : 0 ≤ P) (hT0 : 0 ≤ T) (hT : T ≤ N)
    (hb : b < w.heap.size) (hw : ∀ k, k < N → w.cell? ⟨b, off + k, none⟩ = some (.int .i64 (ws.getD k 0))) (hne : b ≠ gb) (hr : CellRow 3 w gb N (intCells S)) :
    Calls Try.prog 59 #[layV (.slice (some ⟨b, off, none⟩) N cap) h (.slice (some ⟨gb, 0, none⟩) N gcap), .int .i64 P, .int .i64 T] w (LayPost (lay ws P.toNat T.toNat S) gb N P.toNat T.toNat S w) := by
  obtain ⟨p, rfl⟩ := Int.eq_ofNat_of_zero_le hP
  obtain ⟨t, rfl⟩ := Int.eq_ofNat_of_zero_le hT0
  exact implLay_calls b off cap gb gcap N p t ws S h w hS hN2 (by omega) hb hw hne hr
end Go.Proofs.Ytebpgglegnljgaa

namespace Go.Proofs.Ytebpgglegnljgaa
open Go.RowKit

def implLoopOf : Code → Option Code
  | .loop c => some c
  | .seq a b => match implLoopOf a with
    | some c => some c
    | none => implLoopOf b
  | .block _ c => implLoopOf c
  | .scope c => implLoopOf c
  | .cond _ a b => match implLoopOf a with
    | some c => some c
    | none => implLoopOf b
  | _ => none

noncomputable def fieldsBody : Code := ((Try.f61.body.bind implLoopOf).getD .skip)

theorem all_yes {P : Nat → Bool} {m : Nat} (H : ∀ k, k < m → P k = true) : (List.range m).all P = true := by
  rw [List.all_eq_true]
  exact fun k hk => H k (List.mem_range.1 hk)

theorem all_no {P : Nat → Bool} {m j : Nat} (hj : j < m) (hf : P j = false) : (List.range m).all P = false := by
  rw [List.all_eq_false]
  exact ⟨j, List.mem_range.2 hj, by simp [hf]⟩

def oldI (h : HpN) (a : Nat) : Bool := !inZ h a || decide (h.scan ≤ (a : Int) ∧ (a : Int) < h.bottom)

def implMoved (ws S : List Int) (h : HpN) (a : Nat) : Bool :=
  !inZ h a && (leadsZ S h.size (ws.getD (a + 1) 0) h.to && decide (S.getD (ws.getD (a + 1) 0 / 8).toNat 0 = S.getD a 0))

def implField (S : List Int) (h : HpN) (old : Bool) (x : Int) : Bool := wordOkZ S h x || (old && leadsZ S h.size x (h.size - h.to))

def implAt (ws S : List Int) (h : HpN) (a : Nat) : Bool :=
  if ws.getD a 0 % 16 = 15 then implMoved ws S h a
  else (List.range (sizeN (ws.getD a 0) - 1)).all (fun i => implField S h (oldI h a) (ws.getD (a + (i + 1)) 0))

structure ISt (b off gb N : Nat) (ws S : List Int) (W : World) : Prop where
  wlen : ws.length = N
  slen : S.length = N
  blt : b < W.heap.size
  words : ∀ k, k < N → W.cell? ⟨b, off + k, none⟩ = some (.int .i64 (ws.getD k 0))
  glt : gb < W.heap.size
  sizes : ∀ k, k < N → W.cell? ⟨gb, 0 + k, none⟩ = some (.int .i64 (S.getD k 0))

theorem ISt.keep {b off gb N : Nat} {ws S : List Int} {W W' : World} {B : Nat} (s : ISt b off gb N ws S W) (hb : Below B W W') (hB1 : b < B) (hB2 : gb < B) : ISt b off gb N ws S W' where
  wlen := s.wlen
  slen := s.slen
  blt := Nat.lt_of_lt_of_le s.blt hb.size
  words := fun k hk => (hb.cell (p := ⟨b, off + k, none⟩) hB1).trans (s.words k hk)
  glt := Nat.lt_of_lt_of_le s.glt hb.size
  sizes := fun k hk => (hb.cell (p := ⟨gb, 0 + k, none⟩) hB2).trans (s.sizes k hk)

theorem ISt.kept {b off gb N : Nat} {ws S : List Int} {W W' : World} (s : ISt b off gb N ws S W) (hb : Below W.heap.size W W') : ISt b off gb N ws S W' := s.keep hb s.blt s.glt

theorem leads_st {b off gb N gcap : Nat} {ws S : List Int} {W : World} (s : ISt b off gb N ws S W) (v : Value) (h : HpN) (ho : Ordered h N) (x sp : Int) (hsp : sp = h.to ∨ sp = h.size - h.to) :
    Calls Try.prog 51 #[layV v h (.slice (some ⟨gb, 0, none⟩) N gcap), .int .i64 x, .int .i64 sp] W fun e w' => e = .returned (.bool (leadsZ S h.size x sp)) ∧ Below W.heap.size W w' := by
  obtain ⟨o1, o2, o3, o4, _⟩ := ho
  have hs := s.sizes
  have hl := s.slen
  subst hl
  exact leads_calls v h gb 0 gcap S x sp W (by omega) (by omega) (by omega) (by omega) (by omega) s.glt hs

theorem wordOk_st {b off gb N gcap : Nat} {ws S : List Int} {W : World} (s : ISt b off gb N ws S W) (v : Value) (h : HpN) (ho : Ordered h N) (x : Int) :
    Calls Try.prog 69 #[layV v h (.slice (some ⟨gb, 0, none⟩) N gcap), .int .i64 x] W fun e w' => e = .returned (.bool (wordOkZ S h x)) ∧ Below W.heap.size W w' := by
  obtain ⟨o1, o2, o3, o4, _⟩ := ho
  have hs := s.sizes
  have hl := s.slen
  subst hl
  exact wordOk_calls v h gb 0 gcap S x W (by omega) (by omega) (by omega) (by omega) (by omega) s.glt hs

structure OSt (w : World) (b off gb N : Nat) (ws S : List Int) (v : Value) (h : HpN) (vs : Value) (W : World) : Prop where
  st : ISt b off gb N ws S W
  blk : LayBlk W w.heap.size v h vs
  below : Below w.heap.size w W

theorem OSt.keep {w W W' : World} {b off gb N : Nat} {ws S : List Int} {v : Value} {h : HpN} {vs : Value} (s : OSt w b off gb N ws S v h vs W) (hb : Below W.heap.size W W') : OSt w b off gb N ws S v h vs W' :=
  ⟨s.st.kept hb, s.blk.below hb, s.below.trans (hb.mono s.below.size)⟩

theorem leadsZ_at {S : List Int} {size x sp : Int} (h : leadsZ S size x sp = true) : x % 8 = 0 ∧ sp ≤ x / 8 ∧ x / 8 < sp + size ∧ 0 < S.getD (x / 8).toNat 0 := by
  unfold leadsZ at h
  simp only [Bool.and_eq_true, decide_eq_true_eq] at h
  exact ⟨h.1, h.2.1.1, h.2.1.2, h.2.2⟩

set_option maxHeartbeats 4000000 in
set_option maxRecDepth 1000000 in
theorem fieldsLoop (b off cap gb gcap N a nf fcap : Nat) (ws S : List Int) (h : HpN) (old : Bool) (w W : World) (ho : Ordered h N) (ha : a + (nf + 1) ≤ N) (hnf : nf ≤ 5) (hB : OSt w b off gb N ws S (.slice (some ⟨b, off, none⟩) N cap) h (.slice (some ⟨gb, 0, none⟩) N gcap) W)
    (Q0 : Exit → Act → World → Prop) (c0 c1 c3 c4 c5 c6 c7 c8 c10 c11 c12 c13 c14 c15 c16 c17 c18 c19 c20 c21 c22 c23 c24 c25 c26 c27 c28 c29 c30 c31 c32 c33 c34 c35 c36 c37 c38 c39 c40 c41 c42 c43 c44 c45 c46 c47 c48 c49 c50 c51 c52 c53 c54 c55 c56 c57 c58 c59 c60 c61 c62 c63 c64 c65 c66 c67 c68 c69 c70 c71 c72 c73 c74 c75 c76 c77 c81 c82 c83 c84 c85 c86 c87 c88 c89 c90 c91 c92 c93 c94 c95 c96 c97 c98 c99 c100 : Value)
    (hret : ∀ (tmps : Array Value) (w' : World), tmps.getD 4 undef = .bool false → (List.range nf).all (fun i => implField S h old (ws.getD (a + (i + 1)) 0)) = false → Below w.heap.size w w' → Q0 .ret ⟨tmps, []⟩ w')
    (hexit : ∀ (d4 d11 d80 d81 d82 d83 d84 d85 d86 d87 d88 d89 d90 d91 d92 d93 d94 d95 d96 d97 d98 d99 d100 : Value) (w' : World), (List.range nf).all (fun i => implField S h old (ws.getD (a + (i + 1)) 0)) = true → Below w.heap.size w w' → Q0 (.exit 0) ⟨(List.toArray (c0 :: c1 :: .pointer (some ⟨w.heap.size, 0, none⟩) :: c3 :: d4 :: c5 :: c6 :: c7 :: c8 :: .bool old :: c10 :: d11 :: c12 :: c13 :: c14 :: c15 :: c16 :: c17 :: c18 :: c19 :: c20 :: c21 :: c22 :: c23 :: c24 :: c25 :: c26 :: c27 :: c28 :: c29 :: c30 :: c31 :: c32 :: c33 :: c34 :: c35 :: c36 :: c37 :: c38 :: c39 :: c40 :: c41 :: c42 :: c43 :: c44 :: c45 :: c46 :: c47 :: c48 :: c49 :: c50 :: c51 :: c52 :: c53 :: c54 :: c55 :: c56 :: c57 :: c58 :: c59 :: c60 :: c61 :: c62 :: c63 :: c64 :: c65 :: c66 :: c67 :: c68 :: c69 :: c70 :: c71 :: c72 :: c73 :: c74 :: c75 :: c76 :: c77 :: .slice (some ⟨b, off + (a + 1), none⟩) nf fcap :: .int .i64 (nf : Int) :: d80 :: d81 :: d82 :: d83 :: d84 :: d85 :: d86 :: d87 :: d88 :: d89 :: d90 :: d91 :: d92 :: d93 :: d94 :: d95 :: d96 :: d97 :: d98 :: d99 :: d100 :: [])), []⟩ w')
    : Code.wp Try.prog (Code.loop fieldsBody) Q0 ⟨(List.toArray (c0 :: c1 :: .pointer (some ⟨w.heap.size, 0, none⟩) :: c3 :: c4 :: c5 :: c6 :: c7 :: c8 :: .bool old :: c10 :: c11 :: c12 :: c13 :: c14 :: c15 :: c16 :: c17 :: c18 :: c19 :: c20 :: c21 :: c22 :: c23 :: c24 :: c25 :: c26 :: c27 :: c28 :: c29 :: c30 :: c31 :: c32 :: c33 :: c34 :: c35 :: c36 :: c37 :: c38 :: c39 :: c40 :: c41 :: c42 :: c43 :: c44 :: c45 :: c46 :: c47 :: c48 :: c49 :: c50 :: c51 :: c52 :: c53 :: c54 :: c55 :: c56 :: c57 :: c58 :: c59 :: c60 :: c61 :: c62 :: c63 :: c64 :: c65 :: c66 :: c67 :: c68 :: c69 :: c70 :: c71 :: c72 :: c73 :: c74 :: c75 :: c76 :: c77 :: .slice (some ⟨b, off + (a + 1), none⟩) nf fcap :: .int .i64 (nf : Int) :: .int .i64 0 :: c81 :: c82 :: c83 :: c84 :: c85 :: c86 :: c87 :: c88 :: c89 :: c90 :: c91 :: c92 :: c93 :: c94 :: c95 :: c96 :: c97 :: c98 :: c99 :: c100 :: [])), []⟩ W := by
  have HOt := hid (fun (w' : World) => other_calls (.slice (some ⟨b, off, none⟩) N cap) h w' (by obtain ⟨o1, o2, o3, o4, _⟩ := ho; omega) (by obtain ⟨o1, o2, o3, o4, _⟩ := ho; omega) (by obtain ⟨o1, o2, o3, o4, _⟩ := ho; omega) ho.2.1)
  have HLd := hid (fun (w' : World) (s' : ISt b off gb N ws S w') (x : Int) => leads_st (gcap := gcap) s' (.slice (some ⟨b, off, none⟩) N cap) h ho x (h.size - h.to) (Or.inr rfl))
  have HWo := hid (fun (w' : World) (s' : ISt b off gb N ws S w') (x : Int) => wordOk_st (gcap := gcap) s' (.slice (some ⟨b, off, none⟩) N cap) h ho x)
  have HB0 := hid hB
  have HRet := hid hret
  have HExit := hid hexit
  clear ho hB hret hexit
  obtain ⟨g1, g2, g3, g4, g5, g6, g7, g8, g9⟩ := h
  unfold layV heapV at *
  dsimp only at *
  conv => arg 2; arg 1; whnf
  go_loopw [80] (fun i wr => ∃ j : Nat, i = .int .i64 (j : Int) ∧ Hid (OSt w b off gb N ws S (.slice (some ⟨b, off, none⟩) N cap) ⟨g1, g2, g3, g4, g5, g6, g7, g8, g9⟩ (.slice (some ⟨gb, 0, none⟩) N gcap) wr ∧ j ≤ nf ∧ ∀ k, k < j → implField S ⟨g1, g2, g3, g4, g5, g6, g7, g8, g9⟩ old (ws.getD (a + (k + 1)) 0) = true)) (fun i _ => nf - (intOf i).toNat)
  case atStart => exact ⟨0, rfl, HB0.out, by omega, fun k hk => absurd hk (by omega)⟩
  case round =>
    obtain ⟨j, rfl, HI⟩ := hrel
    clear HB0
    obtain ⟨c0, c1, c2, c3, c4, c5, c6, c7, c8, c9, c10⟩ := HI.out.1.blk.cells
    dsimp only at c0 c1 c2 c3 c4 c5 c6 c7 c8 c9 c10
    by_cases hlt : (j : Int) < (nf : Int)
    · have cy := HI.out.1.st.words (a + (j + 1)) (by omega)
      rw [show off + (a + (j + 1)) = off + (a + 1) + j by omega] at cy
      have hP : implField S ⟨g1, g2, g3, g4, g5, g6, g7, g8, g9⟩ old (ws.getD (a + (j + 1)) 0) = (wordOkZ S ⟨g1, g2, g3, g4, g5, g6, g7, g8, g9⟩ (ws.getD (a + (j + 1)) 0) || (old && leadsZ S g1 (ws.getD (a + (j + 1)) 0) (g1 - g2))) := rfl
      have HP := hid hP
      have HWx := hid (fun x : Later wr.heap.size wr => HWo.out x.w (HI.out.1.st.kept x.h) (ws.getD (a + (j + 1)) 0))
      have HLx := hid (fun x : Later wr.heap.size wr => HLd.out x.w (HI.out.1.st.kept x.h) (ws.getD (a + (j + 1)) 0))
      clear HWo HLd hP
      generalize wordOkZ S ⟨g1, g2, g3, g4, g5, g6, g7, g8, g9⟩ (ws.getD (a + (j + 1)) 0) = p1 at *
      generalize leadsZ S g1 (ws.getD (a + (j + 1)) 0) (g1 - g2) = p2 at *
      generalize hy : ws.getD (a + (j + 1)) 0 = y at *
      have HY := hid hy
      clear hy
      obtain ⟨v0, v1, v2, v3, v4, v5, v6, v7, v8, v9, v10⟩ := HI.out.1.blk.later (B := wr.heap.size) (heap_lt HI.out.1.blk)
      dsimp only at v0 v1 v2 v3 v4 v5 v6 v7 v8 v9 v10
      have HWJ := hid (show wrap64 ((j : Int) + 1) = ((j + 1 : Nat) : Int) from wrap_inc (n := nf) (by omega) (by omega))
      cases p1
      · cases old
        · go_wp2_with fail
          clear c0 c1 c2 c3 c4 c5 c6 c7 c8 c9 c10 cy
          refine wp_region_calm wr.heap.size (by kernel_rfl) (by kernel_rfl) ?_
          repeat (go_big_quiet_step (first | (rename_i x; go_at_call 69; refine (HWx.out x).mono ?_; rintro e w5 ⟨rfl, hb5⟩; exact ⟨rfl, ⟨w5, x.h.trans (hb5.mono x.h.size)⟩, rfl⟩) | (rename_i x; go_at_call 51; refine (HLx.out x).mono ?_; rintro e w5 ⟨rfl, hb5⟩; exact ⟨rfl, ⟨w5, x.h.trans (hb5.mono x.h.size)⟩, rfl⟩) | (rename_i x; go_at_call 60; refine (HOt.out x.w).mono ?_; rintro e w5 ⟨rfl, hb5⟩; exact ⟨rfl, ⟨w5, x.h.trans (hb5.mono x.h.size)⟩, rfl⟩)))
          refine wpQuiet_nil ?_
          rintro w5 ⟨x, rfl⟩
          have HBx := hid (HI.out.1.keep x.h)
          clear v0 v1 v2 v3 v4 v5 v6 v7 v8 v9 v10
          go_wp2_with fail
          exact HRet.out _ x.w rfl (all_no (j := j) (by omega) (by rw [HY.out]; exact HP.out)) HBx.out.below
        · cases p2
          · go_wp2_with fail
            clear c0 c1 c2 c3 c4 c5 c6 c7 c8 c9 c10 cy
            refine wp_region_calm wr.heap.size (by kernel_rfl) (by kernel_rfl) ?_
            repeat (go_big_quiet_step (first | (rename_i x; go_at_call 69; refine (HWx.out x).mono ?_; rintro e w5 ⟨rfl, hb5⟩; exact ⟨rfl, ⟨w5, x.h.trans (hb5.mono x.h.size)⟩, rfl⟩) | (rename_i x; go_at_call 51; refine (HLx.out x).mono ?_; rintro e w5 ⟨rfl, hb5⟩; exact ⟨rfl, ⟨w5, x.h.trans (hb5.mono x.h.size)⟩, rfl⟩) | (rename_i x; go_at_call 60; refine (HOt.out x.w).mono ?_; rintro e w5 ⟨rfl, hb5⟩; exact ⟨rfl, ⟨w5, x.h.trans (hb5.mono x.h.size)⟩, rfl⟩)))
            refine wpQuiet_nil ?_
            rintro w5 ⟨x, rfl⟩
            have HBx := hid (HI.out.1.keep x.h)
            clear v0 v1 v2 v3 v4 v5 v6 v7 v8 v9 v10
            go_wp2_with fail
            exact HRet.out _ x.w rfl (all_no (j := j) (by omega) (by rw [HY.out]; exact HP.out)) HBx.out.below
          · go_wp2_with fail
            clear c0 c1 c2 c3 c4 c5 c6 c7 c8 c9 c10 cy
            refine wp_region_calm wr.heap.size (by kernel_rfl) (by kernel_rfl) ?_
            repeat (go_big_quiet_step (first | (rename_i x; go_at_call 69; refine (HWx.out x).mono ?_; rintro e w5 ⟨rfl, hb5⟩; exact ⟨rfl, ⟨w5, x.h.trans (hb5.mono x.h.size)⟩, rfl⟩) | (rename_i x; go_at_call 51; refine (HLx.out x).mono ?_; rintro e w5 ⟨rfl, hb5⟩; exact ⟨rfl, ⟨w5, x.h.trans (hb5.mono x.h.size)⟩, rfl⟩) | (rename_i x; go_at_call 60; refine (HOt.out x.w).mono ?_; rintro e w5 ⟨rfl, hb5⟩; exact ⟨rfl, ⟨w5, x.h.trans (hb5.mono x.h.size)⟩, rfl⟩)))
            refine wpQuiet_nil ?_
            rintro w5 ⟨x, rfl⟩
            have HBx := hid (HI.out.1.keep x.h)
            clear v0 v1 v2 v3 v4 v5 v6 v7 v8 v9 v10
            go_wp2_with fail
            try rw [HWJ.out]
            refine ⟨⟨j + 1, by first | rfl | (push_cast; rfl), HBx.out, by omega, fun k hk => ?_⟩, ?_⟩
            · by_cases hkj : k < j
              · exact HI.out.2.2 k hkj
              · rw [show k = j by omega]
                rw [HY.out]
                exact HP.out
            · simp only [intOf, Int.toNat_natCast]
              omega
      · go_wp2_with fail
        clear c0 c1 c2 c3 c4 c5 c6 c7 c8 c9 c10 cy
        refine wp_region_calm wr.heap.size (by kernel_rfl) (by kernel_rfl) ?_
        repeat (go_big_quiet_step (first | (rename_i x; go_at_call 69; refine (HWx.out x).mono ?_; rintro e w5 ⟨rfl, hb5⟩; exact ⟨rfl, ⟨w5, x.h.trans (hb5.mono x.h.size)⟩, rfl⟩) | (rename_i x; go_at_call 51; refine (HLx.out x).mono ?_; rintro e w5 ⟨rfl, hb5⟩; exact ⟨rfl, ⟨w5, x.h.trans (hb5.mono x.h.size)⟩, rfl⟩) | (rename_i x; go_at_call 60; refine (HOt.out x.w).mono ?_; rintro e w5 ⟨rfl, hb5⟩; exact ⟨rfl, ⟨w5, x.h.trans (hb5.mono x.h.size)⟩, rfl⟩)))
        refine wpQuiet_nil ?_
        rintro w5 ⟨x, rfl⟩
        have HBx := hid (HI.out.1.keep x.h)
        clear v0 v1 v2 v3 v4 v5 v6 v7 v8 v9 v10
        go_wp2_with fail
        try rw [HWJ.out]
        refine ⟨⟨j + 1, by first | rfl | (push_cast; rfl), HBx.out, by omega, fun k hk => ?_⟩, ?_⟩
        · by_cases hkj : k < j
          · exact HI.out.2.2 k hkj
          · rw [show k = j by omega]
            rw [HY.out]
            exact HP.out
        · simp only [intOf, Int.toNat_natCast]
          omega
    · go_wp2_with fail
      exact HExit.out _ _ _ _ _ _ _ _ _ _ _ _ _ _ _ _ _ _ _ _ _ _ _ wr (all_yes (fun k hk => HI.out.2.2 k (by omega))) HI.out.1.below
end Go.Proofs.Ytebpgglegnljgaa

namespace Go.Proofs.Ytebpgglegnljgaa
open Go.RowKit

set_option maxHeartbeats 4000000 in
set_option maxRecDepth 100000 in
theorem objectOk_calls (b off cap gb gcap N a : Nat) (ws S : List Int) (h : HpN) (w : World) (ho : Ordered h N) (hcap : N ≤ cap) (hN : Noted ws S) (hs : ISt b off gb N ws S w) (ha : S.getD a 0 ≠ 0) :
    Calls Try.prog 61 #[layV (.slice (some ⟨b, off, none⟩) N cap) h (.slice (some ⟨gb, 0, none⟩) N gcap), .int .i64 a] w fun e w' => e = .returned (.bool (implAt ws S h a)) ∧ Below w.heap.size w w' := by
  obtain ⟨ha1, ha2, ha3⟩ := hN.2 a ha
  have hwl := hs.wlen
  have hn3 : 3 ≤ sizeN (ws.getD a 0) := by
    have e1 := size_three (ws.getD a 0)
    have e2 := sizeN_cast (ws.getD a 0)
    omega
  have HFi := hid (fun (w' : World) (s' : ISt b off gb N ws S w') => fieldsAt_calls b off N cap a (sizeN (ws.getD a 0)) (ws.getD a 0) w' (sizeN_cast _).symm hn3 (by omega) hcap (by obtain ⟨o1, o2, o3, _⟩ := ho; omega) s'.blt (s'.words a (by omega)))
  have HOb := hid (fun (w' : World) (s' : ISt b off gb N ws S w') => objectAt_calls b off N cap a (ws.getD a 0) w' (by omega) s'.blt (s'.words a (by omega)))
  have HWi := hid (fun (w' : World) => within_calls (.slice (some ⟨b, off, none⟩) N cap) h a h.to w' (by obtain ⟨o1, o2, o3, o4, _⟩ := ho; omega) (by obtain ⟨o1, o2, o3, o4, _⟩ := ho; omega) (by obtain ⟨o1, o2, o3, o4, _⟩ := ho; omega) ho.2.1)
  have hkk : kindOr (ws.getD a 0) = ws.getD a 0 % 16 := by
    unfold kindOr
    rw [if_neg]
    have e1 := size_three (ws.getD a 0)
    have e2 := sizeN_cast (ws.getD a 0)
    omega
  rw [hkk] at HOb
  have HOt := hid (fun (w' : World) => other_calls (.slice (some ⟨b, off, none⟩) N cap) h w' (by obtain ⟨o1, o2, o3, o4, _⟩ := ho; omega) (by obtain ⟨o1, o2, o3, o4, _⟩ := ho; omega) (by obtain ⟨o1, o2, o3, o4, _⟩ := ho; omega) ho.2.1)
  have HLd := hid (fun (w' : World) (s' : ISt b off gb N ws S w') (x : Int) (sp : Int) (hsp : sp = h.to ∨ sp = h.size - h.to) => leads_st (gcap := gcap) s' (.slice (some ⟨b, off, none⟩) N cap) h ho x sp hsp)
  have HWo := hid (fun (w' : World) (s' : ISt b off gb N ws S w') (x : Int) => wordOk_st (gcap := gcap) s' (.slice (some ⟨b, off, none⟩) N cap) h ho x)
  have hinv : (decide (h.to ≤ (a : Int) ∧ (a : Int) < h.to + h.size)) = inZ h a := rfl
  rw [hinv] at HWi
  have HO := hid ho
  have HSt := hid hs
  clear hs ho hinv hkk
  by_cases hm : ws.getD a 0 % 16 = 15
  · have HA : Hid (implAt ws S h a = implMoved ws S h a) := if_pos hm
    rw [hm] at HOb
    clear hm
    generalize sizeN (ws.getD a 0) = n at *
    generalize sizeZ (ws.getD a 0) = sz at *
    obtain ⟨nf, rfl⟩ : ∃ nf, n = nf + 1 := ⟨n - 1, by omega⟩
    rw [Nat.add_sub_cancel] at HFi
    obtain ⟨g1, g2, g3, g4, g5, g6, g7, g8, g9⟩ := h
    unfold layV heapV at *
    dsimp only at *
    generalize hIn : inZ ⟨g1, g2, g3, g4, g5, g6, g7, g8, g9⟩ (a : Int) = used at *
    generalize hAt : implAt ws S ⟨g1, g2, g3, g4, g5, g6, g7, g8, g9⟩ a = R at *
    have HIn := hid hIn
    clear hIn hAt
    go_enter Try.func61, Try.ntmps61
    go_wp2_with fail
    have hO0 : OSt w b off gb N ws S (.slice (some ⟨b, off, none⟩) N cap) ⟨g1, g2, g3, g4, g5, g6, g7, g8, g9⟩ (.slice (some ⟨gb, 0, none⟩) N gcap) (w.alloc (.cells #[.slice (some ⟨b, off, none⟩) N cap, .int .i64 g1, .int .i64 g2, .int .i64 g3, .int .i64 g4, .int .i64 g5, .int .i64 g6, .int .i64 g7, .int .i64 g8, .int .i64 g9, .slice (some ⟨gb, 0, none⟩) N gcap] 58)) :=
      ⟨HSt.out.kept ((Below.refl _ _).alloc (Nat.le_refl _) _), LayBlk.new w (.slice (some ⟨b, off, none⟩) N cap) ⟨g1, g2, g3, g4, g5, g6, g7, g8, g9⟩ (.slice (some ⟨gb, 0, none⟩) N gcap), (Below.refl _ _).alloc (Nat.le_refl _) _⟩
    have HO0 := hid hO0
    clear hO0 HSt
    refine (HFi.out _ HO0.out.st).mono ?_
    rintro e W1 ⟨rfl, hb1⟩
    have HO1 := hid (HO0.out.keep hb1)
    clear hb1 HO0 HFi
    obtain ⟨c0, c1, c2, c3, c4, c5, c6, c7, c8, c9, c10⟩ := HO1.out.blk.cells
    dsimp only at c0 c1 c2 c3 c4 c5 c6 c7 c8 c9 c10
    go_wp2_with fail
    clear c0 c1 c2 c3 c4 c5 c6 c7 c8 c9 c10
    refine (HWi.out _).mono ?_
    rintro e W2 ⟨rfl, hb2⟩
    have HO2 := hid (HO1.out.keep hb2)
    clear hb2 HO1 HWi
    obtain ⟨c0, c1, c2, c3, c4, c5, c6, c7, c8, c9, c10⟩ := HO2.out.blk.cells
    dsimp only at c0 c1 c2 c3 c4 c5 c6 c7 c8 c9 c10
    go_wp2_with fail
    clear c0 c1 c2 c3 c4 c5 c6 c7 c8 c9 c10
    refine (HOb.out _ HO2.out.st).mono ?_
    rintro e W3 ⟨rfl, hb3⟩
    have HO3 := hid (HO2.out.keep hb3)
    clear hb3 HO2 HOb
    obtain ⟨c0, c1, c2, c3, c4, c5, c6, c7, c8, c9, c10⟩ := HO3.out.blk.cells
    dsimp only at c0 c1 c2 c3 c4 c5 c6 c7 c8 c9 c10
    have cy := HO3.out.st.words (a + 1) (by omega)
    have ca := HO3.out.st.sizes a (by omega)
    rw [Nat.zero_add] at ca
    obtain ⟨v0, v1, v2, v3, v4, v5, v6, v7, v8, v9, v10⟩ := HO3.out.blk.later (B := W3.heap.size) (heap_lt HO3.out.blk)
    dsimp only at v0 v1 v2 v3 v4 v5 v6 v7 v8 v9 v10
    have hb3 := HO3.out.st.blt
    have hg3 := HO3.out.st.glt
    have HLx := hid (fun x : Later W3.heap.size W3 => HLd.out x.w (HO3.out.st.kept x.h) (ws.getD (a + 1) 0) g2 (Or.inl rfl))
    unfold implMoved at HA
    dsimp only at HA
    generalize ws.getD (a + 1) 0 = y at *
    have vy : ∀ x : Later W3.heap.size W3, x.w.cell? ⟨b, off + (a + 1), none⟩ = some (.int .i64 y) := fun x => x.cell hb3 cy
    have va : ∀ x : Later W3.heap.size W3, x.w.cell? ⟨gb, a, none⟩ = some (.int .i64 (S.getD a 0)) := fun x => x.cell hg3 ca
    have hln : 0 < nf := by omega
    have hla : (a : Int) < (N : Int) := by omega
    clear ha2 ha3 ha cy ca
    cases used
    · cases hL : leadsZ S g1 y g2 with
      | false =>
        rw [hL] at HLx
        have HR : Hid (R = false) := HA.out.trans (by rw [HIn.out, hL]; rfl)
        clear hL
        go_wp2_with fail
        clear c0 c1 c2 c3 c4 c5 c6 c7 c8 c9 c10
        refine wp_region_calm W3.heap.size (by kernel_rfl) (by kernel_rfl) ?_
        repeat (go_big_quiet_step (first | (rename_i x; go_at_call 51; refine (HLx.out x).mono ?_; rintro e w5 ⟨rfl, hb5⟩; exact ⟨rfl, ⟨w5, x.h.trans (hb5.mono x.h.size)⟩, rfl⟩)))
        refine wpQuiet_nil ?_
        rintro w5 ⟨x, rfl⟩
        have HBx := hid (HO3.out.keep x.h)
        clear v0 v1 v2 v3 v4 v5 v6 v7 v8 v9 v10 vy va
        go_wp2_with fail
        go_ret
        exact ⟨by rw [HR.out]; rfl, HBx.out.below⟩
      | true =>
        rw [hL] at HLx
        obtain ⟨k1, k2, k3, k4⟩ := leadsZ_at hL
        have hkk : 0 ≤ y / 8 ∧ y / 8 < (N : Int) := by obtain ⟨o1, o2, o3, o4, _⟩ := HO.out; dsimp only at *; omega
        obtain ⟨k, hk⟩ := Int.eq_ofNat_of_zero_le hkk.1
        have hkN : k < N := by omega
        have HNum : Hid (∀ w, Calls Try.prog 52 #[.int .i64 y] w fun e w' => e = .returned (.int .i64 (k : Int)) ∧ w = w') := fun w => by
          have := implNum_calls y w
          unfold numZ at this
          rw [hk] at this
          exact this
        have HR : Hid (R = decide (S.getD k 0 = S.getD a 0)) := HA.out.trans (by rw [HIn.out, hL, hk, Int.toNat_natCast]; rfl)
        have ck := HO3.out.st.sizes k hkN
        rw [Nat.zero_add] at ck
        have vk : ∀ x : Later W3.heap.size W3, x.w.cell? ⟨gb, k, none⟩ = some (.int .i64 (S.getD k 0)) := fun x => x.cell hg3 ck
        clear hL k1 k2 k3 k4 hkk hk ck
        generalize S.getD k 0 = p at *
        generalize S.getD a 0 = q at *
        go_wp2_with fail
        clear c0 c1 c2 c3 c4 c5 c6 c7 c8 c9 c10
        refine wp_region_calm W3.heap.size (by kernel_rfl) (by kernel_rfl) ?_
        repeat (go_big_quiet_step (first | (rename_i x; go_at_call 51; refine (HLx.out x).mono ?_; rintro e w5 ⟨rfl, hb5⟩; exact ⟨rfl, ⟨w5, x.h.trans (hb5.mono x.h.size)⟩, rfl⟩) | (rename_i x; go_at_call 52; refine (HNum.out _).mono ?_; rintro e w5 ⟨rfl, rfl⟩; exact ⟨rfl, x, rfl⟩)))
        refine wpQuiet_nil ?_
        rintro w5 ⟨x, rfl⟩
        have HBx := hid (HO3.out.keep x.h)
        clear v0 v1 v2 v3 v4 v5 v6 v7 v8 v9 v10 vy va vk
        go_wp2_with fail
        go_ret
        refine ⟨?_, HBx.out.below⟩
        rw [HR.out]
        show Ending.returned (.bool (p == q)) = _
        by_cases hpq : p = q
        · simp [hpq]
        · simp [hpq]
    · have HR : Hid (R = false) := HA.out.trans (by rw [HIn.out]; rfl)
      go_wp2_with fail
      clear c0 c1 c2 c3 c4 c5 c6 c7 c8 c9 c10
      refine wp_region_calm W3.heap.size (by kernel_rfl) (by kernel_rfl) ?_
      repeat (go_big_quiet_step (first | (rename_i x; go_at_call 51; refine (HLx.out x).mono ?_; rintro e w5 ⟨rfl, hb5⟩; exact ⟨rfl, ⟨w5, x.h.trans (hb5.mono x.h.size)⟩, rfl⟩)))
      refine wpQuiet_nil ?_
      rintro w5 ⟨x, rfl⟩
      have HBx := hid (HO3.out.keep x.h)
      clear v0 v1 v2 v3 v4 v5 v6 v7 v8 v9 v10 vy va
      go_wp2_with fail
      go_ret
      exact ⟨by rw [HR.out]; rfl, HBx.out.below⟩
  · have HA : Hid (implAt ws S h a = (List.range (sizeN (ws.getD a 0) - 1)).all (fun i => implField S h (oldI h a) (ws.getD (a + (i + 1)) 0))) := if_neg hm
    have hk15 : (ws.getD a 0 % 16 == 15) = false := by simpa using hm
    have hle6 := sizeN_le (ws.getD a 0)
    clear hm
    generalize ws.getD a 0 % 16 = K at *
    generalize sizeN (ws.getD a 0) = n at *
    generalize sizeZ (ws.getD a 0) = sz at *
    obtain ⟨nf, rfl⟩ : ∃ nf, n = nf + 1 := ⟨n - 1, by omega⟩
    rw [Nat.add_sub_cancel] at HFi HA
    have HNF : Hid (nf ≤ 5) := by show _ ≤ _; omega
    clear hle6
    have hold : oldI h a = (!inZ h a || decide (h.scan ≤ (a : Int) ∧ (a : Int) < h.bottom)) := rfl
    generalize oldI h a = old at *
    generalize implAt ws S h a = R at *
    obtain ⟨g1, g2, g3, g4, g5, g6, g7, g8, g9⟩ := h
    unfold layV heapV at *
    dsimp only at *
    generalize hIn : inZ ⟨g1, g2, g3, g4, g5, g6, g7, g8, g9⟩ (a : Int) = used at *
    have HOld := hid hold
    clear hIn hold
    go_enter Try.func61, Try.ntmps61
    go_wp2_with fail
    have hO0 : OSt w b off gb N ws S (.slice (some ⟨b, off, none⟩) N cap) ⟨g1, g2, g3, g4, g5, g6, g7, g8, g9⟩ (.slice (some ⟨gb, 0, none⟩) N gcap) (w.alloc (.cells #[.slice (some ⟨b, off, none⟩) N cap, .int .i64 g1, .int .i64 g2, .int .i64 g3, .int .i64 g4, .int .i64 g5, .int .i64 g6, .int .i64 g7, .int .i64 g8, .int .i64 g9, .slice (some ⟨gb, 0, none⟩) N gcap] 58)) :=
      ⟨HSt.out.kept ((Below.refl _ _).alloc (Nat.le_refl _) _), LayBlk.new w (.slice (some ⟨b, off, none⟩) N cap) ⟨g1, g2, g3, g4, g5, g6, g7, g8, g9⟩ (.slice (some ⟨gb, 0, none⟩) N gcap), (Below.refl _ _).alloc (Nat.le_refl _) _⟩
    have HO0 := hid hO0
    clear hO0 HSt
    refine (HFi.out _ HO0.out.st).mono ?_
    rintro e W1 ⟨rfl, hb1⟩
    have HO1 := hid (HO0.out.keep hb1)
    clear hb1 HO0 HFi
    obtain ⟨c0, c1, c2, c3, c4, c5, c6, c7, c8, c9, c10⟩ := HO1.out.blk.cells
    dsimp only at c0 c1 c2 c3 c4 c5 c6 c7 c8 c9 c10
    go_wp2_with fail
    clear c0 c1 c2 c3 c4 c5 c6 c7 c8 c9 c10
    refine (HWi.out _).mono ?_
    rintro e W2 ⟨rfl, hb2⟩
    have HO2 := hid (HO1.out.keep hb2)
    clear hb2 HO1 HWi
    obtain ⟨c0, c1, c2, c3, c4, c5, c6, c7, c8, c9, c10⟩ := HO2.out.blk.cells
    dsimp only at c0 c1 c2 c3 c4 c5 c6 c7 c8 c9 c10
    go_wp2_with fail
    clear c0 c1 c2 c3 c4 c5 c6 c7 c8 c9 c10
    refine (HOb.out _ HO2.out.st).mono ?_
    rintro e W3 ⟨rfl, hb3⟩
    have HO3 := hid (HO2.out.keep hb3)
    clear hb3 HO2 HOb
    obtain ⟨c0, c1, c2, c3, c4, c5, c6, c7, c8, c9, c10⟩ := HO3.out.blk.cells
    dsimp only at c0 c1 c2 c3 c4 c5 c6 c7 c8 c9 c10
    have hln : 0 < nf := by omega
    have hnf5 : nf ≤ 5 := HNF.out
    cases used
    · have ho1 : old = true := by rw [HOld.out]; rfl
      subst ho1
      go_wp2_with fail
      clear c0 c1 c2 c3 c4 c5 c6 c7 c8 c9 c10
      refine fieldsLoop b off cap gb gcap N a nf (cap - (a + 1)) ws S ⟨g1, g2, g3, g4, g5, g6, g7, g8, g9⟩ true w W3 HO.out (by omega) hnf5 HO3.out _ _ _ _ _ _ _ _ _ _ _ _ _ _ _ _ _ _ _ _ _ _ _ _ _ _ _ _ _ _ _ _ _ _ _ _ _ _ _ _ _ _ _ _ _ _ _ _ _ _ _ _ _ _ _ _ _ _ _ _ _ _ _ _ _ _ _ _ _ _ _ _ _ _ _ _ _ _ _ _ _ _ _ _ _ _ _ _ _ _ _ _ _ _ _ _ _ ?_ ?_
      · intro tmps w' h1 h2 h3
        simp only [Exit.inBlock, Exit.then]
        exact bodyPost_ret (results_tmp (fn := Try.f61) rfl _ _ _) rfl ⟨by rw [h1, HA.out, h2], h3⟩
      · intro d4 d11 d80 d81 d82 d83 d84 d85 d86 d87 d88 d89 d90 d91 d92 d93 d94 d95 d96 d97 d98 d99 d100 w' hall hbl
        have HAll := hid hall
        have HBl := hid hbl
        clear hall hbl
        go_wp2_with fail
        go_ret
        exact ⟨by rw [HA.out, HAll.out]; rfl, HBl.out⟩
    · by_cases hq1 : g5 ≤ (a : Int)
      · by_cases hq2 : (a : Int) < g3
        · have ho1 : old = true := by rw [HOld.out, decide_eq_true ⟨hq1, hq2⟩]; rfl
          subst ho1
          go_wp2_with fail
          clear c0 c1 c2 c3 c4 c5 c6 c7 c8 c9 c10
          refine fieldsLoop b off cap gb gcap N a nf (cap - (a + 1)) ws S ⟨g1, g2, g3, g4, g5, g6, g7, g8, g9⟩ true w W3 HO.out (by omega) hnf5 HO3.out _ _ _ _ _ _ _ _ _ _ _ _ _ _ _ _ _ _ _ _ _ _ _ _ _ _ _ _ _ _ _ _ _ _ _ _ _ _ _ _ _ _ _ _ _ _ _ _ _ _ _ _ _ _ _ _ _ _ _ _ _ _ _ _ _ _ _ _ _ _ _ _ _ _ _ _ _ _ _ _ _ _ _ _ _ _ _ _ _ _ _ _ _ _ _ _ _ ?_ ?_
          · intro tmps w' h1 h2 h3
            simp only [Exit.inBlock, Exit.then]
            exact bodyPost_ret (results_tmp (fn := Try.f61) rfl _ _ _) rfl ⟨by rw [h1, HA.out, h2], h3⟩
          · intro d4 d11 d80 d81 d82 d83 d84 d85 d86 d87 d88 d89 d90 d91 d92 d93 d94 d95 d96 d97 d98 d99 d100 w' hall hbl
            have HAll := hid hall
            have HBl := hid hbl
            clear hall hbl
            go_wp2_with fail
            go_ret
            exact ⟨by rw [HA.out, HAll.out]; rfl, HBl.out⟩
        · have ho1 : old = false := by rw [HOld.out, decide_eq_false (fun e => hq2 e.2)]; rfl
          subst ho1
          have hd3 : decide ((a : Int) < g3) = false := decide_eq_false hq2
          go_wp2_with fail
          clear c0 c1 c2 c3 c4 c5 c6 c7 c8 c9 c10
          refine fieldsLoop b off cap gb gcap N a nf (cap - (a + 1)) ws S ⟨g1, g2, g3, g4, g5, g6, g7, g8, g9⟩ false w W3 HO.out (by omega) hnf5 HO3.out _ _ _ _ _ _ _ _ _ _ _ _ _ _ _ _ _ _ _ _ _ _ _ _ _ _ _ _ _ _ _ _ _ _ _ _ _ _ _ _ _ _ _ _ _ _ _ _ _ _ _ _ _ _ _ _ _ _ _ _ _ _ _ _ _ _ _ _ _ _ _ _ _ _ _ _ _ _ _ _ _ _ _ _ _ _ _ _ _ _ _ _ _ _ _ _ _ ?_ ?_
          · intro tmps w' h1 h2 h3
            simp only [Exit.inBlock, Exit.then]
            exact bodyPost_ret (results_tmp (fn := Try.f61) rfl _ _ _) rfl ⟨by rw [h1, HA.out, h2], h3⟩
          · intro d4 d11 d80 d81 d82 d83 d84 d85 d86 d87 d88 d89 d90 d91 d92 d93 d94 d95 d96 d97 d98 d99 d100 w' hall hbl
            have HAll := hid hall
            have HBl := hid hbl
            clear hall hbl
            go_wp2_with fail
            go_ret
            exact ⟨by rw [HA.out, HAll.out]; rfl, HBl.out⟩
      · have ho1 : old = false := by rw [HOld.out, decide_eq_false (fun e => hq1 e.1)]; rfl
        subst ho1
        go_wp2_with fail
        clear c0 c1 c2 c3 c4 c5 c6 c7 c8 c9 c10
        refine fieldsLoop b off cap gb gcap N a nf (cap - (a + 1)) ws S ⟨g1, g2, g3, g4, g5, g6, g7, g8, g9⟩ false w W3 HO.out (by omega) hnf5 HO3.out _ _ _ _ _ _ _ _ _ _ _ _ _ _ _ _ _ _ _ _ _ _ _ _ _ _ _ _ _ _ _ _ _ _ _ _ _ _ _ _ _ _ _ _ _ _ _ _ _ _ _ _ _ _ _ _ _ _ _ _ _ _ _ _ _ _ _ _ _ _ _ _ _ _ _ _ _ _ _ _ _ _ _ _ _ _ _ _ _ _ _ _ _ _ _ _ _ ?_ ?_
        · intro tmps w' h1 h2 h3
          simp only [Exit.inBlock, Exit.then]
          exact bodyPost_ret (results_tmp (fn := Try.f61) rfl _ _ _) rfl ⟨by rw [h1, HA.out, h2], h3⟩
        · intro d4 d11 d80 d81 d82 d83 d84 d85 d86 d87 d88 d89 d90 d91 d92 d93 d94 d95 d96 d97 d98 d99 d100 w' hall hbl
          have HAll := hid hall
          have HBl := hid hbl
          clear hall hbl
          go_wp2_with fail
          go_ret
          exact ⟨by rw [HA.out, HAll.out]; rfl, HBl.out⟩
end Go.Proofs.Ytebpgglegnljgaa
