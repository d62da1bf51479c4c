/- Lists of numbers in memory: copies, comparisons of two that hold the same, marks. -/
import Derived.Test.YtfmkgppkgmjpfaaDoorOwnRow
namespace Go.Proofs.YtfmkgppkgmjpfaaDoor
open Go.RowKit

/-- The cells of a list of numbers, told by place. -/
def intCells (bs : List Int) (i : Nat) : Value := .int .i64 (bs.getD i 0)

def intMarks (s : Int) (i : Nat) : Value := .int .i64 (s + (i : Int))

theorem wrap_inc {k n : Nat} (hk : k < n) (hm : n ≤ 1048576) : wrap64 ((k : Int) + 1) = ((k + 1 : Nat) : Int) := by
  unfold wrap64
  omega

theorem wrap_inc2 {x s : Int} {k n : Nat} (hx : x = s + (k : Int)) (hk : k < n) (hm : n ≤ 1048576) (h0 : 0 ≤ s) (h1 : s ≤ 1000000000) : wrap64 (x + 1) = x + 1 := by
  unfold wrap64
  omega

/-- A slice of these numbers, wherever it begins in its block. -/
def IntSlice (w : World) (v : Value) (bs : List Int) : Prop :=
  ∃ a cap, v = .slice a bs.length cap ∧ (bs = [] ∨ ∃ b off, a = some ⟨b, off, none⟩ ∧ b < w.heap.size ∧ ∀ k, k < bs.length → w.cell? ⟨b, off + k, none⟩ = some (.int .i64 (bs.getD k 0)))

theorem IntSlice.below {w w' : World} {v : Value} {bs : List Int} (h : IntSlice w v bs) (hb : Below w.heap.size w w') : IntSlice w' v bs := by
  obtain ⟨a, cap, rfl, h⟩ := h
  refine ⟨a, cap, rfl, h.imp id ?_⟩
  rintro ⟨b, off, rfl, hlt, hn⟩
  exact ⟨b, off, rfl, Nat.lt_of_lt_of_le hlt hb.size, fun k hk => (hb.cell hlt).trans (hn k hk)⟩

theorem SliceR.intSlice {B : Nat} {w : World} {v : Value} {bs : List Int} (h : SliceR 3 1 B w v bs.length (intCells bs)) : IntSlice w v bs := by
  obtain ⟨ad, cap, rfl, h⟩ := h
  refine ⟨ad, cap, rfl, ?_⟩
  by_cases h0 : bs = []
  · exact Or.inl h0
  · obtain ⟨g, rfl, _, hr⟩ := h.resolve_left (fun e => h0 (List.length_eq_zero_iff.1 e))
    refine Or.inr ⟨g, 0, rfl, hr.lt, fun k hk => ?_⟩
    rw [Nat.zero_add]
    exact hr.cell (by omega)

theorem intSliceR_of_owns {B : Nat} {w : World} {v : Value} {bs : List Int} (h : w.ownsRow B 3 1 v bs.length (bs.map (fun b => .int .i64 b))) : SliceR 3 1 B w v bs.length (intCells bs) := by
  obtain ⟨ad, cap, rfl, h'⟩ := sliceR_of_owns h
  refine ⟨ad, cap, rfl, h'.imp id ?_⟩
  rintro ⟨g, rfl, hB, hr⟩
  refine ⟨g, rfl, hB, hr.congr (fun i hi => ?_)⟩
  have hi' : i < bs.length := by omega
  simp [intCells, List.getD, hi']

set_option maxRecDepth 100000 in
theorem eqIntS_none (ad ad' : Option Addr) (cap cap' : Nat) (w : World) :
    Calls Tryd.prog 12 #[.slice ad 0 cap, .slice ad' 0 cap'] w fun e w' => e = .returned (.bool true) ∧ Below w.heap.size w w' := by
  go_enter Tryd.func12, Tryd.ntmps12
  go_wp2
  refine wp_loop_rounds 1 ?_
  rw [rounds_succ]
  go_wp2
  go_ret
  exact ⟨rfl, Below.refl _ _⟩

set_option maxHeartbeats 1000000 in
set_option maxRecDepth 100000 in
theorem eqIntS_rows (b off b' off' len cap cap' : Nat) (bs : List Int) (w : World) (hn : ∀ k, k < len → w.cell? ⟨b, off + k, none⟩ = some (.int .i64 (bs.getD k 0))) (hn' : ∀ k, k < len → w.cell? ⟨b', off' + k, none⟩ = some (.int .i64 (bs.getD k 0))) (hm : len ≤ 1048576) :
    Calls Tryd.prog 12 #[.slice (some ⟨b, off, none⟩) len cap, .slice (some ⟨b', off', none⟩) len cap'] w fun e w' => e = .returned (.bool true) ∧ Below w.heap.size w w' := by
  have HM : Hid (len ≤ 1048576) := hm
  have HN : Hid ((∀ k, k < len → w.cell? ⟨b, off + k, none⟩ = some (.int .i64 (bs.getD k 0))) ∧ ∀ k, k < len → w.cell? ⟨b', off' + k, none⟩ = some (.int .i64 (bs.getD k 0))) := ⟨hn, hn'⟩
  clear hm hn hn'
  go_enter Tryd.func12, Tryd.ntmps12
  go_wp2_with fail
  go_loopw [5] (fun i wr => ∃ k : Nat, k ≤ len ∧ i = .int .i64 k ∧ Below w.heap.size w wr ∧ ∀ a, wr.cell? a = w.cell? a) (fun i _ => len - (intOf i).toNat)
  case atStart => exact ⟨0, Nat.zero_le _, rfl, Below.refl _ _, fun _ => rfl⟩
  case round =>
    obtain ⟨k, hk, rfl, hnx, hce⟩ := hrel
    by_cases hkl : (k : Int) < (len : Int)
    · have c0 := (hce _).trans (HN.out.1 k (by omega))
      have d0 := (hce _).trans (HN.out.2 k (by omega))
      generalize bs.getD k 0 = n at c0 d0
      have hi0 : (0 : Int) ≤ (k : Int) := by omega
      have Hce : Hid (∀ a, wr.cell? a = w.cell? a) := hce
      clear hce
      go_wp2_with fail
      go_region
      all_goals
        go_wp2_with fail
        have hs : len - (intOf (.int .i64 ((k + 1 : Nat) : Int))).toNat < len - (intOf (.int .i64 (k : Int))).toNat := by simp only [intOf, Int.toNat_natCast]; omega
        try rw [wrap_inc (n := len) (by omega) HM.out]
        exact ⟨⟨k + 1, by omega, rfl, hnx.drew, Hce.out⟩, hs⟩
    · go_wp2_with fail
      go_ret
      exact ⟨rfl, hnx⟩
theorem eqIntS_any {v v' : Value} {bs : List Int} (w : World) (hm : bs.length ≤ 1048576) (h : IntSlice w v bs) (h' : IntSlice w v' bs) :
    Calls Tryd.prog 12 #[v, v'] w fun e w' => e = .returned (.bool true) ∧ Below w.heap.size w w' := by
  obtain ⟨ad, cap, rfl, h⟩ := h
  obtain ⟨ad', cap', rfl, h'⟩ := h'
  by_cases h0 : bs = []
  · subst h0
    exact eqIntS_none ad ad' cap cap' w
  · obtain ⟨g, o, rfl, hb, hr⟩ := h.resolve_left h0
    obtain ⟨g', o', rfl, hb', hr'⟩ := h'.resolve_left h0
    exact eqIntS_rows g o g' o' _ cap cap' bs w hr hr' hm

theorem row_more {k : Nat} {f f' F : Nat → Value} (hf : ∀ i, i < k → f i = F i) (ho : ∀ i, i < k → f' i = f i) (h0 : f' k = F k) : ∀ i, i < k + 1 → f' i = F i := by
  intro i hi
  by_cases h : i < k
  · rw [ho i h, hf i h]
  · rw [show i = k by omega]
    exact h0

set_option maxHeartbeats 1000000 in
set_option maxRecDepth 100000 in
theorem markIntS_rows (s : Int) (HS : Hid (0 ≤ s ∧ s ≤ 1000000000)) (g n cap : Nat) (F : Nat → Value) (w : World) (hm : n ≤ 1048576) (hr : CellRow 3 w g n F) :
    Calls Tryd.prog 14 #[.slice (some ⟨g, 0, none⟩) n cap, .int .i64 s] w fun e w' => e = .returned (.int .i64 (s + (n : Int))) ∧ CellRow 3 w' g n (intMarks s) ∧ w.grownBy w' (some g) := by
  obtain ⟨N, f, hf, hN, _⟩ := hr
  have HM : Hid (n ≤ 1048576) := hm
  clear hm
  go_enter Tryd.func14, Tryd.ntmps14
  go_wp2_with fail
  go_loopw [1, 5] (fun m i wr => ∃ (k : Nat) (x : Int) (f : Nat → Value), k ≤ n ∧ i = .int .i64 k ∧ m = .int .i64 x ∧ Hid (x = s + (k : Int)) ∧ Rw wr g 3 N f n ∧ Hid (∀ j, j < k → f j = (intMarks s) j) ∧ w.grownBy wr (some g)) (fun _ i _ => n - (intOf i).toNat)
  case atStart => exact ⟨0, s, f, Nat.zero_le _, rfl, rfl, by show _ = _; simp, hf, fun j hj => by omega, kept_refl _ _⟩
  case round =>
    obtain ⟨k, x, f, hk, rfl, rfl, Hx, hrow, HF, hgr⟩ := hrel
    clear hf
    by_cases hkl : (k : Int) < (n : Int)
    · have q0 := hrow.cell (i := k) (by omega)
      have z0 := hrow.frozen k (by omega)
      have HW : Hid _ := wrap_inc2 Hx.out (by omega) HM.out HS.out.1 HS.out.2
      have HB : Hid ((intMarks s) k = .int .i64 x) := by show _ = _; rw [Hx.out]; rfl
      go_wp2_with fail
      rw [HW.out, wrap_inc (n := n) (by omega) HM.out]
      have hs : n - (intOf (.int .i64 ((k + 1 : Nat) : Int))).toNat < n - (intOf (.int .i64 (k : Int))).toNat := by simp only [intOf, Int.toNat_natCast]; omega
      have hx := Hx.out
      refine ⟨⟨k + 1, x + 1, _, by omega, rfl, rfl, by show _ = _; omega, hrow.set k _, row_more HF.out (fun i hi => by rw [if_neg (by omega)]) ?_, kept_set hgr _ _⟩, hs⟩
      rw [if_pos rfl, HB.out]
    · have hkn : k = n := by omega
      subst hkn
      have HX : Hid (x = s + (k : Int)) := Hx
      clear Hx
      go_wp2_with fail
      go_ret
      exact ⟨by rw [← HX.out]; rfl, ⟨N, f, hrow, hN, HF.out⟩, hgr⟩

set_option maxHeartbeats 1000000 in
set_option maxRecDepth 100000 in
theorem heldIntS_rows (s : Int) (HS : Hid (0 ≤ s ∧ s ≤ 1000000000)) (g n cap : Nat) (w : World) (hm : n ≤ 1048576) (hr : CellRow 3 w g n (intMarks s)) :
    Calls Tryd.prog 15 #[.slice (some ⟨g, 0, none⟩) n cap, .int .i64 s] w fun e w' => e = .returned (.int .i64 (s + (n : Int))) ∧ w = w' := by
  have HM : Hid (n ≤ 1048576) := hm
  have HR : Hid (CellRow 3 w g n (intMarks s)) := hr
  clear hm hr
  go_enter Tryd.func15, Tryd.ntmps15
  go_wp2_with fail
  go_loop [1, 5] (fun m i => ∃ (k : Nat) (x : Int), k ≤ n ∧ i = .int .i64 k ∧ m = .int .i64 x ∧ Hid (x = s + (k : Int))) (fun _ i => n - (intOf i).toNat)
  case atStart => exact ⟨0, s, Nat.zero_le _, rfl, rfl, by show _ = _; simp⟩
  case round =>
    obtain ⟨k, x, hk, rfl, rfl, Hx⟩ := hrel
    by_cases hkl : (k : Int) < (n : Int)
    · have q0 := HR.out.cell (i := k) (by omega)
      have HW : Hid _ := wrap_inc2 Hx.out (by omega) HM.out HS.out.1 HS.out.2
      rw [show (intMarks s) k = .int .i64 x by rw [Hx.out]; rfl] at q0
      go_wp2_with fail
      rw [HW.out, wrap_inc (n := n) (by omega) HM.out]
      have hs : n - (intOf (.int .i64 ((k + 1 : Nat) : Int))).toNat < n - (intOf (.int .i64 (k : Int))).toNat := by simp only [intOf, Int.toNat_natCast]; omega
      have hx := Hx.out
      exact ⟨⟨k + 1, x + 1, by omega, rfl, rfl, by show _ = _; omega⟩, hs⟩
    · have hkn : k = n := by omega
      subst hkn
      have HX : Hid (x = s + (k : Int)) := Hx
      clear Hx
      go_wp2_with fail
      go_ret
      exact ⟨by rw [← HX.out]; rfl, rfl⟩

set_option maxRecDepth 100000 in
theorem markIntS_none (s : Int) (ad : Option Addr) (cap : Nat) (w : World) :
    Calls Tryd.prog 14 #[.slice ad 0 cap, .int .i64 s] w fun e w' => e = .returned (.int .i64 s) ∧ w = w' := by
  go_enter Tryd.func14, Tryd.ntmps14
  go_wp2
  refine wp_loop_rounds 1 ?_
  rw [rounds_succ]
  go_wp2
  go_ret
  exact ⟨rfl, rfl⟩

set_option maxRecDepth 100000 in
theorem heldIntS_none (s : Int) (ad : Option Addr) (cap : Nat) (w : World) :
    Calls Tryd.prog 15 #[.slice ad 0 cap, .int .i64 s] w fun e w' => e = .returned (.int .i64 s) ∧ w = w' := by
  go_enter Tryd.func15, Tryd.ntmps15
  go_wp2
  refine wp_loop_rounds 1 ?_
  rw [rounds_succ]
  go_wp2
  go_ret
  exact ⟨rfl, rfl⟩

theorem markIntS_any (s : Int) (HS : Hid (0 ≤ s ∧ s ≤ 1000000000)) {B n : Nat} {v : Value} {F : Nat → Value} (w : World) (hm : n ≤ 1048576) (h : SliceR 3 1 B w v n F) :
    Calls Tryd.prog 14 #[v, .int .i64 s] w fun e w' => e = .returned (.int .i64 (s + (n : Int))) ∧ SliceR 3 1 B w' v n (intMarks s) ∧ Turned w w' v n := by
  obtain ⟨ad, cap, rfl, h⟩ := h
  by_cases h0 : n = 0
  · subst h0
    refine (markIntS_none s ad cap w).mono ?_
    rintro e w' ⟨rfl, rfl⟩
    exact ⟨by simp, ⟨ad, cap, rfl, Or.inl rfl⟩, none, kept_refl _ _, Or.inl rfl⟩
  · obtain ⟨g, rfl, hB, hr⟩ := h.resolve_left h0
    rw [Nat.mul_one] at hr
    refine (markIntS_rows s HS g n cap F w hm hr).mono ?_
    rintro e w' ⟨rfl, hr', hg⟩
    exact ⟨rfl, ⟨_, cap, rfl, Or.inr ⟨g, rfl, hB, by rw [Nat.mul_one]; exact hr'⟩⟩, some g, hg, Or.inr ⟨h0, rfl⟩⟩

theorem heldIntS_any (s : Int) (HS : Hid (0 ≤ s ∧ s ≤ 1000000000)) {B n : Nat} {v : Value} (w : World) (hm : n ≤ 1048576) (h : SliceR 3 1 B w v n (intMarks s)) :
    Calls Tryd.prog 15 #[v, .int .i64 s] w fun e w' => e = .returned (.int .i64 (s + (n : Int))) ∧ w = w' := by
  obtain ⟨ad, cap, rfl, h⟩ := h
  by_cases h0 : n = 0
  · subst h0
    rw [show s + ((0 : Nat) : Int) = s by simp]
    exact heldIntS_none s ad cap w
  · obtain ⟨g, rfl, hB, hr⟩ := h.resolve_left h0
    rw [Nat.mul_one] at hr
    exact heldIntS_rows s HS g n cap w hm hr
end Go.Proofs.YtfmkgppkgmjpfaaDoor
