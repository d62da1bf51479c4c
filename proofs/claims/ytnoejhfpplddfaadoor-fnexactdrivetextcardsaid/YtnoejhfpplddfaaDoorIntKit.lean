/- Lists of numbers in memory: copies, comparisons of two that hold the same; how one is handed in. -/
import Derived.Test.YtnoejhfpplddfaaDoorOwnRow
import Derived.OpenShut
namespace Go.Proofs.YtnoejhfpplddfaaDoor
open Go.RowKit

/-- The cells of a list of numbers, told by place. -/
def intCells (bs : List Int) (i : Nat) : Value := .int .i64 (bs.getD i 0)

theorem wrap_inc {k n : Nat} (hk : k < n) (hm : n ≤ 1048576) : wrap64 ((k : Int) + 1) = ((k + 1 : Nat) : Int) := by
  unfold wrap64
  omega

theorem wrap_inc2 {x s : Int} {k n : Nat} (hx : x = s + (k : Int)) (hk : k < n) (hm : n ≤ 1048576) (h0 : 0 ≤ s) (h1 : s ≤ 1000000000) : wrap64 (x + 1) = x + 1 := by
  unfold wrap64
  omega

/-- A slice of these numbers, wherever it begins in its block. -/
def IntSlice (w : World) (v : Value) (bs : List Int) : Prop :=
  ∃ a cap, v = .slice a bs.length cap ∧ (bs = [] ∨ ∃ b off, a = some ⟨b, off, none⟩ ∧ b < w.heap.size ∧ ∀ k, k < bs.length → w.cell? ⟨b, off + k, none⟩ = some (.int .i64 (bs.getD k 0)))

theorem IntSlice.below {w w' : World} {v : Value} {bs : List Int} (h : IntSlice w v bs) (hb : Below w.heap.size w w') : IntSlice w' v bs := by
  obtain ⟨a, cap, rfl, h⟩ := h
  refine ⟨a, cap, rfl, h.imp id ?_⟩
  rintro ⟨b, off, rfl, hlt, hn⟩
  exact ⟨b, off, rfl, Nat.lt_of_lt_of_le hlt hb.size, fun k hk => (hb.cell hlt).trans (hn k hk)⟩

theorem SliceR.intSlice {B : Nat} {w : World} {v : Value} {bs : List Int} (h : SliceR 3 1 B w v bs.length (intCells bs)) : IntSlice w v bs := by
  obtain ⟨ad, cap, rfl, h⟩ := h
  refine ⟨ad, cap, rfl, ?_⟩
  by_cases h0 : bs = []
  · exact Or.inl h0
  · obtain ⟨g, rfl, _, hr⟩ := h.resolve_left (fun e => h0 (List.length_eq_zero_iff.1 e))
    refine Or.inr ⟨g, 0, rfl, hr.lt, fun k hk => ?_⟩
    rw [Nat.zero_add]
    exact hr.cell (by omega)

theorem intSliceR_of_owns {B : Nat} {w : World} {v : Value} {bs : List Int} (h : w.ownsRow B 3 1 v bs.length (bs.map (fun b => .int .i64 b))) : SliceR 3 1 B w v bs.length (intCells bs) := by
  obtain ⟨ad, cap, rfl, h'⟩ := sliceR_of_owns h
  refine ⟨ad, cap, rfl, h'.imp id ?_⟩
  rintro ⟨g, rfl, hB, hr⟩
  refine ⟨g, rfl, hB, hr.congr (fun i hi => ?_)⟩
  have hi' : i < bs.length := by omega
  simp [intCells, List.getD, hi']

set_option maxRecDepth 100000 in
theorem eqIntS_none (ad ad' : Option Addr) (cap cap' : Nat) (w : World) :
    Calls Tryd.prog 24 #[.slice ad 0 cap, .slice ad' 0 cap'] w fun e w' => e = .returned (.bool true) ∧ Below w.heap.size w w' := by
  go_enter Tryd.func24, Tryd.ntmps24
  go_wp2
  refine wp_loop_rounds 1 ?_
  rw [rounds_succ]
  go_wp2
  go_ret
  exact ⟨rfl, Below.refl _ _⟩

set_option maxHeartbeats 1000000 in
set_option maxRecDepth 100000 in
theorem eqIntS_rows (b off b' off' len cap cap' : Nat) (bs : List Int) (w : World) (hn : ∀ k, k < len → w.cell? ⟨b, off + k, none⟩ = some (.int .i64 (bs.getD k 0))) (hn' : ∀ k, k < len → w.cell? ⟨b', off' + k, none⟩ = some (.int .i64 (bs.getD k 0))) (hm : len ≤ 1048576) :
    Calls Tryd.prog 24 #[.slice (some ⟨b, off, none⟩) len cap, .slice (some ⟨b', off', none⟩) len cap'] w fun e w' => e = .returned (.bool true) ∧ Below w.heap.size w w' := by
  have HM : Hid (len ≤ 1048576) := hm
  have HN : Hid ((∀ k, k < len → w.cell? ⟨b, off + k, none⟩ = some (.int .i64 (bs.getD k 0))) ∧ ∀ k, k < len → w.cell? ⟨b', off' + k, none⟩ = some (.int .i64 (bs.getD k 0))) := ⟨hn, hn'⟩
  clear hm hn hn'
  go_enter Tryd.func24, Tryd.ntmps24
  go_wp2_with fail
  go_loopw [5] (fun i wr => ∃ k : Nat, k ≤ len ∧ i = .int .i64 k ∧ Below w.heap.size w wr ∧ ∀ a, wr.cell? a = w.cell? a) (fun i _ => len - (intOf i).toNat)
  case atStart => exact ⟨0, Nat.zero_le _, rfl, Below.refl _ _, fun _ => rfl⟩
  case round =>
    obtain ⟨k, hk, rfl, hnx, hce⟩ := hrel
    by_cases hkl : (k : Int) < (len : Int)
    · have c0 := (hce _).trans (HN.out.1 k (by omega))
      have d0 := (hce _).trans (HN.out.2 k (by omega))
      generalize bs.getD k 0 = n at c0 d0
      have hi0 : (0 : Int) ≤ (k : Int) := by omega
      have Hce : Hid (∀ a, wr.cell? a = w.cell? a) := hce
      clear hce
      go_wp2_with fail
      go_region
      all_goals
        go_wp2_with fail
        have hs : len - (intOf (.int .i64 ((k + 1 : Nat) : Int))).toNat < len - (intOf (.int .i64 (k : Int))).toNat := by simp only [intOf, Int.toNat_natCast]; omega
        try rw [wrap_inc (n := len) (by omega) HM.out]
        exact ⟨⟨k + 1, by omega, rfl, hnx.drew, Hce.out⟩, hs⟩
    · go_wp2_with fail
      go_ret
      exact ⟨rfl, hnx⟩
theorem eqIntS_any {v v' : Value} {bs : List Int} (w : World) (hm : bs.length ≤ 1048576) (h : IntSlice w v bs) (h' : IntSlice w v' bs) :
    Calls Tryd.prog 24 #[v, v'] w fun e w' => e = .returned (.bool true) ∧ Below w.heap.size w w' := by
  obtain ⟨ad, cap, rfl, h⟩ := h
  obtain ⟨ad', cap', rfl, h'⟩ := h'
  by_cases h0 : bs = []
  · subst h0
    exact eqIntS_none ad ad' cap cap' w
  · obtain ⟨g, o, rfl, hb, hr⟩ := h.resolve_left h0
    obtain ⟨g', o', rfl, hb', hr'⟩ := h'.resolve_left h0
    exact eqIntS_rows g o g' o' _ cap cap' bs w hr hr' hm

theorem row_more {k : Nat} {f f' F : Nat → Value} (hf : ∀ i, i < k → f i = F i) (ho : ∀ i, i < k → f' i = f i) (h0 : f' k = F k) : ∀ i, i < k + 1 → f' i = F i := by
  intro i hi
  by_cases h : i < k
  · rw [ho i h, hf i h]
  · rw [show i = k by omega]
    exact h0

theorem info_int : (Tryd.prog.info? 3).map (fun i => (i.zero, i.size, i.bytes)) = some (some (.int .i64 0), 1, 8) := by kernel_rfl

theorem made_ints (len : Nat) (hl : len ≤ 1048576) (w : World) : ∃ c : Array Value, c.size = len ∧
    (Instr.makeSlice 24 (.int .i64 (len : Int)) (.int .i64 (len : Int))).run Tryd.prog w = .ok (.slice (some ⟨w.heap.size, 0, none⟩) len len) (w.alloc (.cells c 3)) := by
  obtain ⟨i0, hi, hz0, hz1, hz2⟩ := info_parts info_int
  have h := run_make (P := Tryd.prog) w 24 3 i0 _ Tryd.underlying24 hi hz0 .i64 .i64 len len (by omega) (Int.le_refl _) (by rw [hz2]; omega) (by omega)
  rw [hz1] at h
  simp only [Int.toNat_natCast] at h
  exact ⟨_, by rw [size_madeCells]; omega, h⟩

set_option maxRecDepth 100000 in
theorem toIntS_none (a : Option Addr) (cap : Nat) (w : World) :
    Calls Tryd.prog 21 #[.slice a 0 cap] w fun e w' => e = .returned (.slice (some ⟨w.heap.size, 0, none⟩) 0 0) ∧ Below w.heap.size w w' := by
  obtain ⟨c, hcs, hmk⟩ := made_ints 0 (by omega) w
  simp only [Int.cast_ofNat_Int] at hmk
  go_enter Tryd.func21, Tryd.ntmps21
  go_wp2
  refine wp_loop_rounds 1 ?_
  rw [rounds_succ]
  go_wp2
  go_ret
  exact ⟨rfl, (Below.refl _ _).alloc (Nat.le_refl _) _⟩

set_option maxHeartbeats 1000000 in
set_option maxRecDepth 100000 in
theorem toIntS_rows (b off cap : Nat) (bs : List Int) (w : World) (hb : b < w.heap.size) (hn : ∀ k, k < bs.length → w.cell? ⟨b, off + k, none⟩ = some (.int .i64 (bs.getD k 0))) (hm : bs.length ≤ 1048576) :
    Calls Tryd.prog 21 #[.slice (some ⟨b, off, none⟩) bs.length cap] w fun e w' => e = .returned (.slice (some ⟨w.heap.size, 0, none⟩) bs.length bs.length) ∧ CellRow 3 w' w.heap.size bs.length (intCells bs) ∧ Below w.heap.size w w' := by
  obtain ⟨len, hlen⟩ : ∃ len, bs.length = len := ⟨_, rfl⟩
  have HM : Hid (len ≤ 1048576) := by show _ ≤ _; omega
  have HN : Hid (∀ k, k < len → w.cell? ⟨b, off + k, none⟩ = some (.int .i64 (bs.getD k 0))) := by rw [← hlen]; exact hn
  rw [hlen]
  clear hlen hm hn
  obtain ⟨c, hcs, hmk⟩ := made_ints len HM.out w
  have hrow := World.rowIs_alloc w c 3 (fun i => c.getD i undef) (fun i hi => by simp [hi])
  rw [hcs] at hrow
  go_enter Tryd.func21, Tryd.ntmps21
  go_wp2_with fail
  clear hmk
  go_loopw [4] (fun i wr => ∃ (k : Nat) (f : Nat → Value), k ≤ len ∧ i = .int .i64 k ∧ Rw wr w.heap.size 3 len f len ∧ Hid (∀ j, j < k → f j = intCells bs j) ∧ Below w.heap.size w wr) (fun i _ => len - (intOf i).toNat)
  case atStart => exact ⟨0, _, Nat.zero_le _, rfl, rw_of_row hrow _, fun j hj => by omega, (Below.refl _ _).alloc (Nat.le_refl _) _⟩
  case round =>
    obtain ⟨k, f, hk, rfl, hown, HF, hnx⟩ := hrel
    clear hrow
    by_cases hkl : (k : Int) < (len : Int)
    · have c0 := (hnx.cell (p := ⟨b, off + k, none⟩) hb).trans (HN.out k (by omega))
      have HE : Hid (intCells bs k = .int .i64 (bs.getD k 0)) := rfl
      generalize bs.getD k 0 = n at c0 HE
      have q0 := hown.cell (i := k) (by omega)
      have z0 := hown.frozen k (by omega)
      go_wp2_with fail
      have hs : len - (intOf (.int .i64 ((k + 1 : Nat) : Int))).toNat < len - (intOf (.int .i64 (k : Int))).toNat := by simp only [intOf, Int.toNat_natCast]; omega
      try rw [wrap_inc (n := len) (by omega) HM.out]
      refine ⟨⟨k + 1, _, by omega, rfl, hown.set k _, row_more HF.out (fun i hi => by rw [if_neg (by omega)]) ?_, hnx.setCell (by simp) _⟩, hs⟩
      rw [if_pos rfl, HE.out]
    · have hkn : k = len := by omega
      subst hkn
      go_wp2_with fail
      go_ret
      exact ⟨rfl, ⟨_, f, hown, Nat.le_refl _, HF.out⟩, hnx⟩

theorem toIntS_any {v : Value} {bs : List Int} (w : World) (hv : IntSlice w v bs) (hm : bs.length ≤ 1048576) :
    Calls Tryd.prog 21 #[v] w fun e w' => (e = .returned (.slice (some ⟨w.heap.size, 0, none⟩) bs.length bs.length) ∧ SliceR 3 1 w.heap.size w' (.slice (some ⟨w.heap.size, 0, none⟩) bs.length bs.length) bs.length (intCells bs)) ∧ Below w.heap.size w w' := by
  obtain ⟨a, cap, rfl, h⟩ := hv
  by_cases he : bs = []
  · subst he
    refine (toIntS_none a cap w).mono ?_
    rintro e w' ⟨rfl, h2⟩
    exact ⟨⟨rfl, _, _, rfl, Or.inl rfl⟩, h2⟩
  · obtain ⟨b, off, rfl, hb, hn⟩ := h.resolve_left he
    refine (toIntS_rows b off cap bs w hb hn hm).mono ?_
    rintro e w' ⟨rfl, h1, h2⟩
    exact ⟨⟨rfl, _, _, rfl, Or.inr ⟨_, rfl, Nat.le_refl _, by simpa using h1⟩⟩, h2⟩

theorem set_cells {W : World} {b : Nat} {c : Array Value} {t : TypeId} (e : W.heap[b]? = some (.cells c t)) (i : Nat) (x : Value) : (W.setCell ⟨b, i, none⟩ x).heap[b]? = some (.cells (c.setIfInBounds i x) t) := by
  rw [setCell_eq_setRow W b i c t (0, 0) x e]
  exact setRow_heap W b _ _ t _ e

theorem Tryd.cellsInt : Tryd.prog.cellsOf 3 = 1 := by kernel_rfl
theorem Tryd.cellsInts : Tryd.prog.cellsOf 24 = 1 := by kernel_rfl

theorem spotless {W : World} {a : Addr} {v : Value} (h : W.cell? a = some v) : a.spot = none := by
  unfold World.cell? at h
  split at h
  · by_cases hs : a.spot.isSome
    · simp [hs] at h
    · simpa using hs
  · cases h

theorem block_in {W : World} {a : Addr} {v : Value} (h : W.cell? a = some v) : a.block < W.heap.size := by
  unfold World.cell? at h
  split at h
  · rename_i e
    obtain ⟨hlt, _⟩ := Array.getElem?_eq_some_iff.mp e
    exact hlt
  · cases h

section
open Go.Deep Go.ChangeShapes Go.WideShapes
variable {H : Type} {enc : TypeId × Value → H} {W : World} {sp : Nat → Bool} {held : Bool}

theorem open_intS {fuel : Nat} {v : Value} {x : DataW H × List MemPlace} (h : DataW.trod enc Tryd.prog W 0 sp held fuel 24 [v] = some x) :
    ∃ bs, IntSlice W v bs ∧ bs.length ≤ maxLen := by
  rcases open_ints Tryd.underlying24 Tryd.underlying3 Tryd.cellsInt h with ⟨hc, _⟩ | ⟨a, len, cap, zs, hc, _, hl, hm, hz, _, hcell, _⟩
  · simp at hc
    subst hc
    exact ⟨[], ⟨none, 0, rfl, Or.inl rfl⟩, by simp⟩
  · simp at hc
    subst hc
    have hlm : len ≤ zs.length := by rw [hz]; split <;> omega
    have htl : (zs.take len).length = len := by rw [List.length_take]; omega
    refine ⟨zs.take len, ⟨some a, cap, by rw [htl], ?_⟩, by rw [htl]; omega⟩
    by_cases h0 : len = 0
    · subst h0
      exact Or.inl rfl
    · have hc0 := hcell 0 (by omega)
      have hs := spotless hc0
      have hb := block_in hc0
      obtain ⟨b, off, spot⟩ := a
      have hspot : spot = none := by simpa [Addr.add] using hs
      subst hspot
      refine Or.inr ⟨b, off, rfl, by simpa [Addr.add] using hb, fun i hi => ?_⟩
      rw [htl] at hi
      have hci := hcell i (by omega)
      have e : (Addr.add ⟨b, off, none⟩ i) = ⟨b, off + i, none⟩ := by
        unfold Addr.add
        split
        · rename_i h
          subst h
          rfl
        · rfl
      rw [e] at hci
      rw [hci]
      simp [List.getD, hi]
theorem open_intL {fuel : Nat} {v : Value} {x : DataW H × List MemPlace} (h : DataW.trod enc Tryd.prog W 0 sp held fuel 24 [v] = some x) :
    ∃ bs, IntSlice W v bs ∧ bs.length ≤ maxLen ∧ ∀ n ∈ bs, (Lit.int .i64 n).wf = true := by
  rcases open_ints Tryd.underlying24 Tryd.underlying3 Tryd.cellsInt h with ⟨hc, _⟩ | ⟨a, len, cap, zs, hc, _, hl, hm, hz, _, hcell, hwf⟩
  · simp at hc
    subst hc
    exact ⟨[], ⟨none, 0, rfl, Or.inl rfl⟩, by simp, fun n hn => by cases hn⟩
  · simp at hc
    subst hc
    have hlm : len ≤ zs.length := by rw [hz]; split <;> omega
    have htl : (zs.take len).length = len := by rw [List.length_take]; omega
    refine ⟨zs.take len, ⟨some a, cap, by rw [htl], ?_⟩, by rw [htl]; omega, fun n hn => hwf n (List.mem_of_mem_take hn)⟩
    by_cases h0 : len = 0
    · subst h0
      exact Or.inl rfl
    · have hc0 := hcell 0 (by omega)
      have hs := spotless hc0
      have hb := block_in hc0
      obtain ⟨b, off, spot⟩ := a
      have hspot : spot = none := by simpa [Addr.add] using hs
      subst hspot
      refine Or.inr ⟨b, off, rfl, by simpa [Addr.add] using hb, fun i hi => ?_⟩
      rw [htl] at hi
      have hci := hcell i (by omega)
      have e : (Addr.add ⟨b, off, none⟩ i) = ⟨b, off + i, none⟩ := by
        unfold Addr.add
        split
        · rename_i h
          subst h
          rfl
        · rfl
      rw [e] at hci
      rw [hci]
      simp [List.getD, hi]
end
end Go.Proofs.YtnoejhfpplddfaaDoor
