/- A copy of numbers and of a heap, as the law makes one; how a heap is handed in. -/
import Derived.Test.YtnoobonlmfgfhaaHeapMem
import Derived.OpenShut
namespace Go.Proofs.Ytnoobonlmfgfhaa
open Go.RowKit

theorem made_ints (len : Nat) (hl : len ≤ 1048576) (w : World) : ∃ c : Array Value, c.size = len ∧
    (Instr.makeSlice 22 (.int .i64 (len : Int)) (.int .i64 (len : Int))).run Try.prog w = .ok (.slice (some ⟨w.heap.size, 0, none⟩) len len) (w.alloc (.cells c 3)) := by
  obtain ⟨i0, hi, hz0, hz1, hz2⟩ := info_parts info_int
  have h := run_make (P := Try.prog) w 22 3 i0 _ Try.underlying22 hi hz0 .i64 .i64 len len (by omega) (Int.le_refl _) (by rw [hz2]; omega) (by omega)
  rw [hz1] at h
  simp only [Int.toNat_natCast] at h
  exact ⟨_, by rw [size_madeCells]; omega, h⟩

set_option maxRecDepth 100000 in
theorem toIntS_none (a : Option Addr) (cap : Nat) (w : World) :
    Calls Try.prog 15 #[.slice a 0 cap] w fun e w' => e = .returned (.slice (some ⟨w.heap.size, 0, none⟩) 0 0) ∧ Below w.heap.size w w' := by
  obtain ⟨c, hcs, hmk⟩ := made_ints 0 (by omega) w
  simp only [Int.cast_ofNat_Int] at hmk
  go_enter Try.func15, Try.ntmps15
  go_wp2
  refine wp_loop_rounds 1 ?_
  rw [rounds_succ]
  go_wp2
  go_ret
  exact ⟨rfl, (Below.refl _ _).alloc (Nat.le_refl _) _⟩

set_option maxHeartbeats 1000000 in
set_option maxRecDepth 100000 in
theorem toIntS_rows (b off cap : Nat) (bs : List Int) (w : World) (hb : b < w.heap.size) (hn : ∀ k, k < bs.length → w.cell? ⟨b, off + k, none⟩ = some (.int .i64 (bs.getD k 0))) (hm : bs.length ≤ 1048576) :
    Calls Try.prog 15 #[.slice (some ⟨b, off, none⟩) bs.length cap] w fun e w' => e = .returned (.slice (some ⟨w.heap.size, 0, none⟩) bs.length bs.length) ∧ CellRow 3 w' w.heap.size bs.length (intCells bs) ∧ Below w.heap.size w w' := by
  obtain ⟨len, hlen⟩ : ∃ len, bs.length = len := ⟨_, rfl⟩
  have HM : Hid (len ≤ 1048576) := by show _ ≤ _; omega
  have HN : Hid (∀ k, k < len → w.cell? ⟨b, off + k, none⟩ = some (.int .i64 (bs.getD k 0))) := by rw [← hlen]; exact hn
  rw [hlen]
  clear hlen hm hn
  obtain ⟨c, hcs, hmk⟩ := made_ints len HM.out w
  have hrow := World.rowIs_alloc w c 3 (fun i => c.getD i undef) (fun i hi => by simp [hi])
  rw [hcs] at hrow
  go_enter Try.func15, Try.ntmps15
  go_wp2_with fail
  clear hmk
  go_loopw [4] (fun i wr => ∃ (k : Nat) (f : Nat → Value), k ≤ len ∧ i = .int .i64 k ∧ Rw wr w.heap.size 3 len f len ∧ Hid (∀ j, j < k → f j = intCells bs j) ∧ Below w.heap.size w wr) (fun i _ => len - (intOf i).toNat)
  case atStart => exact ⟨0, _, Nat.zero_le _, rfl, rw_of_row hrow _, fun j hj => by omega, (Below.refl _ _).alloc (Nat.le_refl _) _⟩
  case round =>
    obtain ⟨k, f, hk, rfl, hown, HF, hnx⟩ := hrel
    clear hrow
    by_cases hkl : (k : Int) < (len : Int)
    · have c0 := (hnx.cell (p := ⟨b, off + k, none⟩) hb).trans (HN.out k (by omega))
      have HE : Hid (intCells bs k = .int .i64 (bs.getD k 0)) := rfl
      generalize bs.getD k 0 = n at c0 HE
      have q0 := hown.cell (i := k) (by omega)
      have z0 := hown.frozen k (by omega)
      go_wp2_with fail
      have hs : len - (intOf (.int .i64 ((k + 1 : Nat) : Int))).toNat < len - (intOf (.int .i64 (k : Int))).toNat := by simp only [intOf, Int.toNat_natCast]; omega
      try rw [wrap_inc (n := len) (by omega) HM.out]
      refine ⟨⟨k + 1, _, by omega, rfl, hown.set k _, row_more HF.out (fun i hi => by rw [if_neg (by omega)]) ?_, hnx.setCell (by simp) _⟩, hs⟩
      rw [if_pos rfl, HE.out]
    · have hkn : k = len := by omega
      subst hkn
      go_wp2_with fail
      go_ret
      exact ⟨rfl, ⟨_, f, hown, Nat.le_refl _, HF.out⟩, hnx⟩

theorem toIntS_any {v : Value} {bs : List Int} (w : World) (hv : IntSlice w v bs) (hm : bs.length ≤ 1048576) :
    Calls Try.prog 15 #[v] w fun e w' => (e = .returned (.slice (some ⟨w.heap.size, 0, none⟩) bs.length bs.length) ∧ SliceR 3 1 w.heap.size w' (.slice (some ⟨w.heap.size, 0, none⟩) bs.length bs.length) bs.length (intCells bs)) ∧ Below w.heap.size w w' := by
  obtain ⟨a, cap, rfl, h⟩ := hv
  by_cases he : bs = []
  · subst he
    refine (toIntS_none a cap w).mono ?_
    rintro e w' ⟨rfl, h2⟩
    exact ⟨⟨rfl, _, _, rfl, Or.inl rfl⟩, h2⟩
  · obtain ⟨b, off, rfl, hb, hn⟩ := h.resolve_left he
    refine (toIntS_rows b off cap bs w hb hn hm).mono ?_
    rintro e w' ⟨rfl, h1, h2⟩
    exact ⟨⟨rfl, _, _, rfl, Or.inr ⟨_, rfl, Nat.le_refl _, by simpa using h1⟩⟩, h2⟩

theorem set_cells {W : World} {b : Nat} {c : Array Value} {t : TypeId} (e : W.heap[b]? = some (.cells c t)) (i : Nat) (x : Value) : (W.setCell ⟨b, i, none⟩ x).heap[b]? = some (.cells (c.setIfInBounds i x) t) := by
  rw [setCell_eq_setRow W b i c t (0, 0) x e]
  exact setRow_heap W b _ _ t _ e

theorem set10 (a0 a1 a2 a3 a4 a5 a6 a7 a8 a9 x0 x1 x2 x3 x4 x5 x6 x7 x8 x9 : Value) : ((((((((((#[a0, a1, a2, a3, a4, a5, a6, a7, a8, a9].setIfInBounds 0 x0).setIfInBounds 1 x1).setIfInBounds 2 x2).setIfInBounds 3 x3).setIfInBounds 4 x4).setIfInBounds 5 x5).setIfInBounds 6 x6).setIfInBounds 7 x7).setIfInBounds 8 x8).setIfInBounds 9 x9) = #[x0, x1, x2, x3, x4, x5, x6, x7, x8, x9] := by
  simp

/-- A heap is stored into a block of its kind. -/
theorem heap_use {W : World} {b : Nat} {v : Value} {h : HpN} (e : HeapBlk W b v h) (v' : Value) (h' : HpN) (Q : World → Prop)
    (k : ∀ W' : World, HeapBlk W' b v' h' → (∀ B, B ≤ b → Below B W W') → W.heap.size = W'.heap.size → (∀ g, g ≠ b → W'.heap[g]? = W.heap[g]?) → Q W') : Q ((((((((((W.setCell ⟨b, 0, none⟩ v').setCell ⟨b, 1, none⟩ (.int .i64 h'.size)).setCell ⟨b, 2, none⟩ (.int .i64 h'.to)).setCell ⟨b, 3, none⟩ (.int .i64 h'.bottom)).setCell ⟨b, 4, none⟩ (.int .i64 h'.top)).setCell ⟨b, 5, none⟩ (.int .i64 h'.scan)).setCell ⟨b, 6, none⟩ (.int .i64 h'.fb)).setCell ⟨b, 7, none⟩ (.int .i64 h'.ft)).setCell ⟨b, 8, none⟩ (.int .i64 h'.flips)).setCell ⟨b, 9, none⟩ (.int .i64 h'.touched)) := by
  refine k _ ?_ (fun B hB => ?_) ?_ (fun g hg => ?_)
  · have e1 := set_cells (set_cells (set_cells (set_cells (set_cells (set_cells (set_cells (set_cells (set_cells (set_cells e 0 v') 1 (.int .i64 h'.size)) 2 (.int .i64 h'.to)) 3 (.int .i64 h'.bottom)) 4 (.int .i64 h'.top)) 5 (.int .i64 h'.scan)) 6 (.int .i64 h'.fb)) 7 (.int .i64 h'.ft)) 8 (.int .i64 h'.flips)) 9 (.int .i64 h'.touched)
    rw [set10] at e1
    exact e1
  · exact ((((((((((Below.refl B W).setCell hB _).setCell hB _).setCell hB _).setCell hB _).setCell hB _).setCell hB _).setCell hB _).setCell hB _).setCell hB _).setCell hB _
  · simp [World.setCell]
  · have hh : ∀ (X : World) (i : Nat) (x : Value), (X.setCell ⟨b, i, none⟩ x).heap[g]? = X.heap[g]? := fun X i x => Below.heap_setCell X ⟨b, i, none⟩ x g hg
    simp only [hh]

theorem chain_keep (W : World) (c : Nat) (x0 x1 x2 x3 x4 x5 x6 x7 x8 x9 : Value) : (∀ B, B ≤ c → Below B W ((((((((((W.setCell ⟨c, 0, none⟩ x0).setCell ⟨c, 1, none⟩ x1).setCell ⟨c, 2, none⟩ x2).setCell ⟨c, 3, none⟩ x3).setCell ⟨c, 4, none⟩ x4).setCell ⟨c, 5, none⟩ x5).setCell ⟨c, 6, none⟩ x6).setCell ⟨c, 7, none⟩ x7).setCell ⟨c, 8, none⟩ x8).setCell ⟨c, 9, none⟩ x9)) ∧ ∀ g, g ≠ c → ((((((((((W.setCell ⟨c, 0, none⟩ x0).setCell ⟨c, 1, none⟩ x1).setCell ⟨c, 2, none⟩ x2).setCell ⟨c, 3, none⟩ x3).setCell ⟨c, 4, none⟩ x4).setCell ⟨c, 5, none⟩ x5).setCell ⟨c, 6, none⟩ x6).setCell ⟨c, 7, none⟩ x7).setCell ⟨c, 8, none⟩ x8).setCell ⟨c, 9, none⟩ x9).heap[g]? = W.heap[g]? := by
  refine ⟨fun B hB => ?_, fun g hg => ?_⟩
  · exact ((((((((((Below.refl B W).setCell hB _).setCell hB _).setCell hB _).setCell hB _).setCell hB _).setCell hB _).setCell hB _).setCell hB _).setCell hB _).setCell hB _
  · have hh : ∀ (X : World) (i : Nat) (x : Value), (X.setCell ⟨c, i, none⟩ x).heap[g]? = X.heap[g]? := fun X i x => Below.heap_setCell X ⟨c, i, none⟩ x g hg
    simp only [hh]

theorem three_kept {w w2 : World} {o o' o'' : Obj} (h : Below (((w.alloc o).alloc o').alloc o'').heap.size (((w.alloc o).alloc o').alloc o'') w2) : w2.heap[w.heap.size]? = some o ∧ w2.heap[w.heap.size + 1]? = some o' ∧ w2.heap[w.heap.size + 2]? = some o'' ∧ Below w.heap.size w w2 := by
  have s2 : ((w.alloc o).alloc o').heap.size = w.heap.size + 2 := by simp
  obtain ⟨h1, h2⟩ := one_kept h
  obtain ⟨h3, h4, h5⟩ := two_kept h2
  exact ⟨h3, h4, by rw [← s2]; exact h1, h5⟩

set_option maxHeartbeats 2000000 in
set_option maxRecDepth 100000 in
theorem toHeap_calls {v : Value} {bs : List Int} (h : HpN) (w : World) (hv : IntSlice w v bs) (hm : bs.length ≤ 1048576) :
    Calls Try.prog 11 #[heapV v h] w fun e w' => (∃ g, e = .returned (heapV (.slice (some ⟨g, 0, none⟩) bs.length bs.length) h) ∧ SliceR 3 1 w.heap.size w' (.slice (some ⟨g, 0, none⟩) bs.length bs.length) bs.length (intCells bs)) ∧ Below w.heap.size w w' := by
  have HV := hid hv
  have HM := hid hm
  clear hm
  obtain ⟨ad, cap, rfl, _⟩ := hv
  obtain ⟨g1, g2, g3, g4, g5, g6, g7, g8, g9⟩ := h
  unfold heapV
  dsimp only
  go_enter Try.func11, Try.ntmps11
  go_wp2_with fail
  refine (toIntS_any _ (HV.out.below ((((Below.refl _ _).alloc (Nat.le_refl _) _).alloc (by simp) _).alloc (by simp; omega) _)) HM.out).mono ?_
  rintro e W1 ⟨⟨rfl, hsl⟩, hb1⟩
  obtain ⟨eA, eR, eO, hbw⟩ := three_kept hb1
  have HSl := hid (hsl.mono (show w.heap.size ≤ _ by simp; omega))
  have s3 : (((w.alloc (.cells #[.slice ad bs.length cap, .int .i64 g1, .int .i64 g2, .int .i64 g3, .int .i64 g4, .int .i64 g5, .int .i64 g6, .int .i64 g7, .int .i64 g8, .int .i64 g9] 24)).alloc (.cells #[.slice none 0 0, .int .i64 0, .int .i64 0, .int .i64 0, .int .i64 0, .int .i64 0, .int .i64 0, .int .i64 0, .int .i64 0, .int .i64 0] 27)).alloc (.cells #[.slice none 0 0, .int .i64 0, .int .i64 0, .int .i64 0, .int .i64 0, .int .i64 0, .int .i64 0, .int .i64 0, .int .i64 0, .int .i64 0] 27)).heap.size = w.heap.size + 3 := by simp
  rw [s3] at HSl ⊢
  have a0 := cell_of_heap eA 0
  have a1 := cell_of_heap eA 1
  have a2 := cell_of_heap eA 2
  have a3 := cell_of_heap eA 3
  have a4 := cell_of_heap eA 4
  have a5 := cell_of_heap eA 5
  have a6 := cell_of_heap eA 6
  have a7 := cell_of_heap eA 7
  have a8 := cell_of_heap eA 8
  have a9 := cell_of_heap eA 9
  obtain ⟨o0, o1, o2, o3, o4, o5, o6, o7, o8, o9⟩ := HeapBlk.cells (h := ⟨0, 0, 0, 0, 0, 0, 0, 0, 0⟩) eO
  obtain ⟨r0, r1, r2, r3, r4, r5, r6, r7, r8, r9⟩ := HeapBlk.cells (h := ⟨0, 0, 0, 0, 0, 0, 0, 0, 0⟩) eR
  have fo0 := frozen_of_heap eO 0
  have fo1 := frozen_of_heap eO 1
  have fo2 := frozen_of_heap eO 2
  have fo3 := frozen_of_heap eO 3
  have fo4 := frozen_of_heap eO 4
  have fo5 := frozen_of_heap eO 5
  have fo6 := frozen_of_heap eO 6
  have fo7 := frozen_of_heap eO 7
  have fo8 := frozen_of_heap eO 8
  have fo9 := frozen_of_heap eO 9
  have fr0 := frozen_of_heap eR 0
  have fr1 := frozen_of_heap eR 1
  have fr2 := frozen_of_heap eR 2
  have fr3 := frozen_of_heap eR 3
  have fr4 := frozen_of_heap eR 4
  have fr5 := frozen_of_heap eR 5
  have fr6 := frozen_of_heap eR 6
  have fr7 := frozen_of_heap eR 7
  have fr8 := frozen_of_heap eR 8
  have fr9 := frozen_of_heap eR 9
  dsimp only at o0 o1 o2 o3 o4 o5 o6 o7 o8 o9 r0 r1 r2 r3 r4 r5 r6 r7 r8 r9
  simp at a0 a1 a2 a3 a4 a5 a6 a7 a8 a9
  have HR := hid (show HeapBlk W1 (w.heap.size + 1) _ ⟨0, 0, 0, 0, 0, 0, 0, 0, 0⟩ from eR)
  have HB := hid hbw
  clear eA eR eO hbw hb1 hsl s3 HV
  go_wp2_with fail
  have hck := chain_keep W1 (w.heap.size + 1 + 1) (.slice (some ⟨w.heap.size + 3, 0, none⟩) bs.length bs.length) (.int .i64 g1) (.int .i64 g2) (.int .i64 g3) (.int .i64 g4) (.int .i64 g5) (.int .i64 g6) (.int .i64 g7) (.int .i64 g8) (.int .i64 g9)
  refine heap_use (h := ⟨0, 0, 0, 0, 0, 0, 0, 0, 0⟩) ((hck.2 (w.heap.size + 1) (by omega)).trans HR.out) (.slice (some ⟨w.heap.size + 3, 0, none⟩) bs.length bs.length) ⟨g1, g2, g3, g4, g5, g6, g7, g8, g9⟩ _ ?_
  intro W9 hL9 hb9 hsz9 hoth9
  obtain ⟨d0, d1, d2, d3, d4, d5, d6, d7, d8, d9⟩ := hL9.cells
  dsimp only at d0 d1 d2 d3 d4 d5 d6 d7 d8 d9
  have hbel := (HB.out.trans (hck.1 _ (by omega))).trans (hb9 w.heap.size (by omega))
  refine bodyPost_ret (v := .agg #[.slice (some ⟨w.heap.size + 3, 0, none⟩) bs.length bs.length, .int .i64 g1, .int .i64 g2, .int .i64 g3, .int .i64 g4, .int .i64 g5, .int .i64 g6, .int .i64 g7, .int .i64 g8, .int .i64 g9]) (by simp [results, Try.results11, go_sem, d0, d1, d2, d3, d4, d5, d6, d7, d8, d9]) rfl ⟨⟨_, rfl, ?_⟩, hbel⟩
  obtain ⟨ad', cap', e, hh⟩ := HSl.out
  refine ⟨ad', cap', e, hh.imp id ?_⟩
  rintro ⟨g, rfl, hB, hr⟩
  cases e
  refine ⟨_, rfl, hB, hr.of_block ?_⟩
  exact (hoth9 _ (by omega)).trans (hck.2 _ (by omega))

set_option maxRecDepth 100000 in
theorem szIntS_calls (ad : Option Addr) (n cap : Nat) (w : World) (hm : n ≤ maxLen) :
    Calls Try.prog 33 #[.slice ad n cap, .int .i64 1048576] w fun e w' => (∃ r : Int, e = .returned (.int .i64 r) ∧ (r < 0 ∨ (0 ≤ r ∧ n ≤ 1048576))) ∧ w = w' := by
  have h2 : wrap64 ((1048576 : Int) - (n : Int)) = 1048576 - (n : Int) := by unfold maxLen at hm; unfold wrap64; omega
  have H2 := hid h2
  clear h2 hm
  go_enter Try.func33, Try.ntmps33
  go_wp2_with fail
  · go_ret
    exact ⟨⟨-1, rfl, Or.inl (by decide)⟩, rfl⟩
  · rename_i hr
    go_ret
    refine ⟨⟨_, rfl, Or.inr ⟨hr, ?_⟩⟩, rfl⟩
    rw [H2.out] at hr
    omega

set_option maxRecDepth 100000 in
theorem szHeap_calls {v : Value} {bs : List Int} (h : HpN) (w : World) (hv : IntSlice w v bs) (hm : bs.length ≤ maxLen) :
    Calls Try.prog 9 #[heapV v h, .int .i64 1048576] w fun e w' => (∃ r : Int, e = .returned (.int .i64 r) ∧ (r < 0 ∨ (0 ≤ r ∧ bs.length ≤ 1048576))) ∧ Below w.heap.size w w' := by
  have HS := hid (fun (ad : Option Addr) (cap : Nat) (w : World) => szIntS_calls ad bs.length cap w hm)
  clear hm
  obtain ⟨ad, cap, rfl, _⟩ := hv
  obtain ⟨g1, g2, g3, g4, g5, g6, g7, g8, g9⟩ := h
  unfold heapV
  dsimp only
  go_enter Try.func9, Try.ntmps9
  go_wp2_with fail
  refine (HS.out _ _ _).mono ?_
  rintro e w1 ⟨⟨r, rfl, hr⟩, rfl⟩
  have HR := hid hr
  clear hr HS
  by_cases hn : r < 0
  · go_wp2_with fail
    go_ret
    exact ⟨⟨-1, rfl, Or.inl (by decide)⟩, (Below.refl _ _).alloc (Nat.le_refl _) _⟩
  · go_wp2_with fail
    go_ret
    exact ⟨⟨r, rfl, HR.out⟩, (Below.refl _ _).alloc (Nat.le_refl _) _⟩

theorem Try.cellsHeap : Try.prog.cellsOf 24 = 10 := by kernel_rfl
theorem Try.cellsInt : Try.prog.cellsOf 3 = 1 := by kernel_rfl
theorem Try.cellsInts : Try.prog.cellsOf 22 = 1 := by kernel_rfl

theorem spotless {W : World} {a : Addr} {v : Value} (h : W.cell? a = some v) : a.spot = none := by
  unfold World.cell? at h
  split at h
  · by_cases hs : a.spot.isSome
    · simp [hs] at h
    · simpa using hs
  · cases h

theorem block_in {W : World} {a : Addr} {v : Value} (h : W.cell? a = some v) : a.block < W.heap.size := by
  unfold World.cell? at h
  split at h
  · rename_i e
    obtain ⟨hlt, _⟩ := Array.getElem?_eq_some_iff.mp e
    exact hlt
  · cases h

section
open Go.Deep Go.ChangeShapes Go.WideShapes
variable {H : Type} {enc : TypeId × Value → H} {W : World} {sp : Nat → Bool} {held : Bool}

theorem open_intS {fuel : Nat} {v : Value} {x : DataW H × List MemPlace} (h : DataW.trod enc Try.prog W 0 sp held fuel 22 [v] = some x) :
    ∃ bs, IntSlice W v bs ∧ bs.length ≤ maxLen := by
  rcases open_ints Try.underlying22 Try.underlying3 Try.cellsInt h with ⟨hc, _⟩ | ⟨a, len, cap, zs, hc, _, hl, hm, hz, _, hcell, _⟩
  · simp at hc
    subst hc
    exact ⟨[], ⟨none, 0, rfl, Or.inl rfl⟩, by simp⟩
  · simp at hc
    subst hc
    have hlm : len ≤ zs.length := by rw [hz]; split <;> omega
    have htl : (zs.take len).length = len := by rw [List.length_take]; omega
    refine ⟨zs.take len, ⟨some a, cap, by rw [htl], ?_⟩, by rw [htl]; omega⟩
    by_cases h0 : len = 0
    · subst h0
      exact Or.inl rfl
    · have hc0 := hcell 0 (by omega)
      have hs := spotless hc0
      have hb := block_in hc0
      obtain ⟨b, off, spot⟩ := a
      have hspot : spot = none := by simpa [Addr.add] using hs
      subst hspot
      refine Or.inr ⟨b, off, rfl, by simpa [Addr.add] using hb, fun i hi => ?_⟩
      rw [htl] at hi
      have hci := hcell i (by omega)
      have e : (Addr.add ⟨b, off, none⟩ i) = ⟨b, off + i, none⟩ := by
        unfold Addr.add
        split
        · rename_i h
          subst h
          rfl
        · rfl
      rw [e] at hci
      rw [hci]
      simp [List.getD, hi]

set_option maxRecDepth 100000 in
/-- A heap that is handed in, out of its cells. -/
theorem open_heap {fuel : Nat} {cs : List Value} {x : DataW H × List MemPlace} (h : DataW.trod enc Try.prog W 0 sp held fuel 24 cs = some x) :
    ∃ v bs, ∃ n : HpN, cs = [v, .int .i64 n.size, .int .i64 n.to, .int .i64 n.bottom, .int .i64 n.top, .int .i64 n.scan, .int .i64 n.fb, .int .i64 n.ft, .int .i64 n.flips, .int .i64 n.touched] ∧ IntSlice W v bs ∧ bs.length ≤ maxLen := by
  obtain ⟨xs, k, hk, hxy, hcl, hxl, hf⟩ := DataW.trod_struct Try.underlying24 h
  rw [Try.cellsHeap] at hcl
  match xs, hxl, cs, hcl with
  | [y0, y1, y2, y3, y4, y5, y6, y7, y8, y9], _, [v0, v1, v2, v3, v4, v5, v6, v7, v8, v9], _ =>
    have g0 := hf 0 _ rfl
    have g1 := hf 1 _ rfl
    have g2 := hf 2 _ rfl
    have g3 := hf 3 _ rfl
    have g4 := hf 4 _ rfl
    have g5 := hf 5 _ rfl
    have g6 := hf 6 _ rfl
    have g7 := hf 7 _ rfl
    have g8 := hf 8 _ rfl
    have g9 := hf 9 _ rfl
    simp [Try.cellsInt, Try.cellsInts] at g0 g1 g2 g3 g4 g5 g6 g7 g8 g9
    obtain ⟨bs, hb, hl⟩ := open_intS g0
    obtain ⟨i1, e1, _⟩ := DataW.trod_int Try.underlying3 g1
    obtain ⟨i2, e2, _⟩ := DataW.trod_int Try.underlying3 g2
    obtain ⟨i3, e3, _⟩ := DataW.trod_int Try.underlying3 g3
    obtain ⟨i4, e4, _⟩ := DataW.trod_int Try.underlying3 g4
    obtain ⟨i5, e5, _⟩ := DataW.trod_int Try.underlying3 g5
    obtain ⟨i6, e6, _⟩ := DataW.trod_int Try.underlying3 g6
    obtain ⟨i7, e7, _⟩ := DataW.trod_int Try.underlying3 g7
    obtain ⟨i8, e8, _⟩ := DataW.trod_int Try.underlying3 g8
    obtain ⟨i9, e9, _⟩ := DataW.trod_int Try.underlying3 g9
    simp at e1 e2 e3 e4 e5 e6 e7 e8 e9
    subst e1 e2 e3 e4 e5 e6 e7 e8 e9
    exact ⟨v0, bs, ⟨i1, i2, i3, i4, i5, i6, i7, i8, i9⟩, rfl, hb, hl⟩
end
end Go.Proofs.Ytnoobonlmfgfhaa
