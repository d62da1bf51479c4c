/- An instruction out of its bytes, as the program makes it. -/
import Derived.Test.YtmjcifaihmecmaaSpecReadA
import Derived.Deep.RegionHeld3
namespace Go.Proofs.Ytmjcifaihmecmaa
open Go.RowKit

/-- The numbers read so far. -/
def upTo (r : List Int) (k j : Nat) : Int := if j < k then numAt r (4 * j) else 0

theorem bits4w (x0 x1 x2 x3 : Int) (h0 : IsB x0) (h1 : IsB x1) (h2 : IsB x2) (h3 : IsB x3) :
    IntKind.i64.wrap (IntKind.i32.wrap (bits BinOp.or IntKind.u32 (bits BinOp.or IntKind.u32 (bits BinOp.or IntKind.u32 (IntKind.u32.wrap (IntKind.u32.wrap x0 * 16777216)) (IntKind.u32.wrap (IntKind.u32.wrap x1 * 65536))) (IntKind.u32.wrap (IntKind.u32.wrap x2 * 256))) (IntKind.u32.wrap x3))) = num4 x0 x1 x2 x3 := by
  simp only [IntKind.wrap_u32']
  rw [bits4 x0 x1 x2 x3 h0 h1 h2 h3, IntKind.wrap_i64, IntKind.wrap_i32]
  unfold num4 wrap32
  omega

theorem upTo_set {w : World} {g k : Nat} {r : List Int} {t : TypeId} (hk : k < 3) (h : w.heap[g]? = some (.cells #[.int .i64 (upTo r k 0), .int .i64 (upTo r k 1), .int .i64 (upTo r k 2)] t)) :
    (w.setCell ⟨g, k, none⟩ (.int .i64 (numAt r (k * 4)))).heap[g]? = some (.cells #[.int .i64 (upTo r (k + 1) 0), .int .i64 (upTo r (k + 1) 1), .int .i64 (upTo r (k + 1) 2)] t) := by
  match k, hk with
  | 0, _ => simp [World.setCell, Array.getElem?_modify, h, upTo]
  | 1, _ => simp [World.setCell, Array.getElem?_modify, h, upTo]
  | 2, _ => simp [World.setCell, Array.getElem?_modify, h, upTo]

set_option maxHeartbeats 2000000 in
set_option maxRecDepth 100000 in
theorem insWith_calls (b off cap mm : Nat) (op : Int) (r : List Int) (w : World) (hB : ∀ x ∈ r, IsB x) (hn : BytesAt w b off r) (hl : r.length = 4 * mm) (hm : mm ≤ 3) (hcap : 4 * mm ≤ cap) (hb : b < w.heap.size) :
    Calls Try.prog 37 #[.int .i64 op, .slice (some ⟨b, off, none⟩) (4 * mm) cap] w fun e w' => e = .returned (.agg #[.int .i64 op, .int .i64 (upTo r mm 0), .int .i64 (upTo r mm 1), .int .i64 (upTo r mm 2)]) ∧ Below w.heap.size w w' := by
  have HB := hid hB
  have HN := hid hn
  have HL := hid hl
  clear hB hn hl
  obtain ⟨ln, hln⟩ : ∃ ln, 4 * mm = ln := ⟨_, rfl⟩
  have HLN := hid hln
  have hdiv2 : ((ln : Int)) / 4 = (mm : Int) := by rw [← hln]; omega
  rw [hln]
  rw [hln] at hcap
  have hwm : wrap64 (mm : Int) = (mm : Int) := by unfold wrap64; omega
  clear hln
  go_enter Try.func37, Try.ntmps37
  go_wp2_with fail
  have h1 := (MapKept.heap_alloc (w.alloc (.cells #[.int .i64 0, .int .i64 0, .int .i64 0, .int .i64 0] 25)) (.cells #[.int .i64 0, .int .i64 0, .int .i64 0] 45)).1
  have h0 := (MapKept.heap_alloc w (.cells #[.int .i64 0, .int .i64 0, .int .i64 0, .int .i64 0] 25)).1
  rw [World.size_alloc] at h1
  have h0' := (Below.heap_alloc (w.alloc (.cells #[.int .i64 0, .int .i64 0, .int .i64 0, .int .i64 0] 25)) (.cells #[.int .i64 0, .int .i64 0, .int .i64 0] 45) w.heap.size (by simp)).trans h0
  have hnx0 := ((Below.refl w.heap.size w).alloc (Nat.le_refl _) (.cells #[.int .i64 0, .int .i64 0, .int .i64 0, .int .i64 0] 25)).alloc (by simp) (.cells #[.int .i64 0, .int .i64 0, .int .i64 0] 45)
  clear h0
  generalize (w.alloc (.cells #[.int .i64 0, .int .i64 0, .int .i64 0, .int .i64 0] 25)).alloc (.cells #[.int .i64 0, .int .i64 0, .int .i64 0] 45) = W1 at *
  go_loopw [11] (fun i wr => ∃ k : Nat, i = .int .i64 k ∧ k ≤ mm ∧ wr.heap[w.heap.size + 1]? = some (.cells #[.int .i64 (upTo r k 0), .int .i64 (upTo r k 1), .int .i64 (upTo r k 2)] 45) ∧
    wr.heap[w.heap.size]? = some (.cells #[.int .i64 0, .int .i64 0, .int .i64 0, .int .i64 0] 25) ∧ Below w.heap.size w wr) (fun i _ => mm - (intOf i).toNat)
  case atStart => exact ⟨0, rfl, Nat.zero_le _, h1, h0', hnx0⟩
  case round =>
    obtain ⟨k, rfl, hk, hg1, hg0, hnx⟩ := hrel
    clear h1 h0' hnx0
    by_cases hkl : (k : Int) < (mm : Int)
    · have hk4 : k * 4 + 3 < r.length := by rw [HL.out]; omega
      have hBA := HN.out.below hnx hb
      have c0 := hBA (k * 4) (by omega)
      have c1 : wr.cell? ⟨b, off + k * 4 + 1, none⟩ = some (.int .u8 (r.getD (k * 4 + 1) 0)) := hBA (k * 4 + 1) (by omega)
      have c2 : wr.cell? ⟨b, off + k * 4 + 2, none⟩ = some (.int .u8 (r.getD (k * 4 + 2) 0)) := hBA (k * 4 + 2) (by omega)
      have c3 : wr.cell? ⟨b, off + k * 4 + 3, none⟩ = some (.int .u8 (r.getD (k * 4 + 3) 0)) := hBA (k * 4 + 3) hk4
      have b0 := bytes_isB HB.out (k * 4) (by omega)
      have b1 := bytes_isB HB.out (k * 4 + 1) (by omega)
      have b2 := bytes_isB HB.out (k * 4 + 2) (by omega)
      have b3 := bytes_isB HB.out (k * 4 + 3) hk4
      have HBI := hid (bits4w _ _ _ _ b0 b1 b2 b3)
      have HNA : Hid (numAt r (k * 4) = num4 (r.getD (k * 4) 0) (r.getD (k * 4 + 1) 0) (r.getD (k * 4 + 2) 0) (r.getD (k * 4 + 3) 0)) := rfl
      clear b0 b1 b2 b3 hBA hk4
      generalize r.getD (k * 4) 0 = x0 at *
      generalize r.getD (k * 4 + 1) 0 = x1 at *
      generalize r.getD (k * 4 + 2) 0 = x2 at *
      generalize r.getD (k * 4 + 3) 0 = x3 at *
      have hq4 : (k : Int) * 4 ≤ (ln : Int) := by have := HLN.out; omega
      have hq0 : (0 : Int) ≤ (k : Int) * 4 := by omega
      have hq5 : (ln : Int) ≤ (cap : Int) := by omega
      have hk3 : (k : Int) < 3 := by omega
      have HS : Hid (4 ≤ ln - k * 4) := by show _ ≤ _; have := HLN.out; omega
      have d0 := cell_of_heap hg1 k
      have f0 := frozen_of_heap hg1 k
      rw [show (#[.int .i64 (upTo r k 0), .int .i64 (upTo r k 1), .int .i64 (upTo r k 2)] : Array Value)[k]? = some (.int .i64 0) by
        match k, (show k < 3 by omega) with
        | 0, _ => rfl
        | 1, _ => rfl
        | 2, _ => rfl] at d0
      go_wp2_with fail
      have hlt1 := heap_lt hg1
      generalize ln - k * 4 = n4 at *
      have g0 : (0 : Int) < (n4 : Int) := by have := HS.out; omega
      have gn0 : 0 < n4 := by have := HS.out; omega
      have hbn : b ≠ w.heap.size + 1 := by omega
      have hbn' : ¬ w.heap.size + 1 = b := by omega
      have g1 : (1 : Int) < (n4 : Int) := by have := HS.out; omega
      have g2 : (2 : Int) < (n4 : Int) := by have := HS.out; omega
      have g3 : (3 : Int) < (n4 : Int) := by have := HS.out; omega
      go_region_held3 (fun w' => w'.cell? ⟨b, off + k * 4, none⟩ = some (.int .u8 x0) ∧ w'.cell? ⟨b, off + k * 4 + 1, none⟩ = some (.int .u8 x1) ∧ w'.cell? ⟨b, off + k * 4 + 2, none⟩ = some (.int .u8 x2) ∧ w'.cell? ⟨b, off + k * 4 + 3, none⟩ = some (.int .u8 x3)) (go_keep) (fail)
      all_goals
        rw [HBI.out, ← HNA.out]
        have hset := upTo_set (r := r) (show k < 3 by omega) hg1
        have hg0' := (Below.heap_setCell wr ⟨w.heap.size + 1, k, none⟩ (.int .i64 (numAt r (k * 4))) w.heap.size (by simp)).trans hg0
        have hnx' := hnx.setCell (p := ⟨w.heap.size + 1, k, none⟩) (by simp) (.int .i64 (numAt r (k * 4)))
        clear hg0 hg1 hnx d0 f0
        generalize wr.setCell ⟨w.heap.size + 1, k, none⟩ (.int .i64 (numAt r (k * 4))) = W9 at *
        go_wp2_with fail
        have hs : mm - (intOf (.int .i64 ((k + 1 : Nat) : Int))).toNat < mm - (intOf (.int .i64 (k : Int))).toNat := by simp only [intOf, Int.toNat_natCast]; omega
        try rw [show ((k : Int) + 1) = ((k + 1 : Nat) : Int) from rfl]
        exact ⟨⟨k + 1, rfl, by omega, hset, hg0', hnx'.drew⟩, hs⟩
    · have hke : k = mm := by omega
      subst hke
      have q0 := cell_of_heap hg1 0
      have q1 := cell_of_heap hg1 1
      have q2 := cell_of_heap hg1 2
      simp at q0 q1 q2
      have z0 := cell_of_heap hg0 0
      have z1 := cell_of_heap hg0 1
      have z2 := cell_of_heap hg0 2
      have z3 := cell_of_heap hg0 3
      have y0 := frozen_of_heap hg0 0
      have y1 := frozen_of_heap hg0 1
      have y2 := frozen_of_heap hg0 2
      have y3 := frozen_of_heap hg0 3
      simp at z0 z1 z2 z3
      have hlt0 := heap_lt hg0
      have hlt1 := heap_lt hg1
      clear hg0 hg1
      go_wp2_with fail
      refine bodyPost_ret (v := .agg #[.int .i64 op, .int .i64 (upTo r k 0), .int .i64 (upTo r k 1), .int .i64 (upTo r k 2)]) (by simp [results, Try.results37, go_sem, z0, z1, z2, z3]) rfl ⟨rfl, ?_⟩
      repeat (first | exact hnx | refine Below.setCell ?_ (by simp) _)
end Go.Proofs.Ytmjcifaihmecmaa
