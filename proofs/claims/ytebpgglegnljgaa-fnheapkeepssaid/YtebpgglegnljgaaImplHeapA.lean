/- The program's looks at words of a heap that was laid out. -/
import Derived.Test.YtebpgglegnljgaaHeapPure
import Derived.Test.YtebpgglegnljgaaCalm
namespace Go.Proofs.Ytebpgglegnljgaa
open Go.RowKit

def layV (v : Value) (h : HpN) (vs : Value) : Value := .agg #[v, .int .i64 h.size, .int .i64 h.to, .int .i64 h.bottom, .int .i64 h.top, .int .i64 h.scan, .int .i64 h.fb, .int .i64 h.ft, .int .i64 h.flips, .int .i64 h.touched, vs]


/-- Block b holds a heap that was laid out. -/
def LayBlk (w : World) (b : Nat) (v : Value) (h : HpN) (vs : Value) : Prop := w.heap[b]? = some (.cells #[v, .int .i64 h.size, .int .i64 h.to, .int .i64 h.bottom, .int .i64 h.top, .int .i64 h.scan, .int .i64 h.fb, .int .i64 h.ft, .int .i64 h.flips, .int .i64 h.touched, vs] 58)

theorem LayBlk.new (w : World) (v : Value) (h : HpN) (vs : Value) : LayBlk (w.alloc (.cells #[v, .int .i64 h.size, .int .i64 h.to, .int .i64 h.bottom, .int .i64 h.top, .int .i64 h.scan, .int .i64 h.fb, .int .i64 h.ft, .int .i64 h.flips, .int .i64 h.touched, vs] 58)) w.heap.size v h vs := (MapKept.heap_alloc w _).1

theorem LayBlk.below {w w' : World} {b : Nat} {v : Value} {h : HpN} {vs : Value} (e : LayBlk w b v h vs) (hb : Below w.heap.size w w') : LayBlk w' b v h vs := (hb.block b (heap_lt e)).trans e

theorem LayBlk.cells {w : World} {b : Nat} {v : Value} {h : HpN} {vs : Value} (e : LayBlk w b v h vs) :
    w.cell? ⟨b, 0, none⟩ = some v ∧ w.cell? ⟨b, 1, none⟩ = some (.int .i64 h.size) ∧ w.cell? ⟨b, 2, none⟩ = some (.int .i64 h.to) ∧ w.cell? ⟨b, 3, none⟩ = some (.int .i64 h.bottom) ∧ w.cell? ⟨b, 4, none⟩ = some (.int .i64 h.top) ∧ w.cell? ⟨b, 5, none⟩ = some (.int .i64 h.scan) ∧ w.cell? ⟨b, 6, none⟩ = some (.int .i64 h.fb) ∧ w.cell? ⟨b, 7, none⟩ = some (.int .i64 h.ft) ∧ w.cell? ⟨b, 8, none⟩ = some (.int .i64 h.flips) ∧ w.cell? ⟨b, 9, none⟩ = some (.int .i64 h.touched) ∧ w.cell? ⟨b, 10, none⟩ = some vs := by
  refine ⟨?_, ?_, ?_, ?_, ?_, ?_, ?_, ?_, ?_, ?_, ?_⟩ <;> · rw [cell_of_heap e]; rfl

theorem LayBlk.later {B : Nat} {w : World} {b : Nat} {v : Value} {h : HpN} {vs : Value} (e : LayBlk w b v h vs) (hb : b < B) :
    (∀ x : Later B w, x.w.cell? ⟨b, 0, none⟩ = some v) ∧ (∀ x : Later B w, x.w.cell? ⟨b, 1, none⟩ = some (.int .i64 h.size)) ∧ (∀ x : Later B w, x.w.cell? ⟨b, 2, none⟩ = some (.int .i64 h.to)) ∧ (∀ x : Later B w, x.w.cell? ⟨b, 3, none⟩ = some (.int .i64 h.bottom)) ∧ (∀ x : Later B w, x.w.cell? ⟨b, 4, none⟩ = some (.int .i64 h.top)) ∧ (∀ x : Later B w, x.w.cell? ⟨b, 5, none⟩ = some (.int .i64 h.scan)) ∧ (∀ x : Later B w, x.w.cell? ⟨b, 6, none⟩ = some (.int .i64 h.fb)) ∧ (∀ x : Later B w, x.w.cell? ⟨b, 7, none⟩ = some (.int .i64 h.ft)) ∧ (∀ x : Later B w, x.w.cell? ⟨b, 8, none⟩ = some (.int .i64 h.flips)) ∧ (∀ x : Later B w, x.w.cell? ⟨b, 9, none⟩ = some (.int .i64 h.touched)) ∧ ∀ x : Later B w, x.w.cell? ⟨b, 10, none⟩ = some vs := by
  obtain ⟨c0, c1, c2, c3, c4, c5, c6, c7, c8, c9, c10⟩ := e.cells
  exact ⟨fun x => x.cell hb c0, fun x => x.cell hb c1, fun x => x.cell hb c2, fun x => x.cell hb c3, fun x => x.cell hb c4, fun x => x.cell hb c5, fun x => x.cell hb c6, fun x => x.cell hb c7, fun x => x.cell hb c8, fun x => x.cell hb c9, fun x => x.cell hb c10⟩

theorem HeapBlk.later {B : Nat} {w : World} {b : Nat} {v : Value} {h : HpN} (e : HeapBlk w b v h) (hb : b < B) :
    (∀ x : Later B w, x.w.cell? ⟨b, 0, none⟩ = some v) ∧ (∀ x : Later B w, x.w.cell? ⟨b, 1, none⟩ = some (.int .i64 h.size)) ∧ (∀ x : Later B w, x.w.cell? ⟨b, 2, none⟩ = some (.int .i64 h.to)) ∧ (∀ x : Later B w, x.w.cell? ⟨b, 3, none⟩ = some (.int .i64 h.bottom)) ∧ (∀ x : Later B w, x.w.cell? ⟨b, 4, none⟩ = some (.int .i64 h.top)) ∧ (∀ x : Later B w, x.w.cell? ⟨b, 5, none⟩ = some (.int .i64 h.scan)) ∧ (∀ x : Later B w, x.w.cell? ⟨b, 6, none⟩ = some (.int .i64 h.fb)) ∧ (∀ x : Later B w, x.w.cell? ⟨b, 7, none⟩ = some (.int .i64 h.ft)) ∧ (∀ x : Later B w, x.w.cell? ⟨b, 8, none⟩ = some (.int .i64 h.flips)) ∧ ∀ x : Later B w, x.w.cell? ⟨b, 9, none⟩ = some (.int .i64 h.touched) := by
  obtain ⟨c0, c1, c2, c3, c4, c5, c6, c7, c8, c9⟩ := e.cells
  exact ⟨fun x => x.cell hb c0, fun x => x.cell hb c1, fun x => x.cell hb c2, fun x => x.cell hb c3, fun x => x.cell hb c4, fun x => x.cell hb c5, fun x => x.cell hb c6, fun x => x.cell hb c7, fun x => x.cell hb c8, fun x => x.cell hb c9⟩

set_option maxRecDepth 100000 in
theorem within_calls (v : Value) (h : HpN) (x sp : Int) (w : World) (h0 : 0 ≤ sp) (h1 : sp ≤ 4000) (h2 : 0 ≤ h.size) (h3 : h.size ≤ 4000) :
    Calls Try.prog 78 #[heapV v h, .int .i64 x, .int .i64 sp] w fun e w' => e = .returned (.bool (decide (sp ≤ x ∧ x < sp + h.size))) ∧ Below w.heap.size w w' := by
  obtain ⟨g1, g2, g3, g4, g5, g6, g7, g8, g9⟩ := h
  dsimp only at *
  unfold heapV
  dsimp only
  by_cases q1 : sp ≤ x
  · by_cases q2 : x < sp + g1
    · rw [decide_eq_true ⟨q1, q2⟩]
      go_enter Try.func78, Try.ntmps78
      go_wp2
      go_ret
      refine ⟨?_, (Below.refl _ _).alloc (Nat.le_refl _) _⟩
      simp_all
    · rw [decide_eq_false (fun e => q2 e.2)]
      go_enter Try.func78, Try.ntmps78
      go_wp2
      go_ret
      refine ⟨?_, (Below.refl _ _).alloc (Nat.le_refl _) _⟩
      simp_all
  · rw [decide_eq_false (fun e => q1 e.1)]
    go_enter Try.func78, Try.ntmps78
    go_wp2
    go_ret
    refine ⟨?_, (Below.refl _ _).alloc (Nat.le_refl _) _⟩
    simp_all

set_option maxRecDepth 100000 in
theorem other_calls (v : Value) (h : HpN) (w : World) (h0 : 0 ≤ h.to) (h1 : h.to ≤ 4000) (h2 : 0 ≤ h.size) (h3 : h.size ≤ 4000) :
    Calls Try.prog 60 #[heapV v h] w fun e w' => e = .returned (.int .i64 (h.size - h.to)) ∧ Below w.heap.size w w' := by
  obtain ⟨g1, g2, g3, g4, g5, g6, g7, g8, g9⟩ := h
  dsimp only at *
  unfold heapV
  dsimp only
  go_enter Try.func60, Try.ntmps60
  go_wp2
  go_ret
  exact ⟨rfl, (Below.refl _ _).alloc (Nat.le_refl _) _⟩

/-- Does a word lead to an object that is noted, in the space that begins there? -/
def leadsZ (S : List Int) (size : Int) (x sp : Int) : Bool := decide (x % 8 = 0) && (decide (sp ≤ x / 8 ∧ x / 8 < sp + size) && decide (0 < S.getD (x / 8).toNat 0))

set_option maxHeartbeats 1000000 in
set_option maxRecDepth 100000 in
theorem leads_calls (v : Value) (h : HpN) (gb goff gcap : Nat) (S : List Int) (x sp : Int) (w : World) (h0 : 0 ≤ sp) (h1 : sp ≤ 4000) (h2 : 0 ≤ h.size) (h3 : h.size ≤ 4000) (hl : sp + h.size ≤ S.length)
    (hgb : gb < w.heap.size) (hs : ∀ k, k < S.length → w.cell? ⟨gb, goff + k, none⟩ = some (.int .i64 (S.getD k 0))) :
    Calls Try.prog 51 #[layV v h (.slice (some ⟨gb, goff, none⟩) S.length gcap), .int .i64 x, .int .i64 sp] w fun e w' => e = .returned (.bool (leadsZ S h.size x sp)) ∧ Below w.heap.size w w' := by
  have HS := hid hs
  clear hs
  have HWi := hid (fun w => within_calls v h (x / 8) sp w h0 h1 h2 h3)
  obtain ⟨g1, g2, g3, g4, g5, g6, g7, g8, g9⟩ := h
  unfold layV heapV at *
  dsimp only at *
  by_cases ht : x % 8 = 0
  · have HT : Hid (∀ w, Calls Try.prog 23 #[.int .i64 x] w fun e w' => e = .returned (.int .i64 0) ∧ w = w') := fun w => by
      have := implTag_calls x w
      unfold tagZ at this
      rw [ht] at this
      exact this
    by_cases hi : sp ≤ x / 8 ∧ x / 8 < sp + g1
    · have hA : leadsZ S g1 x sp = decide (0 < S.getD (x / 8).toNat 0) := by unfold leadsZ; rw [decide_eq_true ht, decide_eq_true hi]; rfl
      obtain ⟨k, hk⟩ := Int.eq_ofNat_of_zero_le (show 0 ≤ x / 8 by omega)
      have hkN : k < S.length := by omega
      have c0 := HS.out k hkN
      rw [hA, hk, Int.toNat_natCast]
      rw [decide_eq_true hi] at HWi
      have HNum : Hid (∀ w, Calls Try.prog 52 #[.int .i64 x] w fun e w' => e = .returned (.int .i64 (k : Int)) ∧ w = w') := fun w => by
        have := implNum_calls x w
        unfold numZ at this
        rw [hk] at this
        exact this
      rw [hk] at HWi
      clear hA hk hi ht HS
      generalize S.getD k 0 = y at *
      go_enter Try.func51, Try.ntmps51
      go_wp2_with fail
      have hL := LayBlk.new w v ⟨g1, g2, g3, g4, g5, g6, g7, g8, g9⟩ (.slice (some ⟨gb, goff, none⟩) S.length gcap)
      obtain ⟨v0, v1, v2, v3, v4, v5, v6, v7, v8, v9, v10⟩ := hL.later (B := (w.alloc (.cells #[v, .int .i64 g1, .int .i64 g2, .int .i64 g3, .int .i64 g4, .int .i64 g5, .int .i64 g6, .int .i64 g7, .int .i64 g8, .int .i64 g9, .slice (some ⟨gb, goff, none⟩) S.length gcap] 58)).heap.size) (by simp)
      dsimp only at v0 v1 v2 v3 v4 v5 v6 v7 v8 v9 v10
      have hk0 := (Below.refl w.heap.size w).alloc (Nat.le_refl _) (.cells #[v, .int .i64 g1, .int .i64 g2, .int .i64 g3, .int .i64 g4, .int .i64 g5, .int .i64 g6, .int .i64 g7, .int .i64 g8, .int .i64 g9, .slice (some ⟨gb, goff, none⟩) S.length gcap] 58)
      have vc : ∀ x : Later (w.alloc (.cells #[v, .int .i64 g1, .int .i64 g2, .int .i64 g3, .int .i64 g4, .int .i64 g5, .int .i64 g6, .int .i64 g7, .int .i64 g8, .int .i64 g9, .slice (some ⟨gb, goff, none⟩) S.length gcap] 58)).heap.size (w.alloc (.cells #[v, .int .i64 g1, .int .i64 g2, .int .i64 g3, .int .i64 g4, .int .i64 g5, .int .i64 g6, .int .i64 g7, .int .i64 g8, .int .i64 g9, .slice (some ⟨gb, goff, none⟩) S.length gcap] 58)), x.w.cell? ⟨gb, goff + k, none⟩ = some (.int .i64 y) := fun x => x.cell (by simp; omega) ((hk0.cell (p := ⟨gb, goff + k, none⟩) hgb).trans c0)
      have HK0 := hid hk0
      clear hL hk0
      generalize (w.alloc (.cells #[v, .int .i64 g1, .int .i64 g2, .int .i64 g3, .int .i64 g4, .int .i64 g5, .int .i64 g6, .int .i64 g7, .int .i64 g8, .int .i64 g9, .slice (some ⟨gb, goff, none⟩) S.length gcap] 58)) = W at *
      refine wp_region_calm W.heap.size (by kernel_rfl) (by kernel_rfl) ?_
      repeat (go_big_quiet_step (first | (rename_i x; go_at_call 23; refine (HT.out _).mono ?_; rintro e w5 ⟨rfl, rfl⟩; exact ⟨rfl, x, rfl⟩) | (rename_i x; go_at_call 52; refine (HNum.out _).mono ?_; rintro e w5 ⟨rfl, rfl⟩; exact ⟨rfl, x, rfl⟩) | (rename_i x; go_at_call 78; refine (HWi.out _).mono ?_; rintro e w5 ⟨rfl, hb5⟩; exact ⟨rfl, ⟨w5, x.h.trans (hb5.mono x.h.size)⟩, rfl⟩)))
      refine wpQuiet_nil ?_
      rintro w5 ⟨x, rfl⟩
      have HBx := hid (HK0.out.trans (x.h.mono HK0.out.size))
      clear v0 v1 v2 v3 v4 v5 v6 v7 v8 v9 v10
      go_wp2_with fail
      go_ret
      exact ⟨rfl, HBx.out⟩
    · have hA : leadsZ S g1 x sp = false := by unfold leadsZ; rw [decide_eq_false hi, Bool.false_and, Bool.and_false]
      rw [hA]
      rw [decide_eq_false hi] at HWi
      have HNum := hid (fun w => implNum_calls x w)
      unfold numZ at HNum
      clear hA hi ht HS
      generalize x / 8 = k at *
      go_enter Try.func51, Try.ntmps51
      go_wp2_with fail
      have hL := LayBlk.new w v ⟨g1, g2, g3, g4, g5, g6, g7, g8, g9⟩ (.slice (some ⟨gb, goff, none⟩) S.length gcap)
      obtain ⟨v0, v1, v2, v3, v4, v5, v6, v7, v8, v9, v10⟩ := hL.later (B := (w.alloc (.cells #[v, .int .i64 g1, .int .i64 g2, .int .i64 g3, .int .i64 g4, .int .i64 g5, .int .i64 g6, .int .i64 g7, .int .i64 g8, .int .i64 g9, .slice (some ⟨gb, goff, none⟩) S.length gcap] 58)).heap.size) (by simp)
      dsimp only at v0 v1 v2 v3 v4 v5 v6 v7 v8 v9 v10
      have hk0 := (Below.refl w.heap.size w).alloc (Nat.le_refl _) (.cells #[v, .int .i64 g1, .int .i64 g2, .int .i64 g3, .int .i64 g4, .int .i64 g5, .int .i64 g6, .int .i64 g7, .int .i64 g8, .int .i64 g9, .slice (some ⟨gb, goff, none⟩) S.length gcap] 58)
      skip
      have HK0 := hid hk0
      clear hL hk0
      generalize (w.alloc (.cells #[v, .int .i64 g1, .int .i64 g2, .int .i64 g3, .int .i64 g4, .int .i64 g5, .int .i64 g6, .int .i64 g7, .int .i64 g8, .int .i64 g9, .slice (some ⟨gb, goff, none⟩) S.length gcap] 58)) = W at *
      refine wp_region_calm W.heap.size (by kernel_rfl) (by kernel_rfl) ?_
      repeat (go_big_quiet_step (first | (rename_i x; go_at_call 23; refine (HT.out _).mono ?_; rintro e w5 ⟨rfl, rfl⟩; exact ⟨rfl, x, rfl⟩) | (rename_i x; go_at_call 52; refine (HNum.out _).mono ?_; rintro e w5 ⟨rfl, rfl⟩; exact ⟨rfl, x, rfl⟩) | (rename_i x; go_at_call 78; refine (HWi.out _).mono ?_; rintro e w5 ⟨rfl, hb5⟩; exact ⟨rfl, ⟨w5, x.h.trans (hb5.mono x.h.size)⟩, rfl⟩)))
      refine wpQuiet_nil ?_
      rintro w5 ⟨x, rfl⟩
      have HBx := hid (HK0.out.trans (x.h.mono HK0.out.size))
      clear v0 v1 v2 v3 v4 v5 v6 v7 v8 v9 v10
      go_wp2_with fail
      go_ret
      exact ⟨rfl, HBx.out⟩
  · have hA : leadsZ S g1 x sp = false := by unfold leadsZ; rw [decide_eq_false ht, Bool.false_and]
    have HT := hid (fun w => implTag_calls x w)
    have ht0 : (tagZ x == 0) = false := by unfold tagZ; simpa using ht
    have ht1 : ¬ tagZ x = 0 := ht
    rw [hA]
    clear hA ht HS
    generalize tagZ x = t at *
    go_enter Try.func51, Try.ntmps51
    go_wp2_with fail
    have hL := LayBlk.new w v ⟨g1, g2, g3, g4, g5, g6, g7, g8, g9⟩ (.slice (some ⟨gb, goff, none⟩) S.length gcap)
    obtain ⟨v0, v1, v2, v3, v4, v5, v6, v7, v8, v9, v10⟩ := hL.later (B := (w.alloc (.cells #[v, .int .i64 g1, .int .i64 g2, .int .i64 g3, .int .i64 g4, .int .i64 g5, .int .i64 g6, .int .i64 g7, .int .i64 g8, .int .i64 g9, .slice (some ⟨gb, goff, none⟩) S.length gcap] 58)).heap.size) (by simp)
    dsimp only at v0 v1 v2 v3 v4 v5 v6 v7 v8 v9 v10
    have hk0 := (Below.refl w.heap.size w).alloc (Nat.le_refl _) (.cells #[v, .int .i64 g1, .int .i64 g2, .int .i64 g3, .int .i64 g4, .int .i64 g5, .int .i64 g6, .int .i64 g7, .int .i64 g8, .int .i64 g9, .slice (some ⟨gb, goff, none⟩) S.length gcap] 58)
    skip
    have HK0 := hid hk0
    clear hL hk0
    generalize (w.alloc (.cells #[v, .int .i64 g1, .int .i64 g2, .int .i64 g3, .int .i64 g4, .int .i64 g5, .int .i64 g6, .int .i64 g7, .int .i64 g8, .int .i64 g9, .slice (some ⟨gb, goff, none⟩) S.length gcap] 58)) = W at *
    refine wp_region_calm W.heap.size (by kernel_rfl) (by kernel_rfl) ?_
    repeat (go_big_quiet_step (first | (rename_i x; go_at_call 23; refine (HT.out _).mono ?_; rintro e w5 ⟨rfl, rfl⟩; exact ⟨rfl, x, rfl⟩)))
    refine wpQuiet_nil ?_
    rintro w5 ⟨x, rfl⟩
    have HBx := hid (HK0.out.trans (x.h.mono HK0.out.size))
    clear v0 v1 v2 v3 v4 v5 v6 v7 v8 v9 v10
    go_wp2_with fail
    go_ret
    exact ⟨rfl, HBx.out⟩
end Go.Proofs.Ytebpgglegnljgaa
