/- Does a word lead into the other space? -/
import Derived.Test.YtebpgglegnljgaaImplHeapK
namespace Go.Proofs.Ytebpgglegnljgaa
open Go.RowKit

def lateZ (h : HpN) (x : Int) : Bool := decide (x % 8 = 0) && decide (h.size - h.to ≤ x / 8 ∧ x / 8 < h.size - h.to + h.size)

theorem ColBlk.later {B : Nat} {w : World} {b : Nat} {v : Value} {h : HpN} {r t : Int} (e : ColBlk w b v h r t) (hb : b < B) :
    (∀ x : Later B w, x.w.cell? ⟨b, 0, none⟩ = some v) ∧ (∀ x : Later B w, x.w.cell? ⟨b, 1, none⟩ = some (.int .i64 h.size)) ∧ (∀ x : Later B w, x.w.cell? ⟨b, 2, none⟩ = some (.int .i64 h.to)) ∧ (∀ x : Later B w, x.w.cell? ⟨b, 3, none⟩ = some (.int .i64 h.bottom)) ∧ (∀ x : Later B w, x.w.cell? ⟨b, 4, none⟩ = some (.int .i64 h.top)) ∧ (∀ x : Later B w, x.w.cell? ⟨b, 5, none⟩ = some (.int .i64 h.scan)) ∧ (∀ x : Later B w, x.w.cell? ⟨b, 6, none⟩ = some (.int .i64 h.fb)) ∧ (∀ x : Later B w, x.w.cell? ⟨b, 7, none⟩ = some (.int .i64 h.ft)) ∧ (∀ x : Later B w, x.w.cell? ⟨b, 8, none⟩ = some (.int .i64 h.flips)) ∧ ∀ x : Later B w, x.w.cell? ⟨b, 9, none⟩ = some (.int .i64 h.touched) := by
  obtain ⟨c0, c1, c2, c3, c4, c5, c6, c7, c8, c9, -, -⟩ := e.cells
  exact ⟨fun x => x.cell hb c0, fun x => x.cell hb c1, fun x => x.cell hb c2, fun x => x.cell hb c3, fun x => x.cell hb c4, fun x => x.cell hb c5, fun x => x.cell hb c6, fun x => x.cell hb c7, fun x => x.cell hb c8, fun x => x.cell hb c9⟩

set_option maxHeartbeats 1000000 in
set_option maxRecDepth 100000 in
theorem isOld_calls {w0 W : World} {bc bw N cap : Nat} {ws : List Int} {h : HpN} {r t : Int} (c : Col w0 bc bw N cap ws h r t W) (x : Int) (h0 : 0 ≤ h.to) (h1 : h.to ≤ h.size) (h3 : h.size ≤ 4000) :
    Calls Try.prog 79 #[.pointer (some ⟨bc, 0, none⟩), .int .i64 x] W fun e w' => e = .returned (.bool (lateZ h x)) ∧ Below W.heap.size W w' := by
  have HWi := hid (fun w => within_calls (.slice (some ⟨bw, 0, none⟩) N cap) h (x / 8) (h.size - h.to) w (by omega) (by omega) (by omega) h3)
  have HOt := hid (fun w => other_calls (.slice (some ⟨bw, 0, none⟩) N cap) h w h0 (by omega) (by omega) h3)
  have hbc := heap_lt c.blk
  obtain ⟨v0, v1, v2, v3, v4, v5, v6, v7, v8, v9⟩ := c.blk.later (B := W.heap.size) hbc
  clear c
  obtain ⟨g1, g2, g3, g4, g5, g6, g7, g8, g9⟩ := h
  unfold heapV at *
  dsimp only at *
  by_cases ht : x % 8 = 0
  · have HT : Hid (∀ w, Calls Try.prog 23 #[.int .i64 x] w fun e w' => e = .returned (.int .i64 0) ∧ w = w') := fun w => by
      have := implTag_calls x w
      unfold tagZ at this
      rw [ht] at this
      exact this
    have HNum := hid (fun w => implNum_calls x w)
    unfold numZ at HNum
    have hA : lateZ ⟨g1, g2, g3, g4, g5, g6, g7, g8, g9⟩ x = decide (g1 - g2 ≤ x / 8 ∧ x / 8 < g1 - g2 + g1) := by unfold lateZ; rw [decide_eq_true ht, Bool.true_and]
    rw [hA]
    clear hA ht
    generalize decide (g1 - g2 ≤ x / 8 ∧ x / 8 < g1 - g2 + g1) = d at *
    generalize x / 8 = k at *
    generalize g1 - g2 = o at *
    go_enter Try.func79, Try.ntmps79
    go_wp2_with fail
    refine wp_region_calm W.heap.size (by kernel_rfl) (by kernel_rfl) ?_
    repeat (go_big_quiet_step (first | (rename_i x; go_at_call 23; refine (HT.out _).mono ?_; rintro e w5 ⟨rfl, rfl⟩; exact ⟨rfl, x, rfl⟩) | (rename_i x; go_at_call 52; refine (HNum.out _).mono ?_; rintro e w5 ⟨rfl, rfl⟩; exact ⟨rfl, x, rfl⟩) | (rename_i x; go_at_call 60; refine (HOt.out _).mono ?_; rintro e w5 ⟨rfl, hb5⟩; exact ⟨rfl, ⟨w5, x.h.trans (hb5.mono x.h.size)⟩, rfl⟩) | (rename_i x; go_at_call 78; refine (HWi.out _).mono ?_; rintro e w5 ⟨rfl, hb5⟩; exact ⟨rfl, ⟨w5, x.h.trans (hb5.mono x.h.size)⟩, rfl⟩)))
    refine wpQuiet_nil ?_
    rintro w5 ⟨x, rfl⟩
    have HBx := hid x.h
    clear v0 v1 v2 v3 v4 v5 v6 v7 v8 v9
    go_wp2_with fail
    go_ret
    exact ⟨rfl, HBx.out⟩
  · have hA : lateZ ⟨g1, g2, g3, g4, g5, g6, g7, g8, g9⟩ x = false := by unfold lateZ; rw [decide_eq_false ht, Bool.false_and]
    have HT := hid (fun w => implTag_calls x w)
    have ht0 : (tagZ x == 0) = false := by unfold tagZ; simpa using ht
    have ht1 : ¬ tagZ x = 0 := ht
    rw [hA]
    clear hA ht
    generalize tagZ x = t at *
    go_enter Try.func79, Try.ntmps79
    go_wp2_with fail
    refine wp_region_calm W.heap.size (by kernel_rfl) (by kernel_rfl) ?_
    repeat (go_big_quiet_step (first | (rename_i x; go_at_call 23; refine (HT.out _).mono ?_; rintro e w5 ⟨rfl, rfl⟩; exact ⟨rfl, x, rfl⟩)))
    refine wpQuiet_nil ?_
    rintro w5 ⟨x, rfl⟩
    have HBx := hid x.h
    clear v0 v1 v2 v3 v4 v5 v6 v7 v8 v9
    go_wp2_with fail
    go_ret
    exact ⟨rfl, HBx.out⟩
end Go.Proofs.Ytebpgglegnljgaa
