/- The specification's CodeOk and CodeDepths. -/
import Derived.Test.YtfmkgppkgmjpfaaDoorCheckAll
namespace Go.Proofs.YtfmkgppkgmjpfaaDoor
open Go.RowKit Go.Deep

set_option maxHeartbeats 4000000 in
set_option maxRecDepth 100000 in
theorem l6Run_none (ad : Option Addr) (cap : Nat) (w : World) : Calls Tryd.prog 16 #[.slice ad 0 cap] w (RunE w []) := by
  have hA1 := (MapKept.heap_alloc w (.cells #[.slice ad 0 cap, .slice none 0 0, .slice none 0 0, .slice none 0 0, .slice none 0 0, .bool false] 38)).1
  have hL1 := (Below.refl w.heap.size w).alloc (Nat.le_refl _) (.cells #[.slice ad 0 cap, .slice none 0 0, .slice none 0 0, .slice none 0 0, .slice none 0 0, .bool false] 38)
  obtain ⟨Y, hY⟩ : ∃ Y, w.alloc (.cells #[.slice ad 0 cap, .slice none 0 0, .slice none 0 0, .slice none 0 0, .slice none 0 0, .bool false] 38) = Y := ⟨_, rfl⟩
  rw [hY] at hA1 hL1
  have HY := hid hY
  have HA := hid hA1
  have HL := hid hL1
  have e5 := cell_of_heap hA1 5
  simp at e5
  have hblk2 : (Y.setCell ⟨w.heap.size, 5, none⟩ (.bool true)).heap[w.heap.size]? = some (.cells #[.slice ad 0 cap, .slice none 0 0, .slice none 0 0, .slice none 0 0, .slice none 0 0, .bool true] 38) := by
    simp [World.setCell, Array.getElem?_modify, hA1]
  have hbel2 : Below w.heap.size w (Y.setCell ⟨w.heap.size, 5, none⟩ (.bool true)) := ⟨hL1.os, hL1.tape, hL1.output, by simpa [World.setCell] using hL1.size, fun q hq => (Below.heap_setCell Y ⟨w.heap.size, 5, none⟩ _ q (by dsimp only; omega)).trans (hL1.block q hq)⟩
  have HB2 := hid (And.intro hblk2 hbel2)
  clear hA1 hL1 hY hblk2 hbel2
  go_enter Tryd.func16, Tryd.ntmps16
  go_upto_region 2 with fail
  rw [HY.out]
  clear HY
  go_wp2_with fail
  refine wp_loop_rounds 1 ?_
  rw [rounds_succ]
  go_wp2_with fail
  refine (comeOut_calls (N := 0) HA.out 0 0 0 0 (Or.inr (Or.inl (by decide)))).mono ?_
  rintro e V ⟨rfl, hV⟩
  have HV := hid hV
  rw [hV] at HB2
  clear hV e5
  have e4 := cell_of_heap HB2.out.1 4
  simp at e4
  go_wp2_with fail
  refine wp_loop_rounds 1 ?_
  rw [rounds_succ]
  go_wp2_with fail
  go_ret
  exact ⟨w.heap.size, rfl, _, _, _, _, _, _, HB2.out.1, HB2.out.2, valid_bad (Or.inr (none_bad (by simp))), fun h => by cases h⟩

theorem l6Run_any {v : Value} {is : List In} (w : World) (h : InsSlice w v is) (hm : is.length ≤ 1048576) : Calls Tryd.prog 16 #[v] w (RunE w is) := by
  obtain ⟨ad, cap, rfl, h⟩ := h
  by_cases h0 : is = []
  · subst h0
    exact l6Run_none ad cap w
  · obtain ⟨g, o, rfl, hb, hr⟩ := h.resolve_left h0
    exact l6Run_calls g o cap is w (List.length_pos_iff.2 h0) hb hr hm

set_option maxHeartbeats 4000000 in
set_option maxRecDepth 100000 in
theorem specOk_any {v : Value} {is : List In} (w : World) (h : InsSlice w v is) (hm : is.length ≤ 1048576) :
    Calls Tryd.prog 6 #[v] w fun e w' => e = .returned (.bool (validZ is)) ∧ Below w.heap.size w w' := by
  have HR := hid (l6Run_any w h hm)
  obtain ⟨ad, cap, rfl, -⟩ := h
  go_enter Tryd.func6, Tryd.ntmps6
  go_wp2_with fail
  refine HR.out.mono ?_
  rintro e W1 ⟨Mb, rfl, vc, ve, vs, vp, vw, b, hblk, hbel, hv, -⟩
  have e5 := cell_of_heap hblk 5
  simp at e5
  have HV := hid hv
  clear hblk hv
  go_wp2_with fail
  go_ret
  refine ⟨?_, hbel⟩
  rw [HV.out]
  rfl

/-- What CodeDepths tells. -/
def DepthP (w : World) (is : List In) (e : Ending) (w' : World) : Prop :=
  Below w.heap.size w w' ∧ ((validZ is = false ∧ e = .returned (.tuple #[.slice none 0 0, .slice none 0 0, .bool false])) ∨
    (validZ is = true ∧ ∃ T ve vs, Whole is T ∧ e = .returned (.tuple #[ve, vs, .bool true]) ∧ w'.ownsRow w.heap.size 3 1 ve is.length (rowI envV T) ∧ w'.ownsRow w.heap.size 3 1 vs is.length (rowI stkV T)))

set_option maxHeartbeats 4000000 in
set_option maxRecDepth 100000 in
theorem specDepths_any {v : Value} {is : List In} (w : World) (h : InsSlice w v is) (hm : is.length ≤ 1048576) :
    Calls Tryd.prog 10 #[v] w (DepthP w is) := by
  have HR := hid (l6Run_any w h hm)
  obtain ⟨ad, cap, rfl, -⟩ := h
  go_enter Tryd.func10, Tryd.ntmps10
  go_wp2_with fail
  refine HR.out.mono ?_
  rintro e W1 ⟨Mb, rfl, vc, ve, vs, vp, vw, b, hblk, hbel, hv, ht⟩
  have e5 := cell_of_heap hblk 5
  have e1 := cell_of_heap hblk 1
  have e2 := cell_of_heap hblk 2
  simp at e1 e2 e5
  have HV := hid hv
  have HT := hid ht
  have HBe := hid hbel
  clear hblk hv ht hbel
  cases b with
  | true =>
    go_wp2_with fail
    go_ret3
    exact ⟨HBe.out, Or.inl ⟨HV.out, rfl⟩⟩
  | false =>
    obtain ⟨T, hw, r1, r2⟩ := HT.out rfl
    obtain ⟨a1, c1, rfl⟩ := ck_slice r1
    obtain ⟨a2, c2, rfl⟩ := ck_slice r2
    have HX := hid (And.intro hw (And.intro r1 r2))
    clear hw r1 r2
    have hbl : Mb < W1.heap.size := block_in' e1
    have p1 : ∀ y : Later W1.heap.size W1, y.w.cell? ⟨Mb, 1, none⟩ = _ := fun y => y.cell hbl e1
    have p2 : ∀ y : Later W1.heap.size W1, y.w.cell? ⟨Mb, 2, none⟩ = _ := fun y => y.cell hbl e2
    go_wp2_with fail
    refine wp_region_calm W1.heap.size (by kernel_rfl) (by kernel_rfl) ?_
    repeat (go_big_quiet_step (fail))
    refine wpQuiet_nil ?_
    rintro w5 ⟨y, rfl⟩
    have HY := hid y.h
    generalize y.w = X at *
    clear p1 p2 e1 e2 e5
    go_wp2_with fail
    go_ret3
    exact ⟨HBe.out.trans (HY.out.mono HBe.out.size), Or.inr ⟨HV.out, T, _, _, HX.out.1, rfl, kept_owns HX.out.2.1 HY.out, kept_owns HX.out.2.2 HY.out⟩⟩
end Go.Proofs.YtfmkgppkgmjpfaaDoor
