/- The program comes to a place. -/
import Derived.Test.YtfmkgppkgmjpfaaDoorImplFl
import Derived.Test.YtfmkgppkgmjpfaaDoorChanSend
import Derived.Test.YtfmkgppkgmjpfaaDoorCalm
import Derived.Test.YtfmkgppkgmjpfaaDoorStagesN
import Derived.Deep.CutRange
import Derived.Deep.CutBlock
import Derived.BigQuiet
namespace Go.Proofs.YtfmkgppkgmjpfaaDoor
open Go.RowKit Go.Conc

theorem wpN_seq_k {P : Program} {Q : Exit → Act → World → Prop} {a : Act} {w : World} {x y : Code} (h : ∀ K : Act → World → Prop, (∀ a w, wpN P y Q a w → K a w) → x.wp P (Exit.then K Q) a w) : wpN P (.seq x y) Q a w := wpN_seq_wp (h _ fun _ _ h => h)

theorem spot3_other (W : World) (gs k : Nat) (s : Sq) {q : Nat} (hq : q ≠ gs) : (spot3 W gs k s).heap[q]? = W.heap[q]? := by
  unfold spot3
  rw [Below.heap_setCell _ ⟨gs, k * 3 + 2, none⟩ _ q hq, Below.heap_setCell _ ⟨gs, k * 3 + 1, none⟩ _ q hq, Below.heap_setCell _ ⟨gs, k * 3, none⟩ _ q hq]

theorem wp_at {P : Program} {c : Code} {Q : Exit → Act → World → Prop} {a a' : Act} {w : World} (e : a = a') (h : c.wp P Q a' w) : c.wp P Q a w := by
  subst e
  exact h

set_option maxRecDepth 100000 in
set_option maxHeartbeats 8000000 in
theorem comeI_push {W0 : World} {Fb : Nat} {ac : Option Addr} {cc gs ch N : Nat} {T : List Sq} {wk : List Nat} {d : Int} {W : World} (h : Fl W0 Fb (.slice ac N cc) gs ch N T wk d false W) (k : Nat) (n v p : Int) (hk : k < N) (hn : 0 ≤ n) (hn1 : n ≤ 100) (hv : 0 ≤ v) (hv1 : v ≤ 100) (hp0 : 1 ≤ p) (hp1 : p ≤ 3) (hz : (tg T k).p = 0) :
    Calls Tryd.prog 25 #[.pointer (some ⟨Fb, 0, none⟩), .agg #[.int .i64 (k : Int), .int .i64 n, .int .i64 v, .int .i64 p]] W fun e W' => e = .returned .nilIface ∧ Fl W0 Fb (.slice ac N cc) gs ch N (T.set k ⟨n, v, p⟩) (wk ++ [k]) d false W' ∧ Fz W W' := by
  have hV1 := (MapKept.heap_alloc W (.cells #[.int .i64 (k : Int), .int .i64 n, .int .i64 v, .int .i64 p] 64)).1
  have hVb := (Below.refl W.heap.size W).alloc (Nat.le_refl _) (.cells #[.int .i64 (k : Int), .int .i64 n, .int .i64 v, .int .i64 p] 64)
  obtain ⟨V, hV⟩ : ∃ V, W.alloc (.cells #[.int .i64 (k : Int), .int .i64 n, .int .i64 v, .int .i64 p] 64) = V := ⟨_, rfl⟩
  rw [hV] at hV1 hVb
  have h1 := h.below hVb
  have hs0 : tg T k = ⟨0, 0, 0⟩ := sane_zero (h.sane _ (tgF_mem (by rw [h.len]; exact hk))) hz
  have hcell := h1.cells hk
  rw [hs0] at hcell
  obtain ⟨c0, c1, c2, -, -, -⟩ := hcell
  have hEl := heap_lt hV1
  have hFl := heap_lt h1.blk
  have hgl := h1.row.lt
  obtain ⟨Eb, hEb⟩ : ∃ Eb, W.heap.size = Eb := ⟨_, rfl⟩
  rw [hEb] at hV1 hEl
  have e0 := cell_of_heap hV1 0
  have e1 := cell_of_heap hV1 1
  have e2 := cell_of_heap hV1 2
  have e3 := cell_of_heap hV1 3
  have f0 := cell_of_heap h1.blk 0
  have f1 := cell_of_heap h1.blk 1
  simp at e0 e1 e2 e3 f0 f1
  have pe0 : ∀ y : Later V.heap.size V, y.w.cell? ⟨Eb, 0, none⟩ = _ := fun y => y.cell hEl e0
  have pf0 : ∀ y : Later V.heap.size V, y.w.cell? ⟨Fb, 0, none⟩ = _ := fun y => y.cell hFl f0
  have HV := hid hV
  have HEb := hid hEb
  have HV1 := hid hV1
  have H1 := hid h1
  have HW := hid hVb
  have HB : Hid (k < N ∧ 0 ≤ n ∧ n ≤ 100 ∧ 0 ≤ v ∧ v ≤ 100 ∧ 1 ≤ p ∧ p ≤ 3 ∧ (tg T k).p = 0) := ⟨hk, hn, hn1, hv, hv1, hp0, hp1, hz⟩
  have q1 : decide ((N : Int) ≤ (k : Int)) = false := decide_eq_false (by omega)
  have q1n : decide (N ≤ k) = false := decide_eq_false (by omega)
  have q2 : ¬ 100 < n := by omega
  have q3 : ¬ 100 < v := by omega
  have q4 : (0 == p) = false := by simp; omega
  have k0 : (0 : Int) ≤ (k : Int) := by omega
  have k1 : (k : Int) < (N : Int) := by omega
  clear h hV hV1 hVb h1 hk hn hn1 hv hv1 hp0 hp1 hz hs0 e0 e1 e2 e3 f0
  refine calls_of_wpN Tryd.func25 rfl ?_
  simp only [Tryd.ntmps25, List.size_toArray, List.length_cons, List.length_nil, Nat.reduceAdd, Nat.reduceSub, Array.replicate_succ, Array.replicate_zero, List.push_toArray, List.append_toArray, List.nil_append, List.cons_append]
  refine wpN_seq_k fun K hK => ?_
  go_wp2_with fail
  rw [HV.out]
  clear hEb
  refine wpN_seq_k fun K hK => ?_
  go_wp2_with fail
  refine wp_region_calm V.heap.size (by kernel_rfl) (by kernel_rfl) ?_
  repeat (go_big_quiet_step (fail))
  refine wpQuiet_nil ?_
  rintro w5 ⟨y, rfl⟩
  have HY1 := hid y.h
  clear pe0 pf0
  have hf1 := (y.h.block Eb hEl).trans HV1.out
  generalize y.w = X1 at *
  have e1 := cell_of_heap hf1 1
  have e2 := cell_of_heap hf1 2
  simp at e1 e2
  go_wp2_with fail
  clear c0 c1 c2 f1 e1 e2 hFl hgl
  have HX1 := hid (H1.out.below HY1.out)
  have hBX1 := heap_lt HX1.out.blk
  have hGX1 := HX1.out.row.lt
  have hEX1 := heap_lt hf1
  have cX1 := HX1.out.cells HB.out.1
  rw [sane_zero (HX1.out.sane _ (tgF_mem (by rw [HX1.out.len]; exact HB.out.1))) HB.out.2.2.2.2.2.2.2] at cX1
  obtain ⟨c0, c1, c2, zc0, zc1, zc2⟩ := cX1
  dsimp only at c0 c1 c2
  have f1 := cell_of_heap HX1.out.blk 1
  have e0 := cell_of_heap hf1 0
  have e1 := cell_of_heap hf1 1
  have e2 := cell_of_heap hf1 2
  have e3 := cell_of_heap hf1 3
  simp at f1 e0 e1 e2 e3
  have pe0 : ∀ y : Later X1.heap.size X1, y.w.cell? ⟨Eb, 0, none⟩ = _ := fun y => y.cell hEX1 e0
  have pe1 : ∀ y : Later X1.heap.size X1, y.w.cell? ⟨Eb, 1, none⟩ = _ := fun y => y.cell hEX1 e1
  have pe2 : ∀ y : Later X1.heap.size X1, y.w.cell? ⟨Eb, 2, none⟩ = _ := fun y => y.cell hEX1 e2
  have pe3 : ∀ y : Later X1.heap.size X1, y.w.cell? ⟨Eb, 3, none⟩ = _ := fun y => y.cell hEX1 e3
  have pf1 : ∀ y : Later X1.heap.size X1, y.w.cell? ⟨Fb, 1, none⟩ = _ := fun y => y.cell hBX1 f1
  have pc0 : ∀ y : Later X1.heap.size X1, y.w.cell? ⟨gs, k * 3, none⟩ = _ := fun y => y.cell hGX1 c0
  have pc1 : ∀ y : Later X1.heap.size X1, y.w.cell? ⟨gs, k * 3 + 1, none⟩ = _ := fun y => y.cell hGX1 c1
  have pc2 : ∀ y : Later X1.heap.size X1, y.w.cell? ⟨gs, k * 3 + 2, none⟩ = _ := fun y => y.cell hGX1 c2
  refine wp_region_calm X1.heap.size (by kernel_rfl) (by kernel_rfl) ?_
  repeat (go_big_quiet_step (fail))
  refine wpQuiet_nil ?_
  rintro w5 ⟨y, rfl⟩
  have HYX2 := hid y.h
  have hfX2 := (y.h.block Eb hEX1).trans hf1
  generalize y.w = X2 at *
  clear pe0 pe1 pe2 pe3 pf1 pc0 pc1 pc2 c0 c1 c2 zc0 zc1 zc2 f1 e0 e1 e2 e3
  go_wp2_with fail
  have HX2 := hid (HX1.out.below HYX2.out)
  have hBX2 := heap_lt HX2.out.blk
  have hGX2 := HX2.out.row.lt
  have hEX2 := heap_lt hfX2
  have cX2 := HX2.out.cells HB.out.1
  rw [sane_zero (HX2.out.sane _ (tgF_mem (by rw [HX2.out.len]; exact HB.out.1))) HB.out.2.2.2.2.2.2.2] at cX2
  obtain ⟨c0, c1, c2, zc0, zc1, zc2⟩ := cX2
  dsimp only at c0 c1 c2
  have f1 := cell_of_heap HX2.out.blk 1
  have e0 := cell_of_heap hfX2 0
  have e1 := cell_of_heap hfX2 1
  have e2 := cell_of_heap hfX2 2
  have e3 := cell_of_heap hfX2 3
  simp at f1 e0 e1 e2 e3
  have pe0 : ∀ y : Later X2.heap.size X2, y.w.cell? ⟨Eb, 0, none⟩ = _ := fun y => y.cell hEX2 e0
  have pe1 : ∀ y : Later X2.heap.size X2, y.w.cell? ⟨Eb, 1, none⟩ = _ := fun y => y.cell hEX2 e1
  have pe2 : ∀ y : Later X2.heap.size X2, y.w.cell? ⟨Eb, 2, none⟩ = _ := fun y => y.cell hEX2 e2
  have pe3 : ∀ y : Later X2.heap.size X2, y.w.cell? ⟨Eb, 3, none⟩ = _ := fun y => y.cell hEX2 e3
  have pf1 : ∀ y : Later X2.heap.size X2, y.w.cell? ⟨Fb, 1, none⟩ = _ := fun y => y.cell hBX2 f1
  have pc0 : ∀ y : Later X2.heap.size X2, y.w.cell? ⟨gs, k * 3, none⟩ = _ := fun y => y.cell hGX2 c0
  have pc1 : ∀ y : Later X2.heap.size X2, y.w.cell? ⟨gs, k * 3 + 1, none⟩ = _ := fun y => y.cell hGX2 c1
  have pc2 : ∀ y : Later X2.heap.size X2, y.w.cell? ⟨gs, k * 3 + 2, none⟩ = _ := fun y => y.cell hGX2 c2
  refine wp_region_calm X2.heap.size (by kernel_rfl) (by kernel_rfl) ?_
  repeat (go_big_quiet_step (fail))
  refine wpQuiet_nil ?_
  rintro w5 ⟨y, rfl⟩
  have HYX3 := hid y.h
  have hfX3 := (y.h.block Eb hEX2).trans hfX2
  generalize y.w = X3 at *
  clear pe0 pe1 pe2 pe3 pf1 pc0 pc1 pc2 c0 c1 c2 zc0 zc1 zc2 f1 e0 e1 e2 e3
  go_wp2_with fail
  have HX3 := hid (HX2.out.below HYX3.out)
  have hBX3 := heap_lt HX3.out.blk
  have hGX3 := HX3.out.row.lt
  have hEX3 := heap_lt hfX3
  have cX3 := HX3.out.cells HB.out.1
  rw [sane_zero (HX3.out.sane _ (tgF_mem (by rw [HX3.out.len]; exact HB.out.1))) HB.out.2.2.2.2.2.2.2] at cX3
  obtain ⟨c0, c1, c2, zc0, zc1, zc2⟩ := cX3
  dsimp only at c0 c1 c2
  have f1 := cell_of_heap HX3.out.blk 1
  have e0 := cell_of_heap hfX3 0
  have e1 := cell_of_heap hfX3 1
  have e2 := cell_of_heap hfX3 2
  have e3 := cell_of_heap hfX3 3
  simp at f1 e0 e1 e2 e3
  refine wpN_seq_k fun K hK => ?_
  go_wp2_with fail
  go_region
  go_wp2_with fail
  have HZb : Hid (Fl W0 Fb (.slice ac N cc) gs ch N T wk d false X3.drew) := HX3.out.below (Below.refl _ _).drew
  obtain ⟨s0, r0, hch⟩ := HZb.out.chb
  have hpush := HZb.out.push (s := ⟨n, v, p⟩) HB.out.1 HB.out.2.2.2.2.2.2.2 (Or.inr ⟨HB.out.2.2.2.2.2.1, HB.out.2.2.2.2.2.2.1, HB.out.2.1, HB.out.2.2.1, HB.out.2.2.2.1, HB.out.2.2.2.2.1⟩) (by dsimp only; have := HB.out; omega) hch
  obtain ⟨Z, hZ⟩ : ∃ Z, spot3 X3.drew gs k ⟨n, v, p⟩ = Z := ⟨_, rfl⟩
  rw [hZ] at hpush
  have hZF : Z.heap[Fb]? = X3.heap[Fb]? := by rw [← hZ]; exact spot3_other X3.drew gs k _ HX3.out.ne.1
  have hZE : Z.heap[Eb]? = X3.heap[Eb]? := by
    rw [← hZ]
    refine spot3_other X3.drew gs k _ (fun e => ?_)
    obtain ⟨cg, hcg, -⟩ := HX3.out.row
    subst e
    rw [hfX3] at hcg
    cases hcg
  have hZC : Z.heap[ch]? = X3.heap[ch]? := by rw [← hZ]; exact spot3_other X3.drew gs k _ (Ne.symm HX3.out.ne.2.2)
  have HP := hid hpush
  have HCh : Hid (Z.heap[ch]? = some (.chan N (wkA wk) false s0 r0 false)) := hZC.trans hch
  have HZE := hid (hZE.trans hfX3)
  have HZF := hid (hZF.trans HX3.out.blk)
  have f3 := cell_of_heap HZF.out 3
  have zf3 := frozen_of_heap HZF.out 3
  simp at f3
  have hw3 : wrap64 (d + (wk.length : Int) + 1) = d + wk.length + 1 := by
    rw [wrap64]
    have := HX3.out.dl
    have := HX3.out.room
    have := HX3.out.nl
    omega
  have HRm : Hid (wk.length < N) := by
    show _ < _
    have h1 := HX3.out.room
    have h2 := free_set T k (by rw [HX3.out.len]; exact HB.out.1) HB.out.2.2.2.2.2.2.2 ⟨n, v, p⟩ (by dsimp only; have := HB.out; omega)
    omega
  have HFb : Hid (Fb ≠ Eb ∧ ch ≠ Fb) := by
    refine ⟨fun e => ?_, Ne.symm HX3.out.ne.2.1⟩
    subst e
    have h1 := HZF.out
    rw [HZE.out] at h1
    cases h1
  change wpN _ _ _ _ (spot3 X3.drew gs k ⟨n, v, p⟩)
  rw [hZ]
  clear hZ hpush hZF hZE hZC hch HZb c0 c1 c2 zc0 zc1 zc2 f1 e0 e1 e2 e3
  refine wpN_seq_k fun K hK => ?_
  go_wp2_with fail
  obtain ⟨Z2, hZ2⟩ : ∃ Z2, Z.setCell ⟨Fb, 3, none⟩ (.int .i64 (d + wk.length + 1)) = Z2 := ⟨_, rfl⟩
  have HF2 : Hid (∃ u, Z2.heap[Fb]? = some (.cells #[.slice ac N cc, .slice (some ⟨gs, 0, none⟩) N N, .chan (some ch), u] 61)) := ⟨.int .i64 (d + wk.length + 1), by rw [← hZ2]; simp [World.setCell, Array.getElem?_modify, HZF.out]⟩
  have HE2 : Hid (Z2.heap[Eb]? = _) := (by rw [← hZ2]; exact Below.heap_setCell Z ⟨Fb, 3, none⟩ _ Eb (Ne.symm HFb.out.1) : Z2.heap[Eb]? = Z.heap[Eb]?).trans HZE.out
  have HC2 : Hid (Z2.heap[ch]? = _) := (by rw [← hZ2]; exact Below.heap_setCell Z ⟨Fb, 3, none⟩ _ ch HFb.out.2 : Z2.heap[ch]? = Z.heap[ch]?).trans HCh.out
  rw [hZ2] at HP ⊢
  clear hZ2 f3 zf3 hw3
  obtain ⟨u3, hF2⟩ := HF2.out
  have f2 := cell_of_heap hF2 2
  have e0 := cell_of_heap HE2.out 0
  simp at f2 e0
  have f2 : Z2.drew.cell? ⟨Fb, 2, none⟩ = some (.chan (some ch)) := f2
  have e0 : Z2.drew.cell? ⟨Eb, 0, none⟩ = some (.int .i64 (k : Int)) := e0
  refine wpN_seq ?_
  refine wpN_region_any (by kernel_rfl) ?_
  change AnyN _ _ _ (6 + 1) (lst2 0 0) _ _
  refine anyN_sends (w := Z2.drew) (s := 79) (vs := fun | 0 => .pointer (some ⟨Fb, 0, none⟩) | 1 => .pointer (some ⟨Fb, 0, none⟩) | 2 => .pointer (some ⟨Fb, 2, none⟩) | 3 => .chan (some ch) | 4 => .pointer (some ⟨Eb, 0, none⟩) | _ => .int .i64 (k : Int)) (c := ch) (z := .tuple #[]) (x := .int .i64 (k : Int)) (cap := N) (buf := wkA wk) (s0 := s0) (r0 := r0) ?_ (show Z2.drew.heap[ch]? = _ from HC2.out) (by simp [wkA]; exact HRm.out) ?_ 6 0 0 _ (by omega) (by omega) rfl ⟨rfl, fun _ _ => rfl, fun k hk => absurd hk (by omega), fun k hk => absurd hk (by omega), fun _ _ _ => rfl, fun _ _ _ => rfl, rfl⟩
  · refine ⟨rfl, ?_, by kernel_rfl, ?_, rfl, ?_, ?_, ?_⟩
    · exact Nat.le_refl 85
    · intro i hi
      have hi' : i = 0 ∨ i = 1 ∨ i = 2 ∨ i = 3 ∨ i = 4 ∨ i = 5 := by omega
      rcases hi' with rfl | rfl | rfl | rfl | rfl | rfl <;> rfl
    · intro i hi b j hg o ho
      have hi' : i = 0 ∨ i = 1 ∨ i = 2 ∨ i = 3 := by omega
      rcases hi' with rfl | rfl | rfl | rfl
      · have e : b.tmps[0]? = some (.pointer (some ⟨Fb, 0, none⟩)) := (hg.old 0 (by omega)).trans rfl
        cases ho
        simp [go_sem, e]
      · have e : b.tmps[79]? = some (.pointer (some ⟨Fb, 0, none⟩)) := hg.ga 0 (by omega)
        cases ho
        simp [go_sem, e]
      · have e : b.tmps[80]? = some (.pointer (some ⟨Fb, 0, none⟩)) := hg.ga 1 (by omega)
        cases ho
        simp [go_sem, e]
      · have e : b.tmps[81]? = some (.pointer (some ⟨Fb, 2, none⟩)) := hg.ga 2 (by omega)
        cases ho
        simp [go_sem, e, f2]
    · intro j hj b i hg o ho
      have hj' : j = 0 ∨ j = 1 := by omega
      rcases hj' with rfl | rfl
      · have e : b.tmps[3]? = some (.pointer (some ⟨Eb, 0, none⟩)) := (hg.old 3 (by omega)).trans rfl
        cases ho
        simp [go_sem, e]
      · have e : b.tmps[83]? = some (.pointer (some ⟨Eb, 0, none⟩)) := hg.gb 0 (by omega)
        cases ho
        simp [go_sem, e, e0]
    · intro b hg o ho
      have e : b.tmps[82]? = some (.chan (some ch)) := hg.ga 3 (by omega)
      have e' : b.tmps[84]? = some (.int .i64 (k : Int)) := hg.gb 1 (by omega)
      cases ho
      simp [go_sem, e, e', scase]
  · show wpN _ _ _ _ _
    refine wpN_of (wp_at (by simp [go_sem]; exact rfl) ?_)
    have HPz := hid HP.out
    change Code.wp _ _ _ _ (Z2.drew.setChan ch N ((wkA wk).push (.int .i64 (k : Int))) false (s0 + 1) r0 false)
    generalize Z2.drew.setChan ch N ((wkA wk).push (.int .i64 (k : Int))) false (s0 + 1) r0 false = Z4 at *
    clear f2 e0 hF2
    go_wp2_with fail
    go_ret
    refine ⟨rfl, HPz.out.1, ?_⟩
    exact ((Fz.of_below HW.out).trans ((Fz.of_below HY1.out).trans ((Fz.of_below HYX2.out).trans ((Fz.of_below HYX3.out).trans (Fz.of_below (Below.refl _ _).drew))))).trans HPz.out.2
end Go.Proofs.YtfmkgppkgmjpfaaDoor
