/- The specification's check of code, from beginning to end. -/
import Derived.Test.YtfmkgppkgmjpfaaDoorCheckRun
import Derived.Test.YtfmkgppkgmjpfaaDoorStagesL
import Derived.Test.YtfmkgppkgmjpfaaDoorIntRows
import Derived.Deep.LoopGhost
import Derived.Test.YtfmkgppkgmjpfaaDoorCalm
namespace Go.Proofs.YtfmkgppkgmjpfaaDoor
open Go.RowKit Go.Deep

theorem Ck.pop {W0 : World} {Mb : Nat} {vc : Value} {ge gs gp ce cs cp N : Nat} {T : List Sq} {w : List Nat} {gw lw cw m : Nat} {bad : Bool} {W : World} (h : Ck W0 Mb vc ge gs gp ce cs cp N T w (.slice (some ⟨gw, 0, none⟩) lw cw) bad W) (hm : w.length = m + 1) :
    Ck W0 Mb vc ge gs gp ce cs cp N T (w.take m) (.slice (some ⟨gw, 0, none⟩) m cw) bad (W.setCell ⟨Mb, 4, none⟩ (.slice (some ⟨gw, 0, none⟩) m cw)) := by
  have ho : ∀ q, q ≠ Mb → (W.setCell ⟨Mb, 4, none⟩ (.slice (some ⟨gw, 0, none⟩) m cw)).heap[q]? = W.heap[q]? := fun q hq => Below.heap_setCell W ⟨Mb, 4, none⟩ _ q hq
  have hn : ∀ {v : Value} {n : Nat} {xs : List Value}, W.ownsRow W0.heap.size 3 1 v n xs → (W.setCell ⟨Mb, 4, none⟩ (.slice (some ⟨gw, 0, none⟩) m cw)).ownsRow W0.heap.size 3 1 v n xs := fun {v n xs} hr => ck_same hr (fun g hg => ho g (fun e => by
    subst e
    obtain ⟨-, cur, hc⟩ := ck_type hr hg
    rw [h.blk] at hc
    cases hc))
  have hw := h.wr
  obtain ⟨ad, c, e⟩ := ck_slice hw
  cases e
  have ht := ck_take hw (by omega)
  rw [hm, Nat.add_sub_cancel] at ht
  have hr := h.room
  have hl : (w.take m).length = m := by rw [List.length_take]; omega
  refine ⟨by simp [World.setCell, Array.getElem?_modify, h.blk], hn h.er, hn h.sr, hn h.pr, ?_, h.ne, h.len, h.nl, h.sane, by omega, h.mb, ⟨h.bel.os, h.bel.tape, h.bel.output, by simpa [World.setCell] using h.bel.size, fun q hq => (ho q (by have := h.mb; omega)).trans (h.bel.block q hq)⟩⟩
  have e2 : rowN (w.take m) = (rowN w).take m := by unfold rowN; rw [List.map_take]
  rw [e2, hl]
  exact hn ht

theorem block_in' {W : World} {a : Addr} {v : Value} (h : W.cell? a = some v) : a.block < W.heap.size := by
  unfold World.cell? at h
  split at h
  · rename_i e
    obtain ⟨hlt, _⟩ := Array.getElem?_eq_some_iff.mp e
    exact hlt
  · cases h

theorem rowN_get {w : List Nat} {k : Nat} (hk : k < w.length) : (rowN w)[k]? = some (.int .i64 ((w.getD k 0 : Nat) : Int)) := by
  unfold rowN
  rw [List.getElem?_map, List.getElem?_eq_getElem hk, List.getD_eq_getElem?_getD, List.getElem?_eq_getElem hk]
  rfl

/-- What the check tells. -/
def RunT (w : World) (is : List In) (Mb : Nat) (w' : World) : Prop :=
  ∃ vc ve vs vp vw b, w'.heap[Mb]? = some (.cells #[vc, ve, vs, vp, vw, .bool b] 38) ∧ Below w.heap.size w w' ∧ validZ is = !b ∧
    (b = false → ∃ T, Whole is T ∧ w'.ownsRow w.heap.size 3 1 ve is.length (rowI envV T) ∧ w'.ownsRow w.heap.size 3 1 vs is.length (rowI stkV T))

def RunE (w : World) (is : List In) (e : Ending) (w' : World) : Prop := ∃ Mb, e = .returned (.pointer (some ⟨Mb, 0, none⟩)) ∧ RunT w is Mb w'

theorem all_take {is : List In} {k : Nat} (hk : k < is.length) : (is.take (k + 1)).all In.ok = ((is.take k).all In.ok && (is.getD k default).ok) := by
  have e : is.take (k + 1) = is.take k ++ [is.getD k default] := by
    rw [List.take_add_one, List.getElem?_eq_getElem hk, List.getD_eq_getElem?_getD, List.getElem?_eq_getElem hk]
    rfl
  rw [e, List.all_append]
  simp

set_option maxHeartbeats 16000000 in
set_option maxRecDepth 100000 in
theorem l6Run_calls (bc oc cc : Nat) (is : List In) (w : World) (h0 : 0 < is.length) (hb : bc < w.heap.size) (hin : InsAt w bc oc is) (hm : is.length ≤ 1048576) :
    Calls Tryd.prog 16 #[.slice (some ⟨bc, oc, none⟩) is.length cc] w (RunE w is) := by
  obtain ⟨N, hN⟩ : ∃ N, is.length = N := ⟨_, rfl⟩
  have HN := hid hN
  have HIn := hid (And.intro hb (And.intro hin (And.intro h0 hm)))
  obtain ⟨b0, hb0⟩ : ∃ b0, decide (1500 < N) = b0 := ⟨_, rfl⟩
  have hb0z : decide ((1500 : Int) < (N : Int)) = b0 := by rw [← hb0]; congr 1; simp; omega
  have HB0 := hid hb0
  rw [hN]
  clear hN h0 hb hin hm
  have hA1 := (MapKept.heap_alloc w (.cells #[.slice (some ⟨bc, oc, none⟩) N cc, .slice none 0 0, .slice none 0 0, .slice none 0 0, .slice none 0 0, .bool b0] 38)).1
  have hL1 := (Below.refl w.heap.size w).alloc (Nat.le_refl _) (.cells #[.slice (some ⟨bc, oc, none⟩) N cc, .slice none 0 0, .slice none 0 0, .slice none 0 0, .slice none 0 0, .bool b0] 38)
  obtain ⟨Y, hY⟩ : ∃ Y, w.alloc (.cells #[.slice (some ⟨bc, oc, none⟩) N cc, .slice none 0 0, .slice none 0 0, .slice none 0 0, .slice none 0 0, .bool b0] 38) = Y := ⟨_, rfl⟩
  rw [hY] at hA1 hL1
  obtain ⟨Mb, hMb⟩ : ∃ Mb, w.heap.size = Mb := ⟨_, rfl⟩
  rw [hMb] at hA1
  have HBd : Hid (Bd w Mb (.slice (some ⟨bc, oc, none⟩) N cc) (.slice none 0 0) (.slice none 0 0) (.slice none 0 0) 0 0 0 b0 Y) := ⟨hA1, ⟨World.ownsRow_nil _ _ _ _, World.ownsRow_nil _ _ _ _, World.ownsRow_nil _ _ _ _, fun g e => (by cases e), fun g e => (by cases e), fun g e => (by cases e)⟩, by omega, hL1⟩
  have HY := hid hY
  have HMb := hid hMb
  clear hA1 hL1 hY
  go_enter Tryd.func16, Tryd.ntmps16
  go_upto_region 2 with fail
  rw [HY.out]
  clear hb0 hb0z hMb HY
  go_wp2_with fail
  obtain ⟨i0, hi, hz0, hz1, hz2⟩ := info_parts info_intC
  go_loopw [4] (fun i wr => ∃ (j : Nat) (a b c : Value) (bad : Bool), j ≤ N ∧ i = .int .i64 (j : Int) ∧ Hid (Bd w Mb (.slice (some ⟨bc, oc, none⟩) N cc) a b c j j j bad wr) ∧ Hid (bad = (b0 || !(is.take j).all In.ok))) (fun i _ => N - (intOf i).toNat)
  case atStart => exact ⟨0, _, _, _, b0, Nat.zero_le _, rfl, HBd, by show b0 = _; simp⟩
  case round =>
    clear HBd
    obtain ⟨j, a, b, c, bad, hj, rfl, HBr, HBad⟩ := hrel
    by_cases hlt : (j : Int) < (N : Int)
    · have hjn : j < is.length := by have := HN.out; omega
      have HJl : Hid (j < N ∧ N ≤ 1048576) := ⟨by omega, by have := HIn.out; have := HN.out; omega⟩
      have hstep : N - (intOf (.int .i64 ((j + 1 : Nat) : Int))).toNat < N - (intOf (.int .i64 (j : Int))).toNat := by simp only [intOf, Int.toNat_natCast]; omega
      have HSt := hid hstep
      have HAll := hid (all_take hjn)
      have hj0 : (0 : Int) ≤ (j : Int) := by omega
      have HJn := hid hjn
      clear hstep hjn hj
      have e1 := cell_of_heap HBr.out.blk 1
      simp at e1
      go_upto_region 6 with (first
        | (at_builtin; refine wpList_append_own_at _ rfl _ _ 29 rfl w.heap.size 3 i0 (.int .i64 0) 1 8 Tryd.underlying29 hi hz0 hz1 hz2 rfl (by decide) _ _ _ rfl (HBr.out.rows.ra.alloc _) ⟨_, 0, none⟩ 1 1 [.int .i64 (-1)] rfl rfl (cell_single _ _ rfl _ _) (fun u hu => by simp only [List.mem_singleton] at hu; subst hu; rfl) (by have := HJl.out; unfold maxLen; omega) (by have := HJl.out; omega) (by have := HBr.out.bel.size; simp; omega) ?_
           intro v' w3 hown3 hgrow3 hnil3 hat3
           obtain ⟨av', cv', rfl⟩ := ck_slice hown3
           have HB1 := hid (HBr.out.app1 ((Below.refl _ _).alloc (Nat.le_refl _) _) hown3 hgrow3 hat3)
           have hbk := grown_blk HBr.out.rows.ra ((Below.refl _ _).alloc (Nat.le_refl _) _) hgrow3 HBr.out.blk
           have f1 := cell_of_heap hbk 1
           have g1 := frozen_of_heap hbk 1
           simp at f1
           clear hown3 hgrow3 hnil3 hat3 hbk))
      obtain ⟨X1, hX1⟩ : ∃ X, w3.setCell ⟨Mb, 1, none⟩ (.slice av' (j + 1) cv') = X := ⟨_, rfl⟩
      rw [hX1] at HB1 ⊢
      clear hX1 f1 g1 e1 HBr
      have e2 := cell_of_heap HB1.out.blk 2
      simp at e2
      go_upto_region 7 with (first
        | (at_builtin; refine wpList_append_own_at _ rfl _ _ 29 rfl w.heap.size 3 i0 (.int .i64 0) 1 8 Tryd.underlying29 hi hz0 hz1 hz2 rfl (by decide) _ _ _ rfl (HB1.out.rows.rb.alloc _) ⟨_, 0, none⟩ 1 1 [.int .i64 (-1)] rfl rfl (cell_single _ _ rfl _ _) (fun u hu => by simp only [List.mem_singleton] at hu; subst hu; rfl) (by have := HJl.out; unfold maxLen; omega) (by have := HJl.out; omega) (by have := HB1.out.bel.size; simp; omega) ?_
           intro v' w3 hown3 hgrow3 hnil3 hat3
           obtain ⟨av', cv', rfl⟩ := ck_slice hown3
           have HB2 := hid (HB1.out.app2 ((Below.refl _ _).alloc (Nat.le_refl _) _) hown3 hgrow3 hat3)
           have hbk := grown_blk HB1.out.rows.rb ((Below.refl _ _).alloc (Nat.le_refl _) _) hgrow3 HB1.out.blk
           have f2 := cell_of_heap hbk 2
           have g2 := frozen_of_heap hbk 2
           simp at f2
           clear hown3 hgrow3 hnil3 hat3 hbk))
      obtain ⟨X2, hX2⟩ : ∃ X, w3.setCell ⟨Mb, 2, none⟩ (.slice av' (j + 1) cv') = X := ⟨_, rfl⟩
      rw [hX2] at HB2 ⊢
      clear hX2 f2 g2 e2 HB1
      have e3 := cell_of_heap HB2.out.blk 3
      simp at e3
      go_upto_region 8 with (first
        | (at_builtin; refine wpList_append_own_at _ rfl _ _ 29 rfl w.heap.size 3 i0 (.int .i64 0) 1 8 Tryd.underlying29 hi hz0 hz1 hz2 rfl (by decide) _ _ _ rfl (HB2.out.rows.rc.alloc _) ⟨_, 0, none⟩ 1 1 [.int .i64 0] rfl rfl (cell_single _ _ rfl _ _) (fun u hu => by simp only [List.mem_singleton] at hu; subst hu; rfl) (by have := HJl.out; unfold maxLen; omega) (by have := HJl.out; omega) (by have := HB2.out.bel.size; simp; omega) ?_
           intro v' w3 hown3 hgrow3 hnil3 hat3
           obtain ⟨av', cv', rfl⟩ := ck_slice hown3
           have HB3 := hid (HB2.out.app3 ((Below.refl _ _).alloc (Nat.le_refl _) _) hown3 hgrow3 hat3)
           have hbk := grown_blk HB2.out.rows.rc ((Below.refl _ _).alloc (Nat.le_refl _) _) hgrow3 HB2.out.blk
           have f3 := cell_of_heap hbk 3
           have g3 := frozen_of_heap hbk 3
           simp at f3
           clear hown3 hgrow3 hnil3 hat3 hbk))
      obtain ⟨X3, hX3⟩ : ∃ X, w3.setCell ⟨Mb, 3, none⟩ (.slice av' (j + 1) cv') = X := ⟨_, rfl⟩
      rw [hX3] at HB3 ⊢
      clear hX3 f3 g3 e3 HB2
      have e5 := cell_of_heap HB3.out.blk 5
      have z5 := frozen_of_heap HB3.out.blk 5
      simp at e5
      cases bad with
      | true =>
        have HBad' : Hid (true = (b0 || !(is.take (j + 1)).all In.ok)) := by
          show _ = _
          rw [HAll.out]
          have := HBad.out
          cases b0 with
          | true => rfl
          | false =>
            simp only [Bool.false_or] at this ⊢
            have h2 : (is.take j).all In.ok = false := by simpa using this.symm
            rw [h2]
            rfl
        go_wp2_with fail
        try rw [wrap_inc HJl.out.1 HJl.out.2]
        exact ⟨⟨j + 1, _, _, _, true, by have := HJl.out; omega, rfl, HB3.out.flag true, HBad'⟩, HSt.out⟩
      | false =>
        have hinW := HIn.out.2.1.below HB3.out.bel HIn.out.1
        have c0 := hinW j HJn.out 0 (by omega)
        have c1 := hinW j HJn.out 1 (by omega)
        have c2 := hinW j HJn.out 2 (by omega)
        have c3 := hinW j HJn.out 3 (by omega)
        obtain ⟨⟨op, x, y, z⟩, hii⟩ : ∃ i, is.getD j default = i := ⟨_, rfl⟩
        rw [hii] at c0 c1 c2 c3
        simp only [In.cell, Nat.add_zero] at c0 c1 c2 c3
        have HII := hid hii
        clear hii hinW
        go_wp2_with fail
        refine (specInsOk_calls op x y z _).mono ?_
        rintro e X4 ⟨rfl, hb4⟩
        have HB4 := hid (HB3.out.below hb4)
        clear hb4 HB3 e5 z5 c0 c1 c2 c3
        have e5 := cell_of_heap HB4.out.blk 5
        have z5 := frozen_of_heap HB4.out.blk 5
        simp at e5
        obtain ⟨ok, hok⟩ : ∃ ok, insOkZ op x y z = ok := ⟨_, rfl⟩
        rw [hok]
        have HBad' : Hid ((!ok) = (b0 || !(is.take (j + 1)).all In.ok)) := by
          show _ = _
          rw [HAll.out, HII.out]
          have := HBad.out
          cases b0 with
          | true => cases this
          | false =>
            simp only [Bool.false_or] at this ⊢
            have h2 : (is.take j).all In.ok = true := by simpa using this.symm
            rw [h2, Bool.true_and]
            show (!ok) = !(insOkZ op x y z)
            rw [hok]
        clear hok
        go_wp2_with fail
        try rw [wrap_inc HJl.out.1 HJl.out.2]
        exact ⟨⟨j + 1, _, _, _, !ok, by have := HJl.out; omega, rfl, HB4.out.flag (!ok), HBad'⟩, HSt.out⟩
    · have ej : j = N := by omega
      subst ej
      clear hlt hj
      have HOk : Hid (bad = !codeOkZ is) := by
        show _ = _
        rw [HBad.out]
        unfold codeOkZ
        rw [← HN.out, List.take_length, ← HB0.out, ← HN.out]
        by_cases h15 : is.length ≤ 1500
        · rw [decide_eq_true h15, decide_eq_false (by omega)]
          rfl
        · rw [decide_eq_false h15, decide_eq_true (by omega)]
          rfl
      have e5 := cell_of_heap HBr.out.blk 5
      simp at e5
      cases bad with
      | true =>
        go_wp2_with fail
        go_ret
        exact ⟨Mb, rfl, _, _, _, _, _, _, HBr.out.blk, HBr.out.bel, valid_bad (Or.inl (by have := HOk.out; simpa using this.symm)), fun h => by cases h⟩
      | false =>
        have hcok : codeOkZ is = true := by have := HOk.out; simpa using this.symm
        have hN15 : j ≤ 1500 := by
          unfold codeOkZ at hcok
          rw [Bool.and_eq_true] at hcok
          have := of_decide_eq_true hcok.1
          have := HN.out
          omega
        obtain ⟨ge, gs, gp, ce, cs, cp, rfl, rfl, rfl, hck⟩ := HBr.out.start (by have := HIn.out; have := HN.out; omega) hN15
        have HS0 := hid (StC.of hck)
        have HCo := hid hcok
        clear hck hcok hN15 HBr HBad HOk
        go_wp2_with fail
        refine (come_st HS0.out 0 0 0 0 (by decide) (by decide)).mono ?_
        rintro e V1 ⟨rfl, hs1, -⟩
        have HAl : Hid (∀ i ∈ is, i.ok = true) := by
          have := HCo.out
          unfold codeOkZ at this
          rw [Bool.and_eq_true, List.all_eq_true] at this
          exact this.2
        have HG1 : Hid (StC w Mb (.slice (some ⟨bc, oc, none⟩) j cc) ge gs gp ce cs cp j (some ((List.replicate j (⟨0, 0, 0⟩ : Sq)).set 0 ⟨0, 0, 1⟩, [0])) V1) := by
          show StC _ _ _ _ _ _ _ _ _ _ _ _
          have h1 := first_some (cs := is) HIn.out.2.2.1
          rw [HN.out] at h1
          rw [Option.bind_some] at hs1
          dsimp only at hs1
          rw [show (0 : Int) + 1 = 1 from rfl, h1] at hs1
          exact hs1
        have HGo := hid (going_start (cs := is) HIn.out.2.2.1)
        clear hs1 HS0 e5
        go_wp2_with fail
        obtain ⟨vw1, T1, w1, bad1, hck1, -, hx1⟩ := HG1.out
        obtain ⟨rfl, e1, e2⟩ := hx1 _ rfl
        dsimp only at e1 e2
        subst e1 e2
        have HK1 := hid hck1
        have HNl : Hid (is.length = j) := HN.out
        rw [HN.out] at HGo
        clear hck1 hx1 HG1
        have HM : Hid (∀ T wk, Going is T wk → 2 * free T + wk.length ≤ 2 * j) := fun T wk hg => by
          have h1 := hg.tab.room
          have h2 := free_le T
          have h3 := hg.tab.len
          have h4 := HNl.out
          omega
        go_loopg [5] (2 * j) (fun g at_ wr => ∃ (vw : Value) (T : List Sq) (wk : List Nat) (bad : Bool), Hid (Ck w Mb (.slice (some ⟨bc, oc, none⟩) j cc) ge gs gp ce cs cp j T wk vw bad wr) ∧ Hid ((bad = true ∧ ¬ Good is) ∨ (bad = false ∧ Going is T wk ∧ 2 * free T + wk.length ≤ g)))
        case atStart => exact ⟨_, _, _, false, HK1, Or.inr ⟨rfl, HGo.out, HM.out _ _ HGo.out⟩⟩
        case round =>
          clear HK1 HGo HM
          obtain ⟨vw, T, wk, bad, HK, HR⟩ := hrel
          have e5 := cell_of_heap HK.out.blk 5
          have e4 := cell_of_heap HK.out.blk 4
          simp at e4 e5
          obtain ⟨aw, cw, rfl⟩ := ck_slice HK.out.wr
          have FIN : Hid ((bad = true ∨ wk = []) → RunE w is (.returned (.pointer (some ⟨Mb, 0, none⟩))) wr) := fun hor => by
            rcases HR.out with ⟨hb, hng⟩ | ⟨hb, hgo, -⟩
            · subst hb
              exact ⟨Mb, rfl, _, _, _, _, _, _, HK.out.blk, HK.out.bel, valid_bad (Or.inr hng), fun h => by cases h⟩
            · subst hb
              rcases hor with h | h
              · cases h
              · subst h
                have hwh := going_end HAl.out hgo
                refine ⟨Mb, rfl, _, _, _, _, _, _, HK.out.blk, HK.out.bel, valid_good HCo.out hwh.good, fun _ => ⟨T, hwh, ?_, ?_⟩⟩
                · rw [HNl.out]
                  exact HK.out.er
                · rw [HNl.out]
                  exact HK.out.sr
          by_cases hwk : wk = []
          · have hl0 : wk.length = 0 := by rw [hwk]; rfl
            rw [hl0] at e4
            have HW0 := hid hwk
            clear hwk hl0
            go_wp2_with fail
            go_ret
            exact FIN.out (Or.inr HW0.out)
          obtain ⟨m, hm⟩ : ∃ m, wk.length = m + 1 := ⟨wk.length - 1, by have : wk.length ≠ 0 := fun h => hwk (List.eq_nil_of_length_eq_zero h); omega⟩
          obtain ⟨lw, hlw⟩ : ∃ lw, wk.length = lw := ⟨_, rfl⟩
          rw [hlw] at e4
          have hl1 : (0 : Int) < (lw : Int) := by omega
          cases bad with
          | true =>
            clear hwk hm hlw
            go_wp2_with fail
            go_ret
            exact FIN.out (Or.inl (by trivial))
          | false =>
            obtain ⟨hgo, hg2⟩ : Going is T wk ∧ 2 * free T + wk.length ≤ gk := by
              rcases HR.out with ⟨hb, -⟩ | ⟨-, h1, h2⟩
              · cases hb
              · exact ⟨h1, h2⟩
            obtain ⟨gw, rfl⟩ : ∃ gw, aw = some ⟨gw, 0, none⟩ := by
              obtain ⟨-, ⟨-, e⟩ | ⟨g, cap, cur, e, -⟩⟩ := HK.out.wr
              · omega
              · cases e
                exact ⟨g, rfl⟩
            have hcw : wk.length ≤ cw := by
              obtain ⟨-, ⟨-, e⟩ | ⟨g, cap, cur, e, -, -, hc, -⟩⟩ := HK.out.wr
              · omega
              · cases e
                exact hc
            obtain ⟨k, hk⟩ : ∃ k, wk.getD m 0 = k := ⟨_, rfl⟩
            have c4 : wr.cell? ⟨gw, m, none⟩ = some (.int .i64 (k : Int)) := by
              rw [World.ownsRow.cellAt HK.out.wr m (by omega), rowN_get (by omega), hk]
            have hkm : k ∈ wk := by
              rw [← hk, List.getD_eq_getElem?_getD, List.getElem?_eq_getElem (show m < wk.length by omega)]
              exact List.getElem_mem _
            have hw : wrap64 ((lw : Int) - 1) = (m : Int) := by rw [wrap64]; have := HK.out.room; have := HK.out.nl; omega
            have m0 : (0 : Int) ≤ (m : Int) := by omega
            have m1 : (m : Int) < (lw : Int) := by omega
            have m2 : (m : Int) ≤ (cw : Int) := by omega
            have HKp : Hid (∀ X, Below wr.heap.size wr X → Ck w Mb (.slice (some ⟨bc, oc, none⟩) j cc) ge gs gp ce cs cp j T (wk.take m) (.slice (some ⟨gw, 0, none⟩) m cw) false (X.setCell ⟨Mb, 4, none⟩ (.slice (some ⟨gw, 0, none⟩) m cw))) := fun X hX => (HK.out.below hX).pop hm
            have HGs := hid (going_step HAl.out hgo hkm (w := wk.take m) (fun q hq => by
              have e : wk = wk.take m ++ [k] := by
                rw [← hk]
                have h1 := List.take_add_one (l := wk) (i := m)
                rw [show wk.take (m + 1) = wk from List.take_of_length_le (by omega), List.getElem?_eq_getElem (show m < wk.length by omega)] at h1
                rw [List.getD_eq_getElem?_getD, List.getElem?_eq_getElem (show m < wk.length by omega)]
                exact h1
              rw [e, List.mem_append, List.mem_singleton] at hq
              rcases hq with hq | hq
              · exact Or.inr hq
              · exact Or.inl hq) (fun q hq => List.mem_of_mem_take hq) (by rw [List.length_take]; omega))
            have HAt := hid (going_at HAl.out hgo hkm)
            have HG2 := hid (And.intro hg2 (show 1 ≤ wk.length by omega))
            have HK4 := hid (HK.out.blk)
            clear hgo hg2 hk hkm hcw hm hlw hwk FIN HR HK
            have hbl := heap_lt HK4.out
            have p4 : ∀ y : Later wr.heap.size wr, y.w.cell? ⟨Mb, 4, none⟩ = _ := fun y => y.cell hbl e4
            have pc : ∀ y : Later wr.heap.size wr, y.w.cell? ⟨gw, m, none⟩ = _ := fun y => y.cell (block_in' c4) c4
            go_wp2_with fail
            refine wp_region_calm wr.heap.size (by kernel_rfl) (by kernel_rfl) ?_
            repeat (go_big_quiet_step (fail))
            refine wpQuiet_nil ?_
            rintro w5 ⟨y, rfl⟩
            have HY := hid y.h
            have e4' := p4 y
            have z4 := frozen_of_heap ((y.h.block Mb hbl).trans HK4.out) 4
            generalize y.w = X at *
            clear p4 pc e4 e5 c4
            go_wp2_with fail
            go_region
            have HKn := hid ((HKp.out X HY.out).below (Below.refl _ _).drew)
            obtain ⟨Z, hZ⟩ : ∃ Z, (X.setCell ⟨Mb, 4, none⟩ (.slice (some ⟨gw, 0, none⟩) m cw)).drew = Z := ⟨_, rfl⟩
            rw [hZ] at HKn ⊢
            clear hZ HKp e4' z4 hw m0 m1 m2 hl1 HY
            have HSt : Hid (Calls Tryd.prog 23 #[.pointer (some ⟨Mb, 0, none⟩), .int .i64 (k : Int)] Z fun e W' => e = .returned (.tuple #[]) ∧ StC w Mb (.slice (some ⟨bc, oc, none⟩) j cc) ge gs gp ce cs cp j (stepZ is T (wk.take m) k) W') := by
              show Calls _ _ _ _ _
              have h1 := HKn.out
              rw [← HNl.out] at h1 ⊢
              exact step_calls h1 HIn.out.1 HIn.out.2.1 HAl.out k HAt.out.1 HAt.out.2.2.2.2.2.2.1
            go_wp2_with fail
            refine HSt.out.mono ?_
            rintro e V2 ⟨rfl, vw2, T2, w2, bad2, hck2, r1, r2⟩
            have HR2 : Hid ((bad2 = true ∧ ¬ Good is) ∨ (bad2 = false ∧ Going is T2 w2 ∧ 2 * free T2 + w2.length < 2 * free T + wk.length)) := by
              show _ ∨ _
              have hgs := HGs.out
              unfold stepZ at r1 r2
              by_cases hn : needsZ is (is.getD k default) (tg T k) = true
              · rw [if_pos hn, rz_comes] at r1 r2
                cases hc : comesZ is.length T (wk.take m) (exitsZ is k (is.getD k default) (tg T k)) with
                | none => exact Or.inl ⟨r1 hc, hgs.2.1 hn hc⟩
                | some x =>
                  obtain ⟨g1, g2, g3⟩ := r2 x hc
                  have := hgs.2.2 x.1 x.2 hn hc
                  subst g2 g3
                  exact Or.inr ⟨g1, this.1, this.2⟩
              · rw [if_neg hn] at r1
                exact Or.inl ⟨r1 rfl, hgs.1 (by simpa using hn)⟩
            have HK2 := hid hck2
            clear hck2 r1 r2 HSt HKn
            go_wp2_with fail
            go_roundg (gk - 1)
            case measure =>
              have := HG2.out
              omega
            case rel =>
              refine ⟨_, T2, w2, bad2, HK2, ?_⟩
              rcases HR2.out with h | ⟨h1, h2, h3⟩
              · exact Or.inl h
              · exact Or.inr ⟨h1, h2, by have := HG2.out; omega⟩
end Go.Proofs.YtfmkgppkgmjpfaaDoor
