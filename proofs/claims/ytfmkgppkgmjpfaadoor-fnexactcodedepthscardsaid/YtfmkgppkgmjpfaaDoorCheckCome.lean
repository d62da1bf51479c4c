/- A place is come to, in the specification. -/
import Derived.Test.YtfmkgppkgmjpfaaDoorCheckSt
import Derived.Test.YtfmkgppkgmjpfaaDoorStagesN
import Derived.Deep.CutRange
import Derived.Deep.CutBlock
import Derived.OwnWalk
namespace Go.Proofs.YtfmkgppkgmjpfaaDoor
open Go.RowKit

theorem cell_single (w : World) (n : Nat) (hn : n = w.heap.size) (a : Value) (t : TypeId) : ∀ j u, [a][j]? = some u → (w.alloc (.cells #[a] t)).cell? ((⟨n, 0, none⟩ : Addr).add j) = some u := by
  subst hn
  intro j u hu
  cases j with
  | zero =>
    simp at hu
    subst hu
    exact cell_of_heap (MapKept.heap_alloc w (.cells #[a] t)).1 0
  | succ j => simp at hu

set_option maxRecDepth 100000 in
set_option maxHeartbeats 8000000 in
theorem come_calls {W0 : World} {Mb : Nat} {ac : Option Addr} {cc ge gs gp ce cs cp N : Nat} {T : List Sq} {w : List Nat} {vw : Value} {bad : Bool} {W : World} (h : Ck W0 Mb (.slice ac N cc) ge gs gp ce cs cp N T w vw bad W) (a en st pa : Int) (hpa : 0 ≤ pa ∧ pa ≤ 2) :
    Calls Tryd.prog 22 #[.pointer (some ⟨Mb, 0, none⟩), .int .i64 a, .int .i64 en, .int .i64 st, .int .i64 pa] W fun e W' => e = .returned (.tuple #[]) ∧ ComeP W0 Mb (.slice ac N cc) ge gs gp ce cs cp N T w bad (a, ⟨en, st, pa + 1⟩) W W' := by
  by_cases hout : a < 0 ∨ (N : Int) ≤ a ∨ en < 0 ∨ st < 0 ∨ 100 < en ∨ 100 < st
  · refine (comeOut_calls h.blk a en st pa hout).mono ?_
    rintro e W' ⟨rfl, rfl⟩
    refine ⟨rfl, vw, T, w, true, h.flag true, cz_set h.blk (Or.inr rfl), fun _ => rfl, fun _ _ => rfl, fun _ x hx => ?_⟩
    unfold comeZ at hx
    rw [if_pos hout] at hx
    cases hx
  have hz : comeZ N T w (a, ⟨en, st, pa + 1⟩) = if tg T a.toNat = ⟨en, st, pa + 1⟩ then some (T, w) else if (tg T a.toNat).p ≠ 0 then none else some (T.set a.toNat ⟨en, st, pa + 1⟩, w ++ [a.toNat]) := by
    unfold comeZ
    rw [if_neg hout]
  obtain ⟨k, rfl⟩ : ∃ k : Nat, a = (k : Int) := ⟨a.toNat, by omega⟩
  rw [Int.toNat_natCast] at hz
  have hk : k < N := by omega
  have hs := h.sane _ (tg_mem (show k < T.length by rw [h.len]; exact hk))
  obtain ⟨c1, c2, c3, z1, z2, z3⟩ := h.cells hk
  have e0 := cell_of_heap h.blk 0
  have e1 := cell_of_heap h.blk 1
  have e2 := cell_of_heap h.blk 2
  have e3 := cell_of_heap h.blk 3
  have e4 := cell_of_heap h.blk 4
  have e5 := cell_of_heap h.blk 5
  have ez := frozen_of_heap h.blk 5
  simp at e0 e1 e2 e3 e4 e5
  have q1 : ¬ (k : Int) < 0 := by omega
  have q2 : (k : Int) < (N : Int) := by omega
  have q3 : ¬ en < 0 := by omega
  have q4 : ¬ st < 0 := by omega
  have q5 : ¬ 100 < en := by omega
  have q6 : ¬ 100 < st := by omega
  have q0 : (0 : Int) ≤ (k : Int) := by omega
  have HH := hid h
  have HZ := hid hz
  have HQ : Hid (0 ≤ en ∧ 0 ≤ st ∧ en ≤ 100 ∧ st ≤ 100 ∧ 0 ≤ pa ∧ pa ≤ 2) := ⟨by omega, by omega, by omega, by omega, by omega, by omega⟩
  have HK := hid hk
  by_cases hp : (tg T k).p = 0
  · have v1 : envV (tg T k) = -1 := if_pos hp
    rw [v1] at c1
    have hpn : (⟨en, st, pa + 1⟩ : Sq).p ≠ 0 := by dsimp only; omega
    have hN := h.note hk hp (s := ⟨en, st, pa + 1⟩) (Or.inr ⟨by dsimp only; omega, by dsimp only; omega, by dsimp only; omega, by dsimp only; omega, by dsimp only; omega, by dsimp only; omega⟩) hpn
    have HP := hid hp
    have n0 := h.ne
    have m1 : Mb ≠ ge := fun e => by
      subst e
      obtain ⟨-, cur, hc⟩ := ck_type h.er (g := Mb) rfl
      rw [h.blk] at hc
      cases hc
    have m2 : Mb ≠ gs := fun e => by
      subst e
      obtain ⟨-, cur, hc⟩ := ck_type h.sr (g := Mb) rfl
      rw [h.blk] at hc
      cases hc
    have m3 : Mb ≠ gp := fun e => by
      subst e
      obtain ⟨-, cur, hc⟩ := ck_type h.pr (g := Mb) rfl
      rw [h.blk] at hc
      cases hc
    have n1 : ge ≠ gs := n0.1
    have n2 : ge ≠ gp := n0.2.1
    have n3 : gs ≠ gp := n0.2.2.1
    dsimp only at hN
    rw [Int.add_sub_cancel] at hN
    unfold noted at hN
    obtain ⟨Y, hY⟩ : ∃ Y, ((W.setCell ⟨ge, k, none⟩ (.int .i64 en)).setCell ⟨gs, k, none⟩ (.int .i64 st)).setCell ⟨gp, k, none⟩ (.int .i64 pa) = Y := ⟨_, rfl⟩
    rw [hY] at hN
    have HN := hid hN
    have HCz : Hid (Cz W Y) := by
      show Cz W Y
      rw [← hY]
      obtain ⟨-, cu1, hu1⟩ := ck_type h.er (g := ge) rfl
      obtain ⟨-, cu2, hu2⟩ := ck_type h.sr (g := gs) rfl
      obtain ⟨-, cu3, hu3⟩ := ck_type h.pr (g := gp) rfl
      exact ((cz_set hu1 (Or.inl rfl)).trans (cz_set ((Below.heap_setCell W ⟨ge, k, none⟩ _ gs (Ne.symm n1)).trans hu2) (Or.inl rfl))).trans (cz_set (((Below.heap_setCell _ ⟨gs, k, none⟩ _ gp (Ne.symm n3)).trans (Below.heap_setCell W ⟨ge, k, none⟩ _ gp (Ne.symm n2))).trans hu3) (Or.inl rfl))
    have HY := hid hY
    clear h hz hout hs hpa hk v1 hpn hN hY n0 hp
    have m1' := Ne.symm m1
    have m2' := Ne.symm m2
    have m3' := Ne.symm m3
    have n1' := Ne.symm n1
    have n2' := Ne.symm n2
    have n3' := Ne.symm n3
    go_enter Tryd.func22, Tryd.ntmps22
    go_upto_region 7 with fail
    rw [HY.out]
    clear e0 e1 e2 e3 e4 e5 ez c1 c2 c3 z1 z2 z3 HY
    have e4 := cell_of_heap HN.out.1.blk 4
    simp at e4
    obtain ⟨i0, hi, hz0, hz1, hz2⟩ := info_parts info_intC
    have HLw : Hid (w.length ≤ 1500 ∧ W0.heap.size ≤ Y.heap.size) := by
      have h1 := HN.out.1.room
      have h2 := HN.out.1.nl
      exact ⟨by omega, HN.out.1.bel.size⟩
    go_wp2_with (first
      | (at_builtin; refine wpList_append_own_at _ rfl _ _ 29 rfl W0.heap.size 3 i0 (.int .i64 0) 1 8 Tryd.underlying29 hi hz0 hz1 hz2 rfl (by decide) _ _ _ rfl (HN.out.1.wr.alloc _) ⟨_, 0, none⟩ 1 1 [.int .i64 (k : Int)] rfl rfl (cell_single _ _ rfl _ _) (fun u hu => by simp only [List.mem_singleton] at hu; subst hu; rfl) (by have := HLw.out; unfold maxLen; omega) (by have := HLw.out; omega) (by have := HLw.out; simp; omega) ?_
         intro v' w3 hown3 hgrow3 hnil3 hat3
         obtain ⟨av', cv', rfl⟩ := ck_slice hown3
         have HX := hid (HN.out.1.push (Below.alloc (Below.refl _ _) (Nat.le_refl _) _) k (by have := HN.out.2; omega) hown3 hgrow3 hat3)
         have hbk := (hgrow3.block Mb (by have := heap_lt HN.out.1.blk; simp; omega) (fun e => by
           obtain ⟨-, cur, hc⟩ := ck_type HN.out.1.wr e.symm
           rw [HN.out.1.blk] at hc
           cases hc)).trans ((MapKept.heap_alloc Y (.cells #[.int .i64 (k : Int)] 3)).2 _ (heap_lt HN.out.1.blk))
         have hbk2 := hbk.trans HN.out.1.blk
         have HZ4 := hid (((HCz.out.trans (Cz.of_below ((Below.refl _ _).alloc (Nat.le_refl _) (.cells #[.int .i64 (k : Int)] 3)))).trans (cz_grown (HN.out.1.wr.alloc _) hgrow3)).trans (cz_set (i := 4) (v := .slice av' (w.length + 1) cv') hbk2 (Or.inr rfl)))
         have f4 := cell_of_heap hbk2 4
         have g4 := frozen_of_heap hbk2 4
         simp at f4
         clear hown3 hgrow3 hnil3 hat3 hbk hbk2))
    (try simp only [Exit.inBlock, Exit.then])
    refine bodyPost_end (results_none rfl _ _ _) rfl ?_
    refine ⟨rfl, _, _, _, _, HX.out, HZ4.out, fun hb => hb, fun _ hc => ?_, fun hb x hx => ?_⟩
    · rw [HZ.out, if_neg (fun e => by have := HP.out; rw [e] at this; dsimp only at this; have := HQ.out; omega), if_neg (fun e => e HP.out)] at hc
      cases hc
    · rw [HZ.out, if_neg (fun e => by have := HP.out; rw [e] at this; dsimp only at this; have := HQ.out; omega), if_neg (fun e => e HP.out)] at hx
      cases hx
      exact ⟨hb, rfl, rfl⟩
  · have hs' : 1 ≤ (tg T k).p ∧ (tg T k).p ≤ 3 ∧ 0 ≤ (tg T k).n := by rcases hs with hs | hs <;> omega
    have v1 : envV (tg T k) = (tg T k).n := if_neg hp
    have v2 : stkV (tg T k) = (tg T k).v := if_neg hp
    have v3 : parV (tg T k) = (tg T k).p - 1 := if_neg hp
    rw [v1] at c1
    rw [v2] at c2
    rw [v3] at c3
    obtain ⟨⟨x, y, z⟩, hx⟩ : ∃ s, tg T k = s := ⟨_, rfl⟩
    rw [hx] at c1 c2 c3 hp hs' hz
    dsimp only at c1 c2 c3 hp hs'
    have HX0 := hid hs'
    have x0 : 0 ≤ x := hs'.2.2
    have HZ := hid hz
    have FIN : Hid (∀ b : Bool, (bad = true → b = true) → (bad = false → (b = false ↔ (x = en ∧ y = st ∧ z - 1 = pa))) → ComeP W0 Mb (.slice ac N cc) ge gs gp ce cs cp N T w bad ((k : Int), ⟨en, st, pa + 1⟩) W (W.setCell ⟨Mb, 5, none⟩ (.bool b))) := fun b h1 h2 => by
      refine ⟨vw, T, w, b, HH.out.flag b, cz_set HH.out.blk (Or.inr rfl), h1, fun hb hc => ?_, fun hb r hr => ?_⟩
      · rw [HZ.out] at hc
        cases b with
        | true => rfl
        | false =>
          obtain ⟨a1, a2, a3⟩ := (h2 hb).1 rfl
          rw [if_pos (by rw [a1, a2, ← a3, Int.sub_add_cancel])] at hc
          cases hc
      · rw [HZ.out] at hr
        by_cases e : (⟨x, y, z⟩ : Sq) = ⟨en, st, pa + 1⟩
        · rw [if_pos e] at hr
          cases hr
          cases e
          exact ⟨(h2 hb).2 ⟨rfl, rfl, by omega⟩, rfl, rfl⟩
        · rw [if_neg e, if_pos (by dsimp only; have := HX0.out; omega)] at hr
          cases hr
    clear h hz hout hs hpa hk v1 v2 v3 hp hs' hx HH HZ e4
    by_cases hbad : bad = true
    · subst hbad
      go_enter Tryd.func22, Tryd.ntmps22
      go_wp2_with fail
      (try simp only [Exit.inBlock, Exit.then])
      refine bodyPost_ret (results_none rfl _ _ _) rfl ?_
      exact ⟨rfl, FIN.out true (fun _ => rfl) (fun h => by cases h)⟩
    have hbad' : bad = false := by simpa using hbad
    subst hbad'
    clear hbad
    by_cases d1 : x = en
    case neg =>
      have d1' : (x != en) = true := by simp [d1]
      go_enter Tryd.func22, Tryd.ntmps22
      go_wp2_with fail
      (try simp only [Exit.inBlock, Exit.then])
      refine bodyPost_ret (results_none rfl _ _ _) rfl ?_
      exact ⟨rfl, FIN.out true (fun _ => rfl) (fun _ => ⟨fun h => (by cases h), fun h => absurd h.1 d1⟩)⟩
    by_cases d2 : y = st
    case neg =>
      have d1' : (x != en) = false := by simp [d1]
      have d2' : (y != st) = true := by simp [d2]
      have D1 := hid d1
      clear d1
      go_enter Tryd.func22, Tryd.ntmps22
      go_wp2_with fail
      (try simp only [Exit.inBlock, Exit.then])
      refine bodyPost_ret (results_none rfl _ _ _) rfl ?_
      exact ⟨rfl, FIN.out true (fun _ => rfl) (fun _ => ⟨fun h => (by cases h), fun h => absurd h.2.1 d2⟩)⟩
    have d1' : (x != en) = false := by simp [d1]
    have d2' : (y != st) = false := by simp [d2]
    have D1 := hid d1
    have D2 := hid d2
    clear d1 d2
    by_cases d3 : z - 1 = pa
    case neg =>
      have d3' : (z - 1 != pa) = true := by simp [d3]
      go_enter Tryd.func22, Tryd.ntmps22
      go_wp2_with fail
      (try simp only [Exit.inBlock, Exit.then])
      refine bodyPost_ret (results_none rfl _ _ _) rfl ?_
      exact ⟨rfl, FIN.out true (fun _ => rfl) (fun _ => ⟨fun h => (by cases h), fun h => absurd h.2.2 d3⟩)⟩
    · have d3' : (z - 1 != pa) = false := by simp [d3]
      have D3 := hid d3
      clear d3
      go_enter Tryd.func22, Tryd.ntmps22
      go_wp2_with fail
      (try simp only [Exit.inBlock, Exit.then])
      refine bodyPost_ret (results_none rfl _ _ _) rfl ?_
      exact ⟨rfl, FIN.out false (fun h => by cases h) (fun _ => ⟨fun _ => ⟨D1.out, D2.out, D3.out⟩, fun _ => rfl⟩)⟩
end Go.Proofs.YtfmkgppkgmjpfaaDoor
