/- The namer gives a node its new names. -/
import Derived.Test.YtgiejnmphfgmgaaGreatDoorNameRen
import Derived.Test.YtgiejnmphfgmgaaGreatDoorStagesN
import Derived.Maps.AppendAt
import Derived.Deep.Cut
namespace Go.Proofs.YtgiejnmphfgmgaaGreatDoor
open Go.RowKit Go.Deep

/-- Two new blocks: a node's box, and one for the answer. -/
theorem two_boxes (W : World) (n : Nd) : ∃ X, (W.alloc (.cells #[.int .i64 n.kind, .int .i64 n.num, .string n.a, .string n.b, .string n.c, .int .i64 n.kids] 81)).alloc (.cells #[.int .i64 0, .int .i64 0, .string ⟨#[]⟩, .string ⟨#[]⟩, .string ⟨#[]⟩, .int .i64 0] 81) = X ∧ X.heap[W.heap.size]? = some (.cells #[.int .i64 n.kind, .int .i64 n.num, .string n.a, .string n.b, .string n.c, .int .i64 n.kids] 81) ∧ X.heap[W.heap.size + 1]? = some (.cells #[.int .i64 0, .int .i64 0, .string ⟨#[]⟩, .string ⟨#[]⟩, .string ⟨#[]⟩, .int .i64 0] 81) ∧ Below W.heap.size W X := by
  refine ⟨_, rfl, ?_, ?_, ((Below.refl _ W).alloc (Nat.le_refl _) _).alloc (by simp) _⟩
  · rw [Below.heap_alloc _ _ _ (by simp)]
    exact (MapKept.heap_alloc W _).1
  · have e := (MapKept.heap_alloc (W.alloc (.cells #[.int .i64 n.kind, .int .i64 n.num, .string n.a, .string n.b, .string n.c, .int .i64 n.kids] 81)) (.cells #[.int .i64 0, .int .i64 0, .string ⟨#[]⟩, .string ⟨#[]⟩, .string ⟨#[]⟩, .int .i64 0] 81)).1
    rwa [World.size_alloc] at e

/-- What renaming has come to, ahead of its answer. -/
structure Rnd (W0 : World) (Nb : Nat) (W : World) (vp vf : Value) (s' : Wst) (vf' : Value) (m : Nd) (X : World) : Prop where
  st : Nms W0 Nb s' vp vf' X
  mv : Movd W vf vf'
  fr : Nfr Nb vp vf W X
  b4 : X.heap[W.heap.size]? = some (.cells #[.int .i64 m.kind, .int .i64 m.num, .string m.a, .string m.b, .string m.c, .int .i64 m.kids] 81)
  b6 : X.heap[W.heap.size + 1]? = some (.cells #[.int .i64 0, .int .i64 0, .string ⟨#[]⟩, .string ⟨#[]⟩, .string ⟨#[]⟩, .int .i64 0] 81)

theorem Rnd.put {W0 : World} {Nb : Nat} {W : World} {vp vf : Value} {s' : Wst} {vf' : Value} {m : Nd} {X : World} (h : Rnd W0 Nb W vp vf s' vf' m X) (hw : W0.heap.size ≤ W.heap.size) (hp : ∀ g, vp.ownBlock = some g → g < W.heap.size) {q : Nat} (hq : q = W.heap.size ∨ q = W.heap.size + 1) (i : Nat) (v : Value) :
    Nms W0 Nb s' vp vf' (X.setCell ⟨q, i, none⟩ v) ∧ Nfr Nb vp vf W (X.setCell ⟨q, i, none⟩ v) := by
  have hb : vf'.ownBlock ≠ some q := by
    rcases hq with rfl | rfl
    · exact (h.st.apart h.b4).2 (by decide)
    · exact (h.st.apart h.b6).2 (by decide)
  have hs : (X.setCell ⟨q, i, none⟩ v).heap.size = X.heap.size := by simp [World.setCell]
  refine ⟨nms_box h.st (by omega) (fun e => by have := hp _ e; omega) hb i v, ⟨h.fr.os, h.fr.tape, h.fr.output, by rw [hs]; exact h.fr.size, fun k hk h1 h2 h3 => ?_⟩⟩
  exact (Below.heap_setCell X ⟨q, i, none⟩ v k (by dsimp only; omega)).trans (h.fr.block k hk h1 h2 h3)

theorem Rnd.set2 {W0 : World} {Nb : Nat} {W : World} {vp vf : Value} {s' : Wst} {vf' : Value} {m : Nd} {X : World} (h : Rnd W0 Nb W vp vf s' vf' m X) (hw : W0.heap.size ≤ W.heap.size) (hp : ∀ g, vp.ownBlock = some g → g < W.heap.size) (x : ByteArray) : Rnd W0 Nb W vp vf s' vf' { m with a := x } (X.setCell ⟨W.heap.size, 2, none⟩ (.string x)) := by
  obtain ⟨h1, h2⟩ := h.put hw hp (Or.inl rfl) 2 (.string x)
  exact ⟨h1, h.mv, h2, (box6_set h.b4 _).1, (Below.heap_setCell X _ _ _ (by dsimp only; omega)).trans h.b6⟩

theorem Rnd.set3 {W0 : World} {Nb : Nat} {W : World} {vp vf : Value} {s' : Wst} {vf' : Value} {m : Nd} {X : World} (h : Rnd W0 Nb W vp vf s' vf' m X) (hw : W0.heap.size ≤ W.heap.size) (hp : ∀ g, vp.ownBlock = some g → g < W.heap.size) (x : ByteArray) : Rnd W0 Nb W vp vf s' vf' { m with b := x } (X.setCell ⟨W.heap.size, 3, none⟩ (.string x)) := by
  obtain ⟨h1, h2⟩ := h.put hw hp (Or.inl rfl) 3 (.string x)
  exact ⟨h1, h.mv, h2, (box6_set h.b4 _).2.1, (Below.heap_setCell X _ _ _ (by dsimp only; omega)).trans h.b6⟩

theorem Rnd.set4 {W0 : World} {Nb : Nat} {W : World} {vp vf : Value} {s' : Wst} {vf' : Value} {m : Nd} {X : World} (h : Rnd W0 Nb W vp vf s' vf' m X) (hw : W0.heap.size ≤ W.heap.size) (hp : ∀ g, vp.ownBlock = some g → g < W.heap.size) (x : ByteArray) : Rnd W0 Nb W vp vf s' vf' { m with c := x } (X.setCell ⟨W.heap.size, 4, none⟩ (.string x)) := by
  obtain ⟨h1, h2⟩ := h.put hw hp (Or.inl rfl) 4 (.string x)
  exact ⟨h1, h.mv, h2, (box6_set h.b4 _).2.2, (Below.heap_setCell X _ _ _ (by dsimp only; omega)).trans h.b6⟩

/-- The answer is laid. -/
theorem Rnd.done {W0 : World} {Nb : Nat} {W : World} {vp vf : Value} {s' : Wst} {vf' : Value} {m : Nd} {X : World} (h : Rnd W0 Nb W vp vf s' vf' m X) (hw : W0.heap.size ≤ W.heap.size) (hp : ∀ g, vp.ownBlock = some g → g < W.heap.size) (v0 v1 v2 v3 v4 v5 : Value) :
    Nms W0 Nb s' vp vf' ((((((X.setCell ⟨W.heap.size + 1, 0, none⟩ v0).setCell ⟨W.heap.size + 1, 1, none⟩ v1).setCell ⟨W.heap.size + 1, 2, none⟩ v2).setCell ⟨W.heap.size + 1, 3, none⟩ v3).setCell ⟨W.heap.size + 1, 4, none⟩ v4).setCell ⟨W.heap.size + 1, 5, none⟩ v5) ∧ Nfr Nb vp vf W ((((((X.setCell ⟨W.heap.size + 1, 0, none⟩ v0).setCell ⟨W.heap.size + 1, 1, none⟩ v1).setCell ⟨W.heap.size + 1, 2, none⟩ v2).setCell ⟨W.heap.size + 1, 3, none⟩ v3).setCell ⟨W.heap.size + 1, 4, none⟩ v4).setCell ⟨W.heap.size + 1, 5, none⟩ v5) := by
  have hb : vf'.ownBlock ≠ some (W.heap.size + 1) := (h.st.apart h.b6).2 (by decide)
  have hpn : vp.ownBlock ≠ some (W.heap.size + 1) := fun e => by have := hp _ e; omega
  have hlo : W0.heap.size ≤ W.heap.size + 1 := by omega
  have step : ∀ Y i v, Nms W0 Nb s' vp vf' Y ∧ Nfr Nb vp vf W Y → Nms W0 Nb s' vp vf' (Y.setCell ⟨W.heap.size + 1, i, none⟩ v) ∧ Nfr Nb vp vf W (Y.setCell ⟨W.heap.size + 1, i, none⟩ v) := fun Y i v hy => by
    have hs : (Y.setCell ⟨W.heap.size + 1, i, none⟩ v).heap.size = Y.heap.size := by simp [World.setCell]
    refine ⟨nms_box hy.1 hlo hpn hb i v, ⟨hy.2.os, hy.2.tape, hy.2.output, by rw [hs]; exact hy.2.size, fun k hk h1 h2 h3 => ?_⟩⟩
    exact (Below.heap_setCell Y ⟨W.heap.size + 1, i, none⟩ v k (by dsimp only; omega)).trans (hy.2.block k hk h1 h2 h3)
  have g0 := step X 0 v0 ⟨h.st, h.fr⟩
  have g1 := step _ 1 v1 g0
  have g2 := step _ 2 v2 g1
  have g3 := step _ 3 v3 g2
  have g4 := step _ 4 v4 g3
  exact step _ 5 v5 g4

/-- Behind a call of the namer. -/
theorem Rnd.more {W0 : World} {Nb : Nat} {W : World} {vp vf : Value} {s' : Wst} {vf' : Value} {m : Nd} {X : World} (h : Rnd W0 Nb W vp vf s' vf' m X) (hw : W0.heap.size ≤ W.heap.size) (hp : ∀ g, vp.ownBlock = some g → g < W.heap.size) {Y : World} {s'' : Wst} {vf'' : Value} (hy : Nms W0 Nb s'' vp vf'' Y) (fy : Nfr Nb vp vf' X Y) (hm : Movd X vf' vf'') : Rnd W0 Nb W vp vf s'' vf'' m Y := by
  have hnb := h.st.nb
  exact ⟨hy, h.mv.trans h.fr.size hm, h.fr.trans (Or.inl rfl) h.mv fy, (fy.block _ (heap_lt h.b4) (by omega) (fun e => by have := hp _ e; omega) ((h.st.apart h.b4).2 (by decide))).trans h.b4, (fy.block _ (heap_lt h.b6) (by omega) (fun e => by have := hp _ e; omega) ((h.st.apart h.b6).2 (by decide))).trans h.b6⟩

theorem box6_all {w : World} {b : Nat} {t : TypeId} {x0 x1 x2 x3 x4 x5 : Value} (h : w.heap[b]? = some (.cells #[x0, x1, x2, x3, x4, x5] t)) (v0 v1 v2 v3 v4 v5 : Value) :
    ((((((w.setCell ⟨b, 0, none⟩ v0).setCell ⟨b, 1, none⟩ v1).setCell ⟨b, 2, none⟩ v2).setCell ⟨b, 3, none⟩ v3).setCell ⟨b, 4, none⟩ v4).setCell ⟨b, 5, none⟩ v5).heap[b]? = some (.cells #[v0, v1, v2, v3, v4, v5] t) := by
  simp [World.setCell, Array.getElem?_modify, h]

theorem node_result {tmps : Array Value} {g : Nat} {X : World} {v0 v1 v2 v3 v4 v5 : Value} (hg : tmps.getD 6 undef = .pointer (some ⟨g, 0, none⟩)) (h : X.heap[g]? = some (.cells #[v0, v1, v2, v3, v4, v5] 81)) : (results Tryz.f89 tmps).run Tryz.prog X = .ok (.agg #[v0, v1, v2, v3, v4, v5]) X := by
  rw [Array.getD_eq_getD_getElem?] at hg
  have c0 := cell_of_heap h 0
  have c1 := cell_of_heap h 1
  have c2 := cell_of_heap h 2
  have c3 := cell_of_heap h 3
  have c4 := cell_of_heap h 4
  have c5 := cell_of_heap h 5
  simp at c0 c1 c2 c3 c4 c5
  simp [results, Tryz.results89, go_sem, hg, c0, c1, c2, c3, c4, c5]

set_option maxHeartbeats 8000000 in
set_option maxRecDepth 100000 in
theorem rename_calls {W0 : World} {Nb : Nat} {s : Wst} {vp vf : Value} (n : Nd) (p : Option Addr) (sc : Sco) (W : World) (st : Nms W0 Nb s vp vf W) (hL : Laid W0) (h0 : Nb ≠ 0) (hm : Wsm s) (hsc : ScoAt W p sc) (hna : n.a.size ≤ 281474976710656) :
    Calls Tryz.prog 89 #[.pointer (some ⟨Nb, 0, none⟩), ndV n, .pointer p] W fun e W' => e = .returned (ndV (renZ n sc s.made)) ∧ (∃ vf', Nms W0 Nb ⟨s.plain, s.free ++ lostZ n sc, s.made + makesZ n.kind⟩ vp vf' W' ∧ Movd W vf vf') ∧ Nfr Nb vp vf W W' := by
  have HM := hid hm
  have HNa := hid hna
  obtain ⟨X, hX, b4, b6, hbX⟩ := two_boxes W n
  have HR0 : Hid (Rnd W0 Nb W vp vf s vf n X) := ⟨st.below hbX, Or.inl rfl, Nfr.of_below hbX, b4, b6⟩
  have Hw := hid st.size
  have Hp : Hid (∀ g, vp.ownBlock = some g → g < W.heap.size) := fun g e => by obtain ⟨-, cur, hc⟩ := own_type st.prow e; exact heap_lt hc
  have HLs : Hid (∀ (s' : Wst) (vf' : Value) (Y : World), Nms W0 Nb s' vp vf' Y → Laid Y) := fun s' vf' Y hn => hL.same (hn.kept 0 (by have := hn.nb; omega) (fun e => h0 e.symm))
  have HSc := hid (hsc.below hbX)
  obtain ⟨sp, sf, mm⟩ := s
  obtain ⟨kd, num, a, b, c, kids⟩ := n
  unfold ndV
  dsimp only at *
  clear hL hm st hsc hna b4 b6 hbX
  go_enter Tryz.func89, Tryz.ntmps89
  go_upto_region 1 with fail
  clear hX
  by_cases k6 : kd = 6
  · subst k6
    have HRen : Hid (renZ ⟨6, num, a, b, c, kids⟩ sc mm = ⟨6, num, freshZ mm, b, c, kids⟩) := rfl
    have HSt : Hid ((⟨sp, sf ++ lostZ ⟨6, num, a, b, c, kids⟩ sc, mm + makesZ (⟨6, num, a, b, c, kids⟩ : Nd).kind⟩ : Wst) = ⟨sp, sf, mm + 1⟩) := by
      have e : lostZ ⟨6, num, a, b, c, kids⟩ sc = [] := by unfold lostZ; rw [if_neg (by rintro ⟨h, -⟩; cases h)]
      show _ = _
      rw [e, List.append_nil]
      rfl
    have c0 := cell_of_heap HR0.out.b4 0
    have c1 := cell_of_heap HR0.out.b4 1
    have c2 := cell_of_heap HR0.out.b4 2
    have c3 := cell_of_heap HR0.out.b4 3
    have c4 := cell_of_heap HR0.out.b4 4
    have c5 := cell_of_heap HR0.out.b4 5
    simp at c0 c1 c2 c3 c4 c5
    have z2 := frozen_of_heap HR0.out.b4 2
    have z3 := frozen_of_heap HR0.out.b4 3
    have z4 := frozen_of_heap HR0.out.b4 4
    have e0 := cell_of_heap HR0.out.b6 0
    have y0 := frozen_of_heap HR0.out.b6 0
    have e1 := cell_of_heap HR0.out.b6 1
    have y1 := frozen_of_heap HR0.out.b6 1
    have e2 := cell_of_heap HR0.out.b6 2
    have y2 := frozen_of_heap HR0.out.b6 2
    have e3 := cell_of_heap HR0.out.b6 3
    have y3 := frozen_of_heap HR0.out.b6 3
    have e4 := cell_of_heap HR0.out.b6 4
    have y4 := frozen_of_heap HR0.out.b6 4
    have e5 := cell_of_heap HR0.out.b6 5
    have y5 := frozen_of_heap HR0.out.b6 5
    simp at e0 e1 e2 e3 e4 e5
    go_wp2_with fail
    refine (fresh_calls X HR0.out.st (HLs.out _ _ _ HR0.out.st) h0 (by have := HM.out.made; dsimp only at *; omega)).mono ?_
    rintro e Y ⟨rfl, hN, hF, -⟩
    have HR1 : Hid (Rnd W0 Nb W vp vf ⟨sp, sf, mm + 1⟩ vf ⟨6, num, a, b, c, kids⟩ Y) := HR0.out.more Hw.out Hp.out hN hF (Or.inl rfl)
    clear c0 c1 c2 c3 c4 c5 z2 z3 z4 e0 e1 e2 e3 e4 e5 y0 y1 y2 y3 y4 y5
    clear hN hF
    have c0 := cell_of_heap HR1.out.b4 0
    have c1 := cell_of_heap HR1.out.b4 1
    have c2 := cell_of_heap HR1.out.b4 2
    have c3 := cell_of_heap HR1.out.b4 3
    have c4 := cell_of_heap HR1.out.b4 4
    have c5 := cell_of_heap HR1.out.b4 5
    simp at c0 c1 c2 c3 c4 c5
    have z2 := frozen_of_heap HR1.out.b4 2
    have z3 := frozen_of_heap HR1.out.b4 3
    have z4 := frozen_of_heap HR1.out.b4 4
    have e0 := cell_of_heap HR1.out.b6 0
    have y0 := frozen_of_heap HR1.out.b6 0
    have e1 := cell_of_heap HR1.out.b6 1
    have y1 := frozen_of_heap HR1.out.b6 1
    have e2 := cell_of_heap HR1.out.b6 2
    have y2 := frozen_of_heap HR1.out.b6 2
    have e3 := cell_of_heap HR1.out.b6 3
    have y3 := frozen_of_heap HR1.out.b6 3
    have e4 := cell_of_heap HR1.out.b6 4
    have y4 := frozen_of_heap HR1.out.b6 4
    have e5 := cell_of_heap HR1.out.b6 5
    have y5 := frozen_of_heap HR1.out.b6 5
    simp at e0 e1 e2 e3 e4 e5
    have HR2 := hid (HR1.out.set2 Hw.out Hp.out (freshZ mm))
    generalize freshZ mm = F1 at *
    go_wp2_with fail
    refine bodyPost_ret (v := ndV ⟨6, num, F1, b, c, kids⟩) (node_result (tmps := _) rfl (box6_all HR2.out.b6 _ _ _ _ _ _)) rfl ?_
    obtain ⟨g1, g3⟩ := HR2.out.done Hw.out Hp.out (.int .i64 6) (.int .i64 num) (.string F1) (.string b) (.string c) (.int .i64 kids)
    refine ⟨?_, ⟨_, ?_, HR2.out.mv⟩, g3⟩
    · rw [HRen.out]
      rfl
    · rw [HSt.out]
      exact g1
  by_cases k8 : kd = 8
  · subst k8
    have HRen : Hid (renZ ⟨8, num, a, b, c, kids⟩ sc mm = ⟨8, num, freshZ mm, b, c, kids⟩) := rfl
    have HSt : Hid ((⟨sp, sf ++ lostZ ⟨8, num, a, b, c, kids⟩ sc, mm + makesZ (⟨8, num, a, b, c, kids⟩ : Nd).kind⟩ : Wst) = ⟨sp, sf, mm + 1⟩) := by
      have e : lostZ ⟨8, num, a, b, c, kids⟩ sc = [] := by unfold lostZ; rw [if_neg (by rintro ⟨h, -⟩; cases h)]
      show _ = _
      rw [e, List.append_nil]
      rfl
    have c0 := cell_of_heap HR0.out.b4 0
    have c1 := cell_of_heap HR0.out.b4 1
    have c2 := cell_of_heap HR0.out.b4 2
    have c3 := cell_of_heap HR0.out.b4 3
    have c4 := cell_of_heap HR0.out.b4 4
    have c5 := cell_of_heap HR0.out.b4 5
    simp at c0 c1 c2 c3 c4 c5
    have z2 := frozen_of_heap HR0.out.b4 2
    have z3 := frozen_of_heap HR0.out.b4 3
    have z4 := frozen_of_heap HR0.out.b4 4
    have e0 := cell_of_heap HR0.out.b6 0
    have y0 := frozen_of_heap HR0.out.b6 0
    have e1 := cell_of_heap HR0.out.b6 1
    have y1 := frozen_of_heap HR0.out.b6 1
    have e2 := cell_of_heap HR0.out.b6 2
    have y2 := frozen_of_heap HR0.out.b6 2
    have e3 := cell_of_heap HR0.out.b6 3
    have y3 := frozen_of_heap HR0.out.b6 3
    have e4 := cell_of_heap HR0.out.b6 4
    have y4 := frozen_of_heap HR0.out.b6 4
    have e5 := cell_of_heap HR0.out.b6 5
    have y5 := frozen_of_heap HR0.out.b6 5
    simp at e0 e1 e2 e3 e4 e5
    go_wp2_with fail
    refine (fresh_calls X HR0.out.st (HLs.out _ _ _ HR0.out.st) h0 (by have := HM.out.made; dsimp only at *; omega)).mono ?_
    rintro e Y ⟨rfl, hN, hF, -⟩
    have HR1 : Hid (Rnd W0 Nb W vp vf ⟨sp, sf, mm + 1⟩ vf ⟨8, num, a, b, c, kids⟩ Y) := HR0.out.more Hw.out Hp.out hN hF (Or.inl rfl)
    clear c0 c1 c2 c3 c4 c5 z2 z3 z4 e0 e1 e2 e3 e4 e5 y0 y1 y2 y3 y4 y5
    clear hN hF
    have c0 := cell_of_heap HR1.out.b4 0
    have c1 := cell_of_heap HR1.out.b4 1
    have c2 := cell_of_heap HR1.out.b4 2
    have c3 := cell_of_heap HR1.out.b4 3
    have c4 := cell_of_heap HR1.out.b4 4
    have c5 := cell_of_heap HR1.out.b4 5
    simp at c0 c1 c2 c3 c4 c5
    have z2 := frozen_of_heap HR1.out.b4 2
    have z3 := frozen_of_heap HR1.out.b4 3
    have z4 := frozen_of_heap HR1.out.b4 4
    have e0 := cell_of_heap HR1.out.b6 0
    have y0 := frozen_of_heap HR1.out.b6 0
    have e1 := cell_of_heap HR1.out.b6 1
    have y1 := frozen_of_heap HR1.out.b6 1
    have e2 := cell_of_heap HR1.out.b6 2
    have y2 := frozen_of_heap HR1.out.b6 2
    have e3 := cell_of_heap HR1.out.b6 3
    have y3 := frozen_of_heap HR1.out.b6 3
    have e4 := cell_of_heap HR1.out.b6 4
    have y4 := frozen_of_heap HR1.out.b6 4
    have e5 := cell_of_heap HR1.out.b6 5
    have y5 := frozen_of_heap HR1.out.b6 5
    simp at e0 e1 e2 e3 e4 e5
    have HR2 := hid (HR1.out.set2 Hw.out Hp.out (freshZ mm))
    generalize freshZ mm = F1 at *
    go_wp2_with fail
    refine bodyPost_ret (v := ndV ⟨8, num, F1, b, c, kids⟩) (node_result (tmps := _) rfl (box6_all HR2.out.b6 _ _ _ _ _ _)) rfl ?_
    obtain ⟨g1, g3⟩ := HR2.out.done Hw.out Hp.out (.int .i64 8) (.int .i64 num) (.string F1) (.string b) (.string c) (.int .i64 kids)
    refine ⟨?_, ⟨_, ?_, HR2.out.mv⟩, g3⟩
    · rw [HRen.out]
      rfl
    · rw [HSt.out]
      exact g1
  by_cases k25 : kd = 25
  · subst k25
    have HRen : Hid (renZ ⟨25, num, a, b, c, kids⟩ sc mm = ⟨25, num, freshZ mm, b, c, kids⟩) := rfl
    have HSt : Hid ((⟨sp, sf ++ lostZ ⟨25, num, a, b, c, kids⟩ sc, mm + makesZ (⟨25, num, a, b, c, kids⟩ : Nd).kind⟩ : Wst) = ⟨sp, sf, mm + 1⟩) := by
      have e : lostZ ⟨25, num, a, b, c, kids⟩ sc = [] := by unfold lostZ; rw [if_neg (by rintro ⟨h, -⟩; cases h)]
      show _ = _
      rw [e, List.append_nil]
      rfl
    have c0 := cell_of_heap HR0.out.b4 0
    have c1 := cell_of_heap HR0.out.b4 1
    have c2 := cell_of_heap HR0.out.b4 2
    have c3 := cell_of_heap HR0.out.b4 3
    have c4 := cell_of_heap HR0.out.b4 4
    have c5 := cell_of_heap HR0.out.b4 5
    simp at c0 c1 c2 c3 c4 c5
    have z2 := frozen_of_heap HR0.out.b4 2
    have z3 := frozen_of_heap HR0.out.b4 3
    have z4 := frozen_of_heap HR0.out.b4 4
    have e0 := cell_of_heap HR0.out.b6 0
    have y0 := frozen_of_heap HR0.out.b6 0
    have e1 := cell_of_heap HR0.out.b6 1
    have y1 := frozen_of_heap HR0.out.b6 1
    have e2 := cell_of_heap HR0.out.b6 2
    have y2 := frozen_of_heap HR0.out.b6 2
    have e3 := cell_of_heap HR0.out.b6 3
    have y3 := frozen_of_heap HR0.out.b6 3
    have e4 := cell_of_heap HR0.out.b6 4
    have y4 := frozen_of_heap HR0.out.b6 4
    have e5 := cell_of_heap HR0.out.b6 5
    have y5 := frozen_of_heap HR0.out.b6 5
    simp at e0 e1 e2 e3 e4 e5
    go_wp2_with fail
    refine (fresh_calls X HR0.out.st (HLs.out _ _ _ HR0.out.st) h0 (by have := HM.out.made; dsimp only at *; omega)).mono ?_
    rintro e Y ⟨rfl, hN, hF, -⟩
    have HR1 : Hid (Rnd W0 Nb W vp vf ⟨sp, sf, mm + 1⟩ vf ⟨25, num, a, b, c, kids⟩ Y) := HR0.out.more Hw.out Hp.out hN hF (Or.inl rfl)
    clear c0 c1 c2 c3 c4 c5 z2 z3 z4 e0 e1 e2 e3 e4 e5 y0 y1 y2 y3 y4 y5
    clear hN hF
    have c0 := cell_of_heap HR1.out.b4 0
    have c1 := cell_of_heap HR1.out.b4 1
    have c2 := cell_of_heap HR1.out.b4 2
    have c3 := cell_of_heap HR1.out.b4 3
    have c4 := cell_of_heap HR1.out.b4 4
    have c5 := cell_of_heap HR1.out.b4 5
    simp at c0 c1 c2 c3 c4 c5
    have z2 := frozen_of_heap HR1.out.b4 2
    have z3 := frozen_of_heap HR1.out.b4 3
    have z4 := frozen_of_heap HR1.out.b4 4
    have e0 := cell_of_heap HR1.out.b6 0
    have y0 := frozen_of_heap HR1.out.b6 0
    have e1 := cell_of_heap HR1.out.b6 1
    have y1 := frozen_of_heap HR1.out.b6 1
    have e2 := cell_of_heap HR1.out.b6 2
    have y2 := frozen_of_heap HR1.out.b6 2
    have e3 := cell_of_heap HR1.out.b6 3
    have y3 := frozen_of_heap HR1.out.b6 3
    have e4 := cell_of_heap HR1.out.b6 4
    have y4 := frozen_of_heap HR1.out.b6 4
    have e5 := cell_of_heap HR1.out.b6 5
    have y5 := frozen_of_heap HR1.out.b6 5
    simp at e0 e1 e2 e3 e4 e5
    have HR2 := hid (HR1.out.set2 Hw.out Hp.out (freshZ mm))
    generalize freshZ mm = F1 at *
    go_wp2_with fail
    refine bodyPost_ret (v := ndV ⟨25, num, F1, b, c, kids⟩) (node_result (tmps := _) rfl (box6_all HR2.out.b6 _ _ _ _ _ _)) rfl ?_
    obtain ⟨g1, g3⟩ := HR2.out.done Hw.out Hp.out (.int .i64 25) (.int .i64 num) (.string F1) (.string b) (.string c) (.int .i64 kids)
    refine ⟨?_, ⟨_, ?_, HR2.out.mv⟩, g3⟩
    · rw [HRen.out]
      rfl
    · rw [HSt.out]
      exact g1
  by_cases k9 : kd = 9
  · subst k9
    have HRen : Hid (renZ ⟨9, num, a, b, c, kids⟩ sc mm = ⟨9, num, freshZ mm, freshZ (mm + 1), c, kids⟩) := rfl
    have HSt : Hid ((⟨sp, sf ++ lostZ ⟨9, num, a, b, c, kids⟩ sc, mm + makesZ (⟨9, num, a, b, c, kids⟩ : Nd).kind⟩ : Wst) = ⟨sp, sf, mm + 2⟩) := by
      have e : lostZ ⟨9, num, a, b, c, kids⟩ sc = [] := by unfold lostZ; rw [if_neg (by rintro ⟨h, -⟩; cases h)]
      show _ = _
      rw [e, List.append_nil]
      rfl
    have c0 := cell_of_heap HR0.out.b4 0
    have c1 := cell_of_heap HR0.out.b4 1
    have c2 := cell_of_heap HR0.out.b4 2
    have c3 := cell_of_heap HR0.out.b4 3
    have c4 := cell_of_heap HR0.out.b4 4
    have c5 := cell_of_heap HR0.out.b4 5
    simp at c0 c1 c2 c3 c4 c5
    have z2 := frozen_of_heap HR0.out.b4 2
    have z3 := frozen_of_heap HR0.out.b4 3
    have z4 := frozen_of_heap HR0.out.b4 4
    have e0 := cell_of_heap HR0.out.b6 0
    have y0 := frozen_of_heap HR0.out.b6 0
    have e1 := cell_of_heap HR0.out.b6 1
    have y1 := frozen_of_heap HR0.out.b6 1
    have e2 := cell_of_heap HR0.out.b6 2
    have y2 := frozen_of_heap HR0.out.b6 2
    have e3 := cell_of_heap HR0.out.b6 3
    have y3 := frozen_of_heap HR0.out.b6 3
    have e4 := cell_of_heap HR0.out.b6 4
    have y4 := frozen_of_heap HR0.out.b6 4
    have e5 := cell_of_heap HR0.out.b6 5
    have y5 := frozen_of_heap HR0.out.b6 5
    simp at e0 e1 e2 e3 e4 e5
    go_wp2_with fail
    refine (fresh_calls X HR0.out.st (HLs.out _ _ _ HR0.out.st) h0 (by have := HM.out.made; dsimp only at *; omega)).mono ?_
    rintro e Y ⟨rfl, hN, hF, -⟩
    have HR1 : Hid (Rnd W0 Nb W vp vf ⟨sp, sf, mm + 1⟩ vf ⟨9, num, a, b, c, kids⟩ Y) := HR0.out.more Hw.out Hp.out hN hF (Or.inl rfl)
    clear c0 c1 c2 c3 c4 c5 z2 z3 z4 e0 e1 e2 e3 e4 e5 y0 y1 y2 y3 y4 y5
    clear hN hF
    have c0 := cell_of_heap HR1.out.b4 0
    have c1 := cell_of_heap HR1.out.b4 1
    have c2 := cell_of_heap HR1.out.b4 2
    have c3 := cell_of_heap HR1.out.b4 3
    have c4 := cell_of_heap HR1.out.b4 4
    have c5 := cell_of_heap HR1.out.b4 5
    simp at c0 c1 c2 c3 c4 c5
    have z2 := frozen_of_heap HR1.out.b4 2
    have z3 := frozen_of_heap HR1.out.b4 3
    have z4 := frozen_of_heap HR1.out.b4 4
    have e0 := cell_of_heap HR1.out.b6 0
    have y0 := frozen_of_heap HR1.out.b6 0
    have e1 := cell_of_heap HR1.out.b6 1
    have y1 := frozen_of_heap HR1.out.b6 1
    have e2 := cell_of_heap HR1.out.b6 2
    have y2 := frozen_of_heap HR1.out.b6 2
    have e3 := cell_of_heap HR1.out.b6 3
    have y3 := frozen_of_heap HR1.out.b6 3
    have e4 := cell_of_heap HR1.out.b6 4
    have y4 := frozen_of_heap HR1.out.b6 4
    have e5 := cell_of_heap HR1.out.b6 5
    have y5 := frozen_of_heap HR1.out.b6 5
    simp at e0 e1 e2 e3 e4 e5
    have HR2 := hid (HR1.out.set2 Hw.out Hp.out (freshZ mm))
    have hW2 : ∃ Y2, Y.setCell ⟨W.heap.size, 2, none⟩ (.string (freshZ mm)) = Y2 := ⟨_, rfl⟩
    obtain ⟨Y2, hY2⟩ := hW2
    rw [hY2] at HR2
    have HF1 : Hid (freshZ mm = freshZ mm) := rfl
    generalize freshZ mm = F1 at *
    go_upto_region 14 with fail
    clear c0 c1 c2 c3 c4 c5 z2 z3 z4 e0 e1 e2 e3 e4 e5 y0 y1 y2 y3 y4 y5
    clear hY2 HR1
    have c0 := cell_of_heap HR2.out.b4 0
    have c1 := cell_of_heap HR2.out.b4 1
    have c2 := cell_of_heap HR2.out.b4 2
    have c3 := cell_of_heap HR2.out.b4 3
    have c4 := cell_of_heap HR2.out.b4 4
    have c5 := cell_of_heap HR2.out.b4 5
    simp at c0 c1 c2 c3 c4 c5
    have z2 := frozen_of_heap HR2.out.b4 2
    have z3 := frozen_of_heap HR2.out.b4 3
    have z4 := frozen_of_heap HR2.out.b4 4
    have e0 := cell_of_heap HR2.out.b6 0
    have y0 := frozen_of_heap HR2.out.b6 0
    have e1 := cell_of_heap HR2.out.b6 1
    have y1 := frozen_of_heap HR2.out.b6 1
    have e2 := cell_of_heap HR2.out.b6 2
    have y2 := frozen_of_heap HR2.out.b6 2
    have e3 := cell_of_heap HR2.out.b6 3
    have y3 := frozen_of_heap HR2.out.b6 3
    have e4 := cell_of_heap HR2.out.b6 4
    have y4 := frozen_of_heap HR2.out.b6 4
    have e5 := cell_of_heap HR2.out.b6 5
    have y5 := frozen_of_heap HR2.out.b6 5
    simp at e0 e1 e2 e3 e4 e5
    go_wp2_with fail
    refine (fresh_calls Y2 HR2.out.st (HLs.out _ _ _ HR2.out.st) h0 (by have := HM.out.made; dsimp only at *; omega)).mono ?_
    rintro e Y3 ⟨rfl, hN, hF, -⟩
    have HR3 : Hid (Rnd W0 Nb W vp vf ⟨sp, sf, mm + 1 + 1⟩ vf ⟨9, num, F1, b, c, kids⟩ Y3) := HR2.out.more Hw.out Hp.out hN hF (Or.inl rfl)
    clear c0 c1 c2 c3 c4 c5 z2 z3 z4 e0 e1 e2 e3 e4 e5 y0 y1 y2 y3 y4 y5
    clear hN hF
    have c0 := cell_of_heap HR3.out.b4 0
    have c1 := cell_of_heap HR3.out.b4 1
    have c2 := cell_of_heap HR3.out.b4 2
    have c3 := cell_of_heap HR3.out.b4 3
    have c4 := cell_of_heap HR3.out.b4 4
    have c5 := cell_of_heap HR3.out.b4 5
    simp at c0 c1 c2 c3 c4 c5
    have z2 := frozen_of_heap HR3.out.b4 2
    have z3 := frozen_of_heap HR3.out.b4 3
    have z4 := frozen_of_heap HR3.out.b4 4
    have e0 := cell_of_heap HR3.out.b6 0
    have y0 := frozen_of_heap HR3.out.b6 0
    have e1 := cell_of_heap HR3.out.b6 1
    have y1 := frozen_of_heap HR3.out.b6 1
    have e2 := cell_of_heap HR3.out.b6 2
    have y2 := frozen_of_heap HR3.out.b6 2
    have e3 := cell_of_heap HR3.out.b6 3
    have y3 := frozen_of_heap HR3.out.b6 3
    have e4 := cell_of_heap HR3.out.b6 4
    have y4 := frozen_of_heap HR3.out.b6 4
    have e5 := cell_of_heap HR3.out.b6 5
    have y5 := frozen_of_heap HR3.out.b6 5
    simp at e0 e1 e2 e3 e4 e5
    have HR4 := hid (HR3.out.set3 Hw.out Hp.out (freshZ (mm + 1)))
    generalize freshZ (mm + 1) = F2 at *
    go_wp2_with fail
    refine bodyPost_ret (v := ndV ⟨9, num, F1, F2, c, kids⟩) (node_result (tmps := _) rfl (box6_all HR4.out.b6 _ _ _ _ _ _)) rfl ?_
    obtain ⟨g1, g3⟩ := HR4.out.done Hw.out Hp.out (.int .i64 9) (.int .i64 num) (.string F1) (.string F2) (.string c) (.int .i64 kids)
    refine ⟨?_, ⟨_, ?_, HR4.out.mv⟩, g3⟩
    · rw [HRen.out]
      rfl
    · rw [HSt.out]
      exact g1
  by_cases k20 : kd = 20
  · subst k20
    have HRen : Hid (renZ ⟨20, num, a, b, c, kids⟩ sc mm = ⟨20, num, freshZ mm, freshZ (mm + 1), c, kids⟩) := rfl
    have HSt : Hid ((⟨sp, sf ++ lostZ ⟨20, num, a, b, c, kids⟩ sc, mm + makesZ (⟨20, num, a, b, c, kids⟩ : Nd).kind⟩ : Wst) = ⟨sp, sf, mm + 2⟩) := by
      have e : lostZ ⟨20, num, a, b, c, kids⟩ sc = [] := by unfold lostZ; rw [if_neg (by rintro ⟨h, -⟩; cases h)]
      show _ = _
      rw [e, List.append_nil]
      rfl
    have c0 := cell_of_heap HR0.out.b4 0
    have c1 := cell_of_heap HR0.out.b4 1
    have c2 := cell_of_heap HR0.out.b4 2
    have c3 := cell_of_heap HR0.out.b4 3
    have c4 := cell_of_heap HR0.out.b4 4
    have c5 := cell_of_heap HR0.out.b4 5
    simp at c0 c1 c2 c3 c4 c5
    have z2 := frozen_of_heap HR0.out.b4 2
    have z3 := frozen_of_heap HR0.out.b4 3
    have z4 := frozen_of_heap HR0.out.b4 4
    have e0 := cell_of_heap HR0.out.b6 0
    have y0 := frozen_of_heap HR0.out.b6 0
    have e1 := cell_of_heap HR0.out.b6 1
    have y1 := frozen_of_heap HR0.out.b6 1
    have e2 := cell_of_heap HR0.out.b6 2
    have y2 := frozen_of_heap HR0.out.b6 2
    have e3 := cell_of_heap HR0.out.b6 3
    have y3 := frozen_of_heap HR0.out.b6 3
    have e4 := cell_of_heap HR0.out.b6 4
    have y4 := frozen_of_heap HR0.out.b6 4
    have e5 := cell_of_heap HR0.out.b6 5
    have y5 := frozen_of_heap HR0.out.b6 5
    simp at e0 e1 e2 e3 e4 e5
    go_wp2_with fail
    refine (fresh_calls X HR0.out.st (HLs.out _ _ _ HR0.out.st) h0 (by have := HM.out.made; dsimp only at *; omega)).mono ?_
    rintro e Y ⟨rfl, hN, hF, -⟩
    have HR1 : Hid (Rnd W0 Nb W vp vf ⟨sp, sf, mm + 1⟩ vf ⟨20, num, a, b, c, kids⟩ Y) := HR0.out.more Hw.out Hp.out hN hF (Or.inl rfl)
    clear c0 c1 c2 c3 c4 c5 z2 z3 z4 e0 e1 e2 e3 e4 e5 y0 y1 y2 y3 y4 y5
    clear hN hF
    have c0 := cell_of_heap HR1.out.b4 0
    have c1 := cell_of_heap HR1.out.b4 1
    have c2 := cell_of_heap HR1.out.b4 2
    have c3 := cell_of_heap HR1.out.b4 3
    have c4 := cell_of_heap HR1.out.b4 4
    have c5 := cell_of_heap HR1.out.b4 5
    simp at c0 c1 c2 c3 c4 c5
    have z2 := frozen_of_heap HR1.out.b4 2
    have z3 := frozen_of_heap HR1.out.b4 3
    have z4 := frozen_of_heap HR1.out.b4 4
    have e0 := cell_of_heap HR1.out.b6 0
    have y0 := frozen_of_heap HR1.out.b6 0
    have e1 := cell_of_heap HR1.out.b6 1
    have y1 := frozen_of_heap HR1.out.b6 1
    have e2 := cell_of_heap HR1.out.b6 2
    have y2 := frozen_of_heap HR1.out.b6 2
    have e3 := cell_of_heap HR1.out.b6 3
    have y3 := frozen_of_heap HR1.out.b6 3
    have e4 := cell_of_heap HR1.out.b6 4
    have y4 := frozen_of_heap HR1.out.b6 4
    have e5 := cell_of_heap HR1.out.b6 5
    have y5 := frozen_of_heap HR1.out.b6 5
    simp at e0 e1 e2 e3 e4 e5
    have HR2 := hid (HR1.out.set2 Hw.out Hp.out (freshZ mm))
    have hW2 : ∃ Y2, Y.setCell ⟨W.heap.size, 2, none⟩ (.string (freshZ mm)) = Y2 := ⟨_, rfl⟩
    obtain ⟨Y2, hY2⟩ := hW2
    rw [hY2] at HR2
    have HF1 : Hid (freshZ mm = freshZ mm) := rfl
    generalize freshZ mm = F1 at *
    go_upto_region 14 with fail
    clear c0 c1 c2 c3 c4 c5 z2 z3 z4 e0 e1 e2 e3 e4 e5 y0 y1 y2 y3 y4 y5
    clear hY2 HR1
    have c0 := cell_of_heap HR2.out.b4 0
    have c1 := cell_of_heap HR2.out.b4 1
    have c2 := cell_of_heap HR2.out.b4 2
    have c3 := cell_of_heap HR2.out.b4 3
    have c4 := cell_of_heap HR2.out.b4 4
    have c5 := cell_of_heap HR2.out.b4 5
    simp at c0 c1 c2 c3 c4 c5
    have z2 := frozen_of_heap HR2.out.b4 2
    have z3 := frozen_of_heap HR2.out.b4 3
    have z4 := frozen_of_heap HR2.out.b4 4
    have e0 := cell_of_heap HR2.out.b6 0
    have y0 := frozen_of_heap HR2.out.b6 0
    have e1 := cell_of_heap HR2.out.b6 1
    have y1 := frozen_of_heap HR2.out.b6 1
    have e2 := cell_of_heap HR2.out.b6 2
    have y2 := frozen_of_heap HR2.out.b6 2
    have e3 := cell_of_heap HR2.out.b6 3
    have y3 := frozen_of_heap HR2.out.b6 3
    have e4 := cell_of_heap HR2.out.b6 4
    have y4 := frozen_of_heap HR2.out.b6 4
    have e5 := cell_of_heap HR2.out.b6 5
    have y5 := frozen_of_heap HR2.out.b6 5
    simp at e0 e1 e2 e3 e4 e5
    go_wp2_with fail
    refine (fresh_calls Y2 HR2.out.st (HLs.out _ _ _ HR2.out.st) h0 (by have := HM.out.made; dsimp only at *; omega)).mono ?_
    rintro e Y3 ⟨rfl, hN, hF, -⟩
    have HR3 : Hid (Rnd W0 Nb W vp vf ⟨sp, sf, mm + 1 + 1⟩ vf ⟨20, num, F1, b, c, kids⟩ Y3) := HR2.out.more Hw.out Hp.out hN hF (Or.inl rfl)
    clear c0 c1 c2 c3 c4 c5 z2 z3 z4 e0 e1 e2 e3 e4 e5 y0 y1 y2 y3 y4 y5
    clear hN hF
    have c0 := cell_of_heap HR3.out.b4 0
    have c1 := cell_of_heap HR3.out.b4 1
    have c2 := cell_of_heap HR3.out.b4 2
    have c3 := cell_of_heap HR3.out.b4 3
    have c4 := cell_of_heap HR3.out.b4 4
    have c5 := cell_of_heap HR3.out.b4 5
    simp at c0 c1 c2 c3 c4 c5
    have z2 := frozen_of_heap HR3.out.b4 2
    have z3 := frozen_of_heap HR3.out.b4 3
    have z4 := frozen_of_heap HR3.out.b4 4
    have e0 := cell_of_heap HR3.out.b6 0
    have y0 := frozen_of_heap HR3.out.b6 0
    have e1 := cell_of_heap HR3.out.b6 1
    have y1 := frozen_of_heap HR3.out.b6 1
    have e2 := cell_of_heap HR3.out.b6 2
    have y2 := frozen_of_heap HR3.out.b6 2
    have e3 := cell_of_heap HR3.out.b6 3
    have y3 := frozen_of_heap HR3.out.b6 3
    have e4 := cell_of_heap HR3.out.b6 4
    have y4 := frozen_of_heap HR3.out.b6 4
    have e5 := cell_of_heap HR3.out.b6 5
    have y5 := frozen_of_heap HR3.out.b6 5
    simp at e0 e1 e2 e3 e4 e5
    have HR4 := hid (HR3.out.set3 Hw.out Hp.out (freshZ (mm + 1)))
    generalize freshZ (mm + 1) = F2 at *
    go_wp2_with fail
    refine bodyPost_ret (v := ndV ⟨20, num, F1, F2, c, kids⟩) (node_result (tmps := _) rfl (box6_all HR4.out.b6 _ _ _ _ _ _)) rfl ?_
    obtain ⟨g1, g3⟩ := HR4.out.done Hw.out Hp.out (.int .i64 20) (.int .i64 num) (.string F1) (.string F2) (.string c) (.int .i64 kids)
    refine ⟨?_, ⟨_, ?_, HR4.out.mv⟩, g3⟩
    · rw [HRen.out]
      rfl
    · rw [HSt.out]
      exact g1
  by_cases k22 : kd = 22
  · subst k22
    have HRen : Hid (renZ ⟨22, num, a, b, c, kids⟩ sc mm = ⟨22, num, a, b, c, kids⟩) := rfl
    have HSt : Hid ((⟨sp, sf ++ lostZ ⟨22, num, a, b, c, kids⟩ sc, mm + makesZ (⟨22, num, a, b, c, kids⟩ : Nd).kind⟩ : Wst) = ⟨sp, sf, mm⟩) := by
      have e : lostZ ⟨22, num, a, b, c, kids⟩ sc = [] := by unfold lostZ; rw [if_neg (by rintro ⟨h, -⟩; cases h)]
      show _ = _
      rw [e, List.append_nil]
      rfl
    have c0 := cell_of_heap HR0.out.b4 0
    have c1 := cell_of_heap HR0.out.b4 1
    have c2 := cell_of_heap HR0.out.b4 2
    have c3 := cell_of_heap HR0.out.b4 3
    have c4 := cell_of_heap HR0.out.b4 4
    have c5 := cell_of_heap HR0.out.b4 5
    simp at c0 c1 c2 c3 c4 c5
    have z2 := frozen_of_heap HR0.out.b4 2
    have z3 := frozen_of_heap HR0.out.b4 3
    have z4 := frozen_of_heap HR0.out.b4 4
    have e0 := cell_of_heap HR0.out.b6 0
    have y0 := frozen_of_heap HR0.out.b6 0
    have e1 := cell_of_heap HR0.out.b6 1
    have y1 := frozen_of_heap HR0.out.b6 1
    have e2 := cell_of_heap HR0.out.b6 2
    have y2 := frozen_of_heap HR0.out.b6 2
    have e3 := cell_of_heap HR0.out.b6 3
    have y3 := frozen_of_heap HR0.out.b6 3
    have e4 := cell_of_heap HR0.out.b6 4
    have y4 := frozen_of_heap HR0.out.b6 4
    have e5 := cell_of_heap HR0.out.b6 5
    have y5 := frozen_of_heap HR0.out.b6 5
    simp at e0 e1 e2 e3 e4 e5
    go_wp2_with fail
    refine (clone_calls a _ HNa.out).mono ?_
    rintro e Y ⟨rfl, hb⟩
    have HR1 : Hid (Rnd W0 Nb W vp vf ⟨sp, sf, mm⟩ vf ⟨22, num, a, b, c, kids⟩ Y) := HR0.out.more Hw.out Hp.out (HR0.out.st.below hb) (Nfr.of_below hb) (Or.inl rfl)
    clear c0 c1 c2 c3 c4 c5 z2 z3 z4 e0 e1 e2 e3 e4 e5 y0 y1 y2 y3 y4 y5
    clear hb
    have c0 := cell_of_heap HR1.out.b4 0
    have c1 := cell_of_heap HR1.out.b4 1
    have c2 := cell_of_heap HR1.out.b4 2
    have c3 := cell_of_heap HR1.out.b4 3
    have c4 := cell_of_heap HR1.out.b4 4
    have c5 := cell_of_heap HR1.out.b4 5
    simp at c0 c1 c2 c3 c4 c5
    have z2 := frozen_of_heap HR1.out.b4 2
    have z3 := frozen_of_heap HR1.out.b4 3
    have z4 := frozen_of_heap HR1.out.b4 4
    have e0 := cell_of_heap HR1.out.b6 0
    have y0 := frozen_of_heap HR1.out.b6 0
    have e1 := cell_of_heap HR1.out.b6 1
    have y1 := frozen_of_heap HR1.out.b6 1
    have e2 := cell_of_heap HR1.out.b6 2
    have y2 := frozen_of_heap HR1.out.b6 2
    have e3 := cell_of_heap HR1.out.b6 3
    have y3 := frozen_of_heap HR1.out.b6 3
    have e4 := cell_of_heap HR1.out.b6 4
    have y4 := frozen_of_heap HR1.out.b6 4
    have e5 := cell_of_heap HR1.out.b6 5
    have y5 := frozen_of_heap HR1.out.b6 5
    simp at e0 e1 e2 e3 e4 e5
    have HR2 := hid (HR1.out.set2 Hw.out Hp.out a)
    go_wp2_with fail
    refine bodyPost_ret (v := ndV ⟨22, num, a, b, c, kids⟩) (node_result (tmps := _) rfl (box6_all HR2.out.b6 _ _ _ _ _ _)) rfl ?_
    obtain ⟨g1, g3⟩ := HR2.out.done Hw.out Hp.out (.int .i64 22) (.int .i64 num) (.string a) (.string b) (.string c) (.int .i64 kids)
    refine ⟨?_, ⟨_, ?_, HR2.out.mv⟩, g3⟩
    · rw [HRen.out]
      rfl
    · rw [HSt.out]
      exact g1
  by_cases k26 : kd = 26
  · subst k26
    have HRen : Hid (renZ ⟨26, num, a, b, c, kids⟩ sc mm = ⟨26, num, a, freshZ mm, freshZ (mm + 1), kids⟩) := rfl
    have HSt : Hid ((⟨sp, sf ++ lostZ ⟨26, num, a, b, c, kids⟩ sc, mm + makesZ (⟨26, num, a, b, c, kids⟩ : Nd).kind⟩ : Wst) = ⟨sp, sf, mm + 2⟩) := by
      have e : lostZ ⟨26, num, a, b, c, kids⟩ sc = [] := by unfold lostZ; rw [if_neg (by rintro ⟨h, -⟩; cases h)]
      show _ = _
      rw [e, List.append_nil]
      rfl
    have c0 := cell_of_heap HR0.out.b4 0
    have c1 := cell_of_heap HR0.out.b4 1
    have c2 := cell_of_heap HR0.out.b4 2
    have c3 := cell_of_heap HR0.out.b4 3
    have c4 := cell_of_heap HR0.out.b4 4
    have c5 := cell_of_heap HR0.out.b4 5
    simp at c0 c1 c2 c3 c4 c5
    have z2 := frozen_of_heap HR0.out.b4 2
    have z3 := frozen_of_heap HR0.out.b4 3
    have z4 := frozen_of_heap HR0.out.b4 4
    have e0 := cell_of_heap HR0.out.b6 0
    have y0 := frozen_of_heap HR0.out.b6 0
    have e1 := cell_of_heap HR0.out.b6 1
    have y1 := frozen_of_heap HR0.out.b6 1
    have e2 := cell_of_heap HR0.out.b6 2
    have y2 := frozen_of_heap HR0.out.b6 2
    have e3 := cell_of_heap HR0.out.b6 3
    have y3 := frozen_of_heap HR0.out.b6 3
    have e4 := cell_of_heap HR0.out.b6 4
    have y4 := frozen_of_heap HR0.out.b6 4
    have e5 := cell_of_heap HR0.out.b6 5
    have y5 := frozen_of_heap HR0.out.b6 5
    simp at e0 e1 e2 e3 e4 e5
    go_wp2_with fail
    refine (clone_calls a _ HNa.out).mono ?_
    rintro e Y ⟨rfl, hb⟩
    have HR1 : Hid (Rnd W0 Nb W vp vf ⟨sp, sf, mm⟩ vf ⟨26, num, a, b, c, kids⟩ Y) := HR0.out.more Hw.out Hp.out (HR0.out.st.below hb) (Nfr.of_below hb) (Or.inl rfl)
    clear c0 c1 c2 c3 c4 c5 z2 z3 z4 e0 e1 e2 e3 e4 e5 y0 y1 y2 y3 y4 y5
    clear hb
    have c0 := cell_of_heap HR1.out.b4 0
    have c1 := cell_of_heap HR1.out.b4 1
    have c2 := cell_of_heap HR1.out.b4 2
    have c3 := cell_of_heap HR1.out.b4 3
    have c4 := cell_of_heap HR1.out.b4 4
    have c5 := cell_of_heap HR1.out.b4 5
    simp at c0 c1 c2 c3 c4 c5
    have z2 := frozen_of_heap HR1.out.b4 2
    have z3 := frozen_of_heap HR1.out.b4 3
    have z4 := frozen_of_heap HR1.out.b4 4
    have e0 := cell_of_heap HR1.out.b6 0
    have y0 := frozen_of_heap HR1.out.b6 0
    have e1 := cell_of_heap HR1.out.b6 1
    have y1 := frozen_of_heap HR1.out.b6 1
    have e2 := cell_of_heap HR1.out.b6 2
    have y2 := frozen_of_heap HR1.out.b6 2
    have e3 := cell_of_heap HR1.out.b6 3
    have y3 := frozen_of_heap HR1.out.b6 3
    have e4 := cell_of_heap HR1.out.b6 4
    have y4 := frozen_of_heap HR1.out.b6 4
    have e5 := cell_of_heap HR1.out.b6 5
    have y5 := frozen_of_heap HR1.out.b6 5
    simp at e0 e1 e2 e3 e4 e5
    have HR2 := hid (HR1.out.set2 Hw.out Hp.out a)
    obtain ⟨Y2, hY2⟩ : ∃ Y2, Y.setCell ⟨W.heap.size, 2, none⟩ (.string a) = Y2 := ⟨_, rfl⟩
    rw [hY2] at HR2
    go_upto_region 19 with fail
    clear c0 c1 c2 c3 c4 c5 z2 z3 z4 e0 e1 e2 e3 e4 e5 y0 y1 y2 y3 y4 y5
    clear hY2 HR1
    have c0 := cell_of_heap HR2.out.b4 0
    have c1 := cell_of_heap HR2.out.b4 1
    have c2 := cell_of_heap HR2.out.b4 2
    have c3 := cell_of_heap HR2.out.b4 3
    have c4 := cell_of_heap HR2.out.b4 4
    have c5 := cell_of_heap HR2.out.b4 5
    simp at c0 c1 c2 c3 c4 c5
    have z2 := frozen_of_heap HR2.out.b4 2
    have z3 := frozen_of_heap HR2.out.b4 3
    have z4 := frozen_of_heap HR2.out.b4 4
    have e0 := cell_of_heap HR2.out.b6 0
    have y0 := frozen_of_heap HR2.out.b6 0
    have e1 := cell_of_heap HR2.out.b6 1
    have y1 := frozen_of_heap HR2.out.b6 1
    have e2 := cell_of_heap HR2.out.b6 2
    have y2 := frozen_of_heap HR2.out.b6 2
    have e3 := cell_of_heap HR2.out.b6 3
    have y3 := frozen_of_heap HR2.out.b6 3
    have e4 := cell_of_heap HR2.out.b6 4
    have y4 := frozen_of_heap HR2.out.b6 4
    have e5 := cell_of_heap HR2.out.b6 5
    have y5 := frozen_of_heap HR2.out.b6 5
    simp at e0 e1 e2 e3 e4 e5
    go_wp2_with fail
    refine (fresh_calls Y2 HR2.out.st (HLs.out _ _ _ HR2.out.st) h0 (by have := HM.out.made; dsimp only at *; omega)).mono ?_
    rintro e Y3 ⟨rfl, hN, hF, -⟩
    have HR3 : Hid (Rnd W0 Nb W vp vf ⟨sp, sf, mm + 1⟩ vf ⟨26, num, a, b, c, kids⟩ Y3) := HR2.out.more Hw.out Hp.out hN hF (Or.inl rfl)
    clear c0 c1 c2 c3 c4 c5 z2 z3 z4 e0 e1 e2 e3 e4 e5 y0 y1 y2 y3 y4 y5
    clear hN hF
    have c0 := cell_of_heap HR3.out.b4 0
    have c1 := cell_of_heap HR3.out.b4 1
    have c2 := cell_of_heap HR3.out.b4 2
    have c3 := cell_of_heap HR3.out.b4 3
    have c4 := cell_of_heap HR3.out.b4 4
    have c5 := cell_of_heap HR3.out.b4 5
    simp at c0 c1 c2 c3 c4 c5
    have z2 := frozen_of_heap HR3.out.b4 2
    have z3 := frozen_of_heap HR3.out.b4 3
    have z4 := frozen_of_heap HR3.out.b4 4
    have e0 := cell_of_heap HR3.out.b6 0
    have y0 := frozen_of_heap HR3.out.b6 0
    have e1 := cell_of_heap HR3.out.b6 1
    have y1 := frozen_of_heap HR3.out.b6 1
    have e2 := cell_of_heap HR3.out.b6 2
    have y2 := frozen_of_heap HR3.out.b6 2
    have e3 := cell_of_heap HR3.out.b6 3
    have y3 := frozen_of_heap HR3.out.b6 3
    have e4 := cell_of_heap HR3.out.b6 4
    have y4 := frozen_of_heap HR3.out.b6 4
    have e5 := cell_of_heap HR3.out.b6 5
    have y5 := frozen_of_heap HR3.out.b6 5
    simp at e0 e1 e2 e3 e4 e5
    have HR4 := hid (HR3.out.set3 Hw.out Hp.out (freshZ mm))
    obtain ⟨Y4, hY4⟩ : ∃ Y4, Y3.setCell ⟨W.heap.size, 3, none⟩ (.string (freshZ mm)) = Y4 := ⟨_, rfl⟩
    rw [hY4] at HR4
    generalize freshZ mm = F1 at *
    go_upto_region 20 with fail
    clear c0 c1 c2 c3 c4 c5 z2 z3 z4 e0 e1 e2 e3 e4 e5 y0 y1 y2 y3 y4 y5
    clear hY4 HR3 HR2
    have c0 := cell_of_heap HR4.out.b4 0
    have c1 := cell_of_heap HR4.out.b4 1
    have c2 := cell_of_heap HR4.out.b4 2
    have c3 := cell_of_heap HR4.out.b4 3
    have c4 := cell_of_heap HR4.out.b4 4
    have c5 := cell_of_heap HR4.out.b4 5
    simp at c0 c1 c2 c3 c4 c5
    have z2 := frozen_of_heap HR4.out.b4 2
    have z3 := frozen_of_heap HR4.out.b4 3
    have z4 := frozen_of_heap HR4.out.b4 4
    have e0 := cell_of_heap HR4.out.b6 0
    have y0 := frozen_of_heap HR4.out.b6 0
    have e1 := cell_of_heap HR4.out.b6 1
    have y1 := frozen_of_heap HR4.out.b6 1
    have e2 := cell_of_heap HR4.out.b6 2
    have y2 := frozen_of_heap HR4.out.b6 2
    have e3 := cell_of_heap HR4.out.b6 3
    have y3 := frozen_of_heap HR4.out.b6 3
    have e4 := cell_of_heap HR4.out.b6 4
    have y4 := frozen_of_heap HR4.out.b6 4
    have e5 := cell_of_heap HR4.out.b6 5
    have y5 := frozen_of_heap HR4.out.b6 5
    simp at e0 e1 e2 e3 e4 e5
    go_wp2_with fail
    refine (fresh_calls Y4 HR4.out.st (HLs.out _ _ _ HR4.out.st) h0 (by have := HM.out.made; dsimp only at *; omega)).mono ?_
    rintro e Y5 ⟨rfl, hN, hF, -⟩
    have HR5 : Hid (Rnd W0 Nb W vp vf ⟨sp, sf, mm + 1 + 1⟩ vf ⟨26, num, a, F1, c, kids⟩ Y5) := HR4.out.more Hw.out Hp.out hN hF (Or.inl rfl)
    clear c0 c1 c2 c3 c4 c5 z2 z3 z4 e0 e1 e2 e3 e4 e5 y0 y1 y2 y3 y4 y5
    clear hN hF
    have c0 := cell_of_heap HR5.out.b4 0
    have c1 := cell_of_heap HR5.out.b4 1
    have c2 := cell_of_heap HR5.out.b4 2
    have c3 := cell_of_heap HR5.out.b4 3
    have c4 := cell_of_heap HR5.out.b4 4
    have c5 := cell_of_heap HR5.out.b4 5
    simp at c0 c1 c2 c3 c4 c5
    have z2 := frozen_of_heap HR5.out.b4 2
    have z3 := frozen_of_heap HR5.out.b4 3
    have z4 := frozen_of_heap HR5.out.b4 4
    have e0 := cell_of_heap HR5.out.b6 0
    have y0 := frozen_of_heap HR5.out.b6 0
    have e1 := cell_of_heap HR5.out.b6 1
    have y1 := frozen_of_heap HR5.out.b6 1
    have e2 := cell_of_heap HR5.out.b6 2
    have y2 := frozen_of_heap HR5.out.b6 2
    have e3 := cell_of_heap HR5.out.b6 3
    have y3 := frozen_of_heap HR5.out.b6 3
    have e4 := cell_of_heap HR5.out.b6 4
    have y4 := frozen_of_heap HR5.out.b6 4
    have e5 := cell_of_heap HR5.out.b6 5
    have y5 := frozen_of_heap HR5.out.b6 5
    simp at e0 e1 e2 e3 e4 e5
    have HR6 := hid (HR5.out.set4 Hw.out Hp.out (freshZ (mm + 1)))
    generalize freshZ (mm + 1) = F2 at *
    go_wp2_with fail
    refine bodyPost_ret (v := ndV ⟨26, num, a, F1, F2, kids⟩) (node_result (tmps := _) rfl (box6_all HR6.out.b6 _ _ _ _ _ _)) rfl ?_
    obtain ⟨g1, g3⟩ := HR6.out.done Hw.out Hp.out (.int .i64 26) (.int .i64 num) (.string a) (.string F1) (.string F2) (.int .i64 kids)
    refine ⟨?_, ⟨_, ?_, HR6.out.mv⟩, g3⟩
    · rw [HRen.out]
      rfl
    · rw [HSt.out]
      exact g1
  by_cases k5 : kd = 5
  · subst k5
    have HMk : Hid (makesZ 5 = 0) := rfl
    cases hfd : findS sc a with
    | some y =>
      have HRen : Hid (renZ ⟨5, num, a, b, c, kids⟩ sc mm = ⟨5, num, y, b, c, kids⟩) := by
        show _ = _
        unfold renZ
        rw [if_pos rfl, hfd]
        rfl
      have HSt : Hid ((⟨sp, sf ++ lostZ ⟨5, num, a, b, c, kids⟩ sc, mm + makesZ (⟨5, num, a, b, c, kids⟩ : Nd).kind⟩ : Wst) = ⟨sp, sf, mm⟩) := by
        have e : lostZ ⟨5, num, a, b, c, kids⟩ sc = [] := by unfold lostZ; rw [if_neg (by rintro ⟨-, h⟩; rw [hfd] at h; cases h)]
        show _ = _
        rw [e, List.append_nil]
        rfl
      have HFi := hid (find_calls p sc a X HSc.out)
      rw [hfd] at HFi
      dsimp only [Option.getD_some, Option.isSome_some] at HFi
      have c0 := cell_of_heap HR0.out.b4 0
      have c1 := cell_of_heap HR0.out.b4 1
      have c2 := cell_of_heap HR0.out.b4 2
      have c3 := cell_of_heap HR0.out.b4 3
      have c4 := cell_of_heap HR0.out.b4 4
      have c5 := cell_of_heap HR0.out.b4 5
      simp at c0 c1 c2 c3 c4 c5
      have z2 := frozen_of_heap HR0.out.b4 2
      have z3 := frozen_of_heap HR0.out.b4 3
      have z4 := frozen_of_heap HR0.out.b4 4
      have e0 := cell_of_heap HR0.out.b6 0
      have y0 := frozen_of_heap HR0.out.b6 0
      have e1 := cell_of_heap HR0.out.b6 1
      have y1 := frozen_of_heap HR0.out.b6 1
      have e2 := cell_of_heap HR0.out.b6 2
      have y2 := frozen_of_heap HR0.out.b6 2
      have e3 := cell_of_heap HR0.out.b6 3
      have y3 := frozen_of_heap HR0.out.b6 3
      have e4 := cell_of_heap HR0.out.b6 4
      have y4 := frozen_of_heap HR0.out.b6 4
      have e5 := cell_of_heap HR0.out.b6 5
      have y5 := frozen_of_heap HR0.out.b6 5
      simp at e0 e1 e2 e3 e4 e5
      go_wp2_with fail
      refine HFi.out.mono ?_
      rintro e _ ⟨rfl, rfl⟩
      have HR2 := hid (HR0.out.set2 Hw.out Hp.out y)
      go_wp2_with fail
      refine bodyPost_ret (v := ndV ⟨5, num, y, b, c, kids⟩) (node_result (tmps := _) rfl (box6_all HR2.out.b6 _ _ _ _ _ _)) rfl ?_
      obtain ⟨g1, g3⟩ := HR2.out.done Hw.out Hp.out (.int .i64 5) (.int .i64 num) (.string y) (.string b) (.string c) (.int .i64 kids)
      refine ⟨?_, ⟨_, ?_, HR2.out.mv⟩, g3⟩
      · rw [HRen.out]
        rfl
      · rw [HSt.out]
        exact g1
    | none =>
      have HRen : Hid (renZ ⟨5, num, a, b, c, kids⟩ sc mm = ⟨5, num, ⟨#[]⟩, b, c, kids⟩) := by
        show _ = _
        unfold renZ
        rw [if_pos rfl, hfd]
        rfl
      have HSt : Hid ((⟨sp, sf ++ lostZ ⟨5, num, a, b, c, kids⟩ sc, mm + makesZ (⟨5, num, a, b, c, kids⟩ : Nd).kind⟩ : Wst) = ⟨sp, sf ++ [a], mm⟩) := by
        have e : lostZ ⟨5, num, a, b, c, kids⟩ sc = [a] := by unfold lostZ; rw [if_pos ⟨rfl, hfd⟩]
        show _ = _
        rw [e]
        rfl
      have HFi := hid (find_calls p sc a X HSc.out)
      rw [hfd] at HFi
      dsimp only [Option.getD_none, Option.isSome_none] at HFi
      have c0 := cell_of_heap HR0.out.b4 0
      have c1 := cell_of_heap HR0.out.b4 1
      have c2 := cell_of_heap HR0.out.b4 2
      have c3 := cell_of_heap HR0.out.b4 3
      have c4 := cell_of_heap HR0.out.b4 4
      have c5 := cell_of_heap HR0.out.b4 5
      simp at c0 c1 c2 c3 c4 c5
      have z2 := frozen_of_heap HR0.out.b4 2
      have z3 := frozen_of_heap HR0.out.b4 3
      have z4 := frozen_of_heap HR0.out.b4 4
      have e0 := cell_of_heap HR0.out.b6 0
      have y0 := frozen_of_heap HR0.out.b6 0
      have e1 := cell_of_heap HR0.out.b6 1
      have y1 := frozen_of_heap HR0.out.b6 1
      have e2 := cell_of_heap HR0.out.b6 2
      have y2 := frozen_of_heap HR0.out.b6 2
      have e3 := cell_of_heap HR0.out.b6 3
      have y3 := frozen_of_heap HR0.out.b6 3
      have e4 := cell_of_heap HR0.out.b6 4
      have y4 := frozen_of_heap HR0.out.b6 4
      have e5 := cell_of_heap HR0.out.b6 5
      have y5 := frozen_of_heap HR0.out.b6 5
      simp at e0 e1 e2 e3 e4 e5
      go_wp2_with fail
      refine HFi.out.mono ?_
      rintro e _ ⟨rfl, rfl⟩
      obtain ⟨ad, cf, hvf⟩ := own_slice HR0.out.st.frow
      dsimp only at hvf
      subst hvf
      have hblk := HR0.out.st.blk
      have d1 := cell_of_heap hblk 1
      simp at d1
      have hNl : Nb < X.heap.size := heap_lt hblk
      have hBl : W.heap.size < X.heap.size := heap_lt HR0.out.b4
      have q1 : ∀ y : Later X.heap.size X, y.w.cell? ⟨Nb, 1, none⟩ = _ := fun y => y.cell hNl d1
      have q2 : ∀ y : Later X.heap.size X, y.w.cell? ⟨W.heap.size, 2, none⟩ = _ := fun y => y.cell hBl c2
      clear HFi hblk d1
      clear c0 c1 c3 c4 c5 z2 z3 z4 e0 e1 e2 e3 e4 e5 y0 y1 y2 y3 y4 y5
      go_wp2_with fail
      refine till_begin (c := 9) (S := fun w' => ∃ x : Later X.heap.size X, w' = x.w) (by kernel_rfl) ?_
      refine till_walk (by kernel_rfl) 8 0 _ _ (by kernel_rfl) (by kernel_rfl) ⟨⟨X.drew, (Below.refl _ _).drew⟩, rfl⟩ ?_
      simp only [List.drop_zero, List.take_succ_cons, List.take_zero]
      repeat (go_big_quiet_step (first
        | (rename_i y; go_at_call 109; refine (clone_calls a _ HNa.out).mono ?_; rintro e w5 ⟨rfl, hb5⟩; exact ⟨rfl, ⟨w5, y.h.trans (hb5.mono y.h.size)⟩, rfl⟩)))
      refine wpQuiet_nil ?_
      rintro w7 ⟨x1, rfl⟩
      have HR1 := hid (HR0.out.more Hw.out Hp.out (HR0.out.st.below x1.h) (Nfr.of_below x1.h) (Or.inl rfl))
      have hL1 := x1.h
      clear q1 q2 c2 hNl hBl
      generalize x1.w = X1 at *
      refine till_make (k := 8) (v := .slice (some ⟨X1.heap.size, 0, none⟩) 1 1) (w1 := X1.alloc (.cells #[.string a] 9)) (by decide) rfl (by kernel_rfl) rfl (by simp [go_sem]) ⟨⟨_, hL1.alloc (by have := hL1.size; omega) _⟩, rfl⟩ (by simp [go_sem]; exact rfl) ?_
      have hE := (MapKept.heap_alloc X1 (.cells #[.string a] 9)).1
      have hK := (Below.refl X1.heap.size X1).alloc (Nat.le_refl _) (.cells #[.string a] 9)
      have HR2 := hid (HR1.out.more Hw.out Hp.out (HR1.out.st.below hK) (Nfr.of_below hK) (Or.inl rfl))
      generalize X1.alloc (.cells #[.string a] 9) = X2 at *
      obtain ⟨i0, hi, hz0, hz1, hz2⟩ := info_parts info_str
      obtain ⟨vf2, X3, hrun, hown, hgrow, -, hat⟩ := run_append_own_at (P := Tryz.prog) X2 W0.heap.size 43 43 9 i0 _ 1 16 Tryz.underlying43 hi hz0 hz1 hz2 rfl (by decide) (.slice ad sf.length cf) sf.length (strRow sf) HR2.out.st.frow ⟨X1.heap.size, 0, none⟩ 1 1 [.string a] rfl (fun j u hu => by
        match j, hu with
        | 0, hu =>
          simp at hu
          subst hu
          exact cell_of_heap hE 0) (fun u hu => by
        simp at hu
        subst hu
        rfl) (by have := HM.out.free; dsimp only at this; unfold maxLen; omega) (by have := HM.out.free; dsimp only at this; omega) HR2.out.st.size
      refine till_cut (v := vf2) (w1 := X3) rfl (by kernel_rfl) rfl (append_runN (s := .tmp 26) (x := .tmp 30) (t := 43) rfl rfl rfl hrun) (by simp [go_sem]; exact rfl) ?_
      refine any_stage (fun _ => True) ?_
      have hnbk : X3.heap[Nb]? = X2.heap[Nb]? := hgrow.block Nb (heap_lt HR2.out.st.blk) (fun e => (HR2.out.st.apart HR2.out.st.blk).2 (by decide) e.symm)
      have hb3 := hnbk.trans HR2.out.st.blk
      have d1 := cell_of_heap hb3 1
      have w1 := frozen_of_heap hb3 1
      simp at d1
      obtain ⟨ad2, cf2, hv2⟩ := own_slice hown
      subst hv2
      refine stage_make (k := 10) (v := .pointer (some ⟨Nb, 0, none⟩)) (w1 := X3) rfl (by kernel_rfl) rfl (by simp [go_sem]) trivial (by simp [go_sem]; exact rfl) ?_
      refine stage_make (k := 11) (v := .pointer (some ⟨Nb, 1, none⟩)) (w1 := X3) rfl (by kernel_rfl) rfl (by simp [go_sem]) trivial (by simp [go_sem]; exact rfl) ?_
      refine stage_skip (k := 12) rfl (w1 := X3.setCell ⟨Nb, 1, none⟩ (.slice ad2 (sf.length + 1) cf2)) rfl (by kernel_rfl) rfl (by simp [go_sem, d1, w1]) trivial ?_
      refine stage_end (by kernel_rfl) ?_
      have hnx := nms_free HR2.out.st hown hgrow hat
      have HR3 : Hid (Rnd W0 Nb W vp (.slice ad sf.length cf) ⟨sp, sf ++ [a], mm⟩ (.slice ad2 (sf.length + 1) cf2) ⟨5, num, a, b, c, kids⟩ (X3.setCell ⟨Nb, 1, none⟩ (.slice ad2 (sf.length + 1) cf2))) := HR2.out.more Hw.out Hp.out hnx.1 hnx.2.1 hnx.2.2
      clear hnx hrun hown hgrow hat hE hK hi hz0 hz1 hz2 hnbk hb3 d1 w1 HR1 HR2 hL1
      generalize X3.setCell ⟨Nb, 1, none⟩ (.slice ad2 (sf.length + 1) cf2) = X4 at *
      have c0 := cell_of_heap HR3.out.b4 0
      have c1 := cell_of_heap HR3.out.b4 1
      have c2 := cell_of_heap HR3.out.b4 2
      have c3 := cell_of_heap HR3.out.b4 3
      have c4 := cell_of_heap HR3.out.b4 4
      have c5 := cell_of_heap HR3.out.b4 5
      simp at c0 c1 c2 c3 c4 c5
      have z2 := frozen_of_heap HR3.out.b4 2
      have z3 := frozen_of_heap HR3.out.b4 3
      have z4 := frozen_of_heap HR3.out.b4 4
      have e0 := cell_of_heap HR3.out.b6 0
      have y0 := frozen_of_heap HR3.out.b6 0
      have e1 := cell_of_heap HR3.out.b6 1
      have y1 := frozen_of_heap HR3.out.b6 1
      have e2 := cell_of_heap HR3.out.b6 2
      have y2 := frozen_of_heap HR3.out.b6 2
      have e3 := cell_of_heap HR3.out.b6 3
      have y3 := frozen_of_heap HR3.out.b6 3
      have e4 := cell_of_heap HR3.out.b6 4
      have y4 := frozen_of_heap HR3.out.b6 4
      have e5 := cell_of_heap HR3.out.b6 5
      have y5 := frozen_of_heap HR3.out.b6 5
      simp at e0 e1 e2 e3 e4 e5
      have HR4 := hid (HR3.out.set2 Hw.out Hp.out ⟨#[]⟩)
      go_wp2_with fail
      refine bodyPost_ret (v := ndV ⟨5, num, ⟨#[]⟩, b, c, kids⟩) (node_result (tmps := _) rfl (box6_all HR4.out.b6 _ _ _ _ _ _)) rfl ?_
      obtain ⟨g1, g3⟩ := HR4.out.done Hw.out Hp.out (.int .i64 5) (.int .i64 num) (.string ⟨#[]⟩) (.string b) (.string c) (.int .i64 kids)
      refine ⟨?_, ⟨_, ?_, HR4.out.mv⟩, g3⟩
      · rw [HRen.out]
        rfl
      · rw [HSt.out]
        exact g1
  have b6 : (kd == 6) = false := beq_eq_false_iff_ne.2 k6
  have b8 : (kd == 8) = false := beq_eq_false_iff_ne.2 k8
  have b25 : (kd == 25) = false := beq_eq_false_iff_ne.2 k25
  have b9 : (kd == 9) = false := beq_eq_false_iff_ne.2 k9
  have b20 : (kd == 20) = false := beq_eq_false_iff_ne.2 k20
  have b22 : (kd == 22) = false := beq_eq_false_iff_ne.2 k22
  have b26 : (kd == 26) = false := beq_eq_false_iff_ne.2 k26
  have b5 : (kd == 5) = false := beq_eq_false_iff_ne.2 k5
  have HRen : Hid (renZ ⟨kd, num, a, b, c, kids⟩ sc mm = ⟨kd, num, a, b, c, kids⟩) := by
    show _ = _
    unfold renZ
    rw [if_neg k5, if_neg (by rintro (h | h | h); exact k6 h; exact k8 h; exact k25 h), if_neg (by rintro (h | h); exact k9 h; exact k20 h), if_neg k26]
  have HSt : Hid ((⟨sp, sf ++ lostZ ⟨kd, num, a, b, c, kids⟩ sc, mm + makesZ (⟨kd, num, a, b, c, kids⟩ : Nd).kind⟩ : Wst) = ⟨sp, sf, mm⟩) := by
    have e : lostZ ⟨kd, num, a, b, c, kids⟩ sc = [] := by unfold lostZ; rw [if_neg (by rintro ⟨h, -⟩; exact k5 h)]
    have e2 : makesZ kd = 0 := by unfold makesZ; rw [if_neg (by rintro (h | h | h); exact k6 h; exact k8 h; exact k25 h), if_neg (by rintro (h | h | h); exact k9 h; exact k20 h; exact k26 h)]
    show _ = _
    dsimp only
    rw [e, List.append_nil, e2]
    rfl
  have c0 := cell_of_heap HR0.out.b4 0
  have c1 := cell_of_heap HR0.out.b4 1
  have c2 := cell_of_heap HR0.out.b4 2
  have c3 := cell_of_heap HR0.out.b4 3
  have c4 := cell_of_heap HR0.out.b4 4
  have c5 := cell_of_heap HR0.out.b4 5
  simp at c0 c1 c2 c3 c4 c5
  have z2 := frozen_of_heap HR0.out.b4 2
  have z3 := frozen_of_heap HR0.out.b4 3
  have z4 := frozen_of_heap HR0.out.b4 4
  have e0 := cell_of_heap HR0.out.b6 0
  have y0 := frozen_of_heap HR0.out.b6 0
  have e1 := cell_of_heap HR0.out.b6 1
  have y1 := frozen_of_heap HR0.out.b6 1
  have e2 := cell_of_heap HR0.out.b6 2
  have y2 := frozen_of_heap HR0.out.b6 2
  have e3 := cell_of_heap HR0.out.b6 3
  have y3 := frozen_of_heap HR0.out.b6 3
  have e4 := cell_of_heap HR0.out.b6 4
  have y4 := frozen_of_heap HR0.out.b6 4
  have e5 := cell_of_heap HR0.out.b6 5
  have y5 := frozen_of_heap HR0.out.b6 5
  simp at e0 e1 e2 e3 e4 e5
  go_wp2_with fail
  refine bodyPost_ret (v := ndV ⟨kd, num, a, b, c, kids⟩) (node_result (tmps := _) rfl (box6_all HR0.out.b6 _ _ _ _ _ _)) rfl ?_
  obtain ⟨g1, g3⟩ := HR0.out.done Hw.out Hp.out (.int .i64 kd) (.int .i64 num) (.string a) (.string b) (.string c) (.int .i64 kids)
  refine ⟨?_, ⟨_, ?_, HR0.out.mv⟩, g3⟩
  · rw [HRen.out]
    rfl
  · rw [HSt.out]
    exact g1
end Go.Proofs.YtgiejnmphfgmgaaGreatDoor
