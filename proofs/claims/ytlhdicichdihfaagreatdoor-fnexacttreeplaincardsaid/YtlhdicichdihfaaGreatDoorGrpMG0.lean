/- What the specification's plainer keeps in memory; its small functions. -/
import Derived.Test.YtlhdicichdihfaaGreatDoorPlainPure
import Derived.Test.YtlhdicichdihfaaGreatDoorDecPos
import Derived.Test.YtlhdicichdihfaaGreatDoorOwnRow
import Derived.Deep.RegionWith
import Derived.BigQuiet
import Derived.Test.YtlhdicichdihfaaGreatDoorNodeArgs
import Derived.Deep.CutRange
import Derived.Deep.CutBlock
import Derived.Test.YtlhdicichdihfaaGreatDoorCalm
import Derived.Test.YtlhdicichdihfaaGreatDoorSpecFreeB
import Derived.Test.YtlhdicichdihfaaGreatDoorRows
import Derived.ProofKit
import Derived.LaidMore
import Derived.OpenShut
import Derived.Lib.LaidTab
import Derived.Test.YtlhdicichdihfaaGreatDoorCards
import Derived.Test.YtlhdicichdihfaaGreatDoorTie
import Derived.Deep.DeepHandedRow
import Derived.JoinedCond
import Derived.ChangeVars
namespace Go.Proofs.YtlhdicichdihfaaGreatDoor
open Go.RowKit Go.Deep

/-- The plainer, as it lies. -/
structure Pls (W0 : World) (Pb : Nat) (tv : Value) (s : Wst) (vo : Value) (W : World) : Prop where
  blk : W.heap[Pb]? = some (.cells #[tv, vo, .int .i64 (s.made : Int)] 40)
  row : W.ownsRow W0.heap.size 42 6 vo s.plain.length (ndRow s.plain)
  os : W.os = W0.os
  tape : W.tape = W0.tape
  output : W.output = W0.output
  size : W0.heap.size ≤ W.heap.size
  kept : ∀ q, q < W0.heap.size → q ≠ Pb → W.heap[q]? = W0.heap[q]?
  nb : Pb < W0.heap.size

theorem Pls.below {W0 : World} {Pb : Nat} {tv : Value} {s : Wst} {vo : Value} {W W' : World} (h : Pls W0 Pb tv s vo W) (hb : Below W.heap.size W W') : Pls W0 Pb tv s vo W' := by
  have hs := h.size
  exact ⟨(hb.block _ (heap_lt h.blk)).trans h.blk, own_same h.row (fun g e => by obtain ⟨-, c, hc⟩ := own_type h.row e; exact hb.block g (heap_lt hc)), hb.os.trans h.os, hb.tape.trans h.tape, hb.output.trans h.output, Nat.le_trans h.size hb.size, fun q hq hn => (hb.block q (by omega)).trans (h.kept q hq hn), h.nb⟩

theorem Pls.apart {W0 : World} {Pb : Nat} {tv : Value} {s : Wst} {vo : Value} {W : World} (h : Pls W0 Pb tv s vo W) {q : Nat} {c : Array Value} {t : TypeId} (hq : W.heap[q]? = some (.cells c t)) : t ≠ 42 → vo.ownBlock ≠ some q := by
  intro ht e
  obtain ⟨-, cur, hc⟩ := own_type h.row e
  rw [hq] at hc
  cases hc
  exact ht rfl

/-- What the plainer's functions leave as it was. -/
abbrev Pfr (Pb : Nat) (vo : Value) (W W' : World) : Prop := Nfr Pb vo (.slice none 0 0) W W'

theorem movd_none (W : World) : Movd W (.slice none 0 0) (.slice none 0 0) := Or.inl rfl

theorem Pfr.trans {Pb : Nat} {vo vo' : Value} {W W' W'' : World} (h : Pfr Pb vo W W') (hp : Movd W vo vo') (h' : Pfr Pb vo' W' W'') : Pfr Pb vo W W'' := Nfr.trans h hp (movd_none W) h'

/-- A slice of names in a row of names. -/
def NamesT (W : World) (v : Value) (ss : List ByteArray) : Prop :=
  (v = .slice none 0 0 ∧ ss = []) ∨ ∃ g c cur, v = .slice (some ⟨g, 0, none⟩) ss.length c ∧ ss.length ≤ c ∧ W.heap[g]? = some (.cells cur 9) ∧ ∀ j, j < ss.length → cur[j]? = some (.string (ss.getD j ⟨#[]⟩))

theorem NamesT.names {W : World} {v : Value} {ss : List ByteArray} (h : NamesT W v ss) : NamesV W v ss := by
  rcases h with h | ⟨g, c, cur, e, -, hg, hc⟩
  · exact Or.inl h
  · exact Or.inr ⟨g, 0, c, e, heap_lt hg, fun j hj => by rw [Nat.zero_add, cell_of_heap hg j]; exact hc j hj⟩

theorem NamesT.below {W W' : World} {v : Value} {ss : List ByteArray} (h : NamesT W v ss) (hb : Below W.heap.size W W') : NamesT W' v ss := by
  rcases h with h | ⟨g, c, cur, e, hl, hg, hc⟩
  · exact Or.inl h
  · exact Or.inr ⟨g, c, cur, e, hl, (hb.block g (heap_lt hg)).trans hg, hc⟩

theorem NamesT.frame {W0 : World} {Pb : Nat} {tv : Value} {s : Wst} {vo : Value} {W W' : World} {v : Value} {ss : List ByteArray} (h : NamesT W v ss) (st : Pls W0 Pb tv s vo W) (hf : Pfr Pb vo W W') : NamesT W' v ss := by
  rcases h with h | ⟨g, c, cur, e, hl, hg, hc⟩
  · exact Or.inl h
  · exact Or.inr ⟨g, c, cur, e, hl, (hf.block g (heap_lt hg) (fun e2 => by subst e2; rw [st.blk] at hg; cases hg) (st.apart hg (by decide)) (by simp [Value.ownBlock])).trans hg, hc⟩

theorem NamesT.slice {W : World} {v : Value} {ss : List ByteArray} (h : NamesT W v ss) : ∃ ad c, v = .slice ad ss.length c := h.names.slice

theorem namesT_owns {W : World} {B : Nat} {v : Value} {n : Nat} {ss : List ByteArray} (h : W.ownsRow B 9 1 v n (strRow ss)) : NamesT W v ss := by
  have hl : n = ss.length := (names_owns h).2
  subst hl
  obtain ⟨-, ⟨rfl, h0⟩ | ⟨g, cap, cur, rfl, hB, hg, h1, h2, h3, h4⟩⟩ := h
  · exact Or.inl ⟨rfl, List.eq_nil_of_length_eq_zero h0⟩
  · refine Or.inr ⟨g, cap, cur, rfl, h1, hg, fun j hj => ?_⟩
    have e := congrArg (fun l => l[j]?) h4
    simp only [List.getElem?_take_of_lt (show j < ss.length * 1 by omega), strRow_get ss j hj, Array.getElem?_toList] at e
    exact e

theorem namesZ_makes (k : Int) : (k ≠ 5 → k ≠ 22 → k ≠ 26 → namesZ k = (makesZ k : Int)) ∧ (k = 26 → namesZ k = 3 ∧ makesZ k = 2) ∧ (k = 22 → namesZ k = 1 ∧ makesZ k = 0) ∧ (k = 5 → namesZ k = 1 ∧ makesZ k = 0) := by
  rcases kinds k with rfl | rfl | rfl | rfl | rfl | rfl | rfl | rfl | rfl | rfl | rfl | rfl | rfl | rfl | rfl | rfl | rfl | rfl | rfl | rfl | rfl | rfl | rfl | rfl | rfl | rfl | h
  all_goals try decide
  have e : namesZ k = 0 := tab_other h
  have e2 : makesZ k = 0 := by
    unfold makesZ
    rw [if_neg (by omega), if_neg (by omega)]
  exact ⟨fun _ _ _ => by rw [e, e2]; rfl, fun _ => by omega, fun _ => by omega, fun _ => by omega⟩

theorem l2Dec_nat (m : Nat) (hm : m ≤ 1000000) (w : World) : Calls Tryz.prog 52 #[.int .i64 (m : Int)] w fun e w' => e = .returned (.string ⟨(Lib.itoa (m : Int)).toArray⟩) ∧ Below w.heap.size w w' := by
  cases m with
  | zero =>
    refine (l2Dec_zero w).mono ?_
    rintro e w' ⟨rfl, rfl⟩
    refine ⟨?_, Below.refl _ _⟩
    rw [show Lib.itoa ((0 : Nat) : Int) = [48] from itoa_zero]
  | succ u =>
    have e : Lib.itoa ((u + 1 : Nat) : Int) = Lib.decDigits (u + 1) := by
      unfold Lib.itoa
      rw [if_neg (by omega), Int.toNat_natCast]
    rw [e]
    exact l2Dec_pos (u + 1) w (by omega) (by omega)

/-- The plainer's third cell is set. -/
theorem pls_made {W0 : World} {Pb : Nat} {tv : Value} {s : Wst} {vo : Value} {W : World} (h : Pls W0 Pb tv s vo W) (m : Nat) : Pls W0 Pb tv { s with made := m } vo (W.setCell ⟨Pb, 2, none⟩ (.int .i64 (m : Int))) ∧ Pfr Pb vo W (W.setCell ⟨Pb, 2, none⟩ (.int .i64 (m : Int))) := by
  have e : ∀ q, q ≠ Pb → (W.setCell ⟨Pb, 2, none⟩ (.int .i64 (m : Int))).heap[q]? = W.heap[q]? := fun q hq => Below.heap_setCell W ⟨Pb, 2, none⟩ _ q hq
  have hs : (W.setCell ⟨Pb, 2, none⟩ (.int .i64 (m : Int))).heap.size = W.heap.size := by simp [World.setCell]
  have ap := h.apart h.blk (by decide)
  refine ⟨⟨?_, own_same h.row (fun g eg => e g (fun e2 => by subst e2; exact ap eg)), h.os, h.tape, h.output, by rw [hs]; exact h.size, fun q hq hn => (e q hn).trans (h.kept q hq hn), h.nb⟩, ⟨rfl, rfl, rfl, by rw [hs]; exact Nat.le_refl _, fun q _ hn _ _ => e q hn⟩⟩
  have hb := h.blk
  simp [World.setCell, Array.getElem?_modify, hb]

set_option maxHeartbeats 1000000 in
set_option maxRecDepth 100000 in
theorem fresh_spec {W0 : World} {Pb : Nat} {tv : Value} {s : Wst} {vo : Value} (W : World) (n : Pls W0 Pb tv s vo W) (hm : s.made ≤ 100000) :
    Calls Tryz.prog 35 #[.pointer (some ⟨Pb, 0, none⟩)] W fun e W' => e = .returned (.string (freshZ s.made)) ∧ Pls W0 Pb tv { s with made := s.made + 1 } vo W' ∧ Pfr Pb vo W W' := by
  obtain ⟨sp, sf, m⟩ := s
  dsimp only at *
  have c2 := cell_of_heap n.blk 2
  have z2 := frozen_of_heap n.blk 2
  simp at c2
  have hw1 : wrap64 ((m : Int) + 1) = (m : Int) + 1 := by unfold wrap64; omega
  have hw2 : wrap64 ((m : Int) + 1 - 1) = (m : Int) := by unfold wrap64; omega
  obtain ⟨n1, f1⟩ := pls_made n (m + 1)
  have hcast : ((m + 1 : Nat) : Int) = (m : Int) + 1 := by omega
  dsimp only at n1 f1
  rw [hcast] at n1 f1
  have HN := hid n1
  have HF := hid f1
  have HI := hid (fun X => l2Dec_nat m (by omega) X)
  have d2 := cell_of_heap n1.blk 2
  simp at d2
  clear n n1 f1 hcast
  go_enter Tryz.func35, Tryz.ntmps35
  go_wp2_with fail
  refine (HI.out _).mono ?_
  rintro e W2 ⟨rfl, hb2⟩
  have HN2 := hid (HN.out.below hb2)
  have HF2 := hid (HF.out.trans (Or.inl rfl) (Nfr.of_below hb2))
  have hva := hid (v_append (Lib.itoa (m : Int)))
  have hds : (⟨(Lib.itoa (m : Int)).toArray⟩ : ByteArray).size ≤ 21 := by
    have := Lib.itoa_length_le (m : Int) (by omega) (by omega)
    simp [ByteArray.size]
    omega
  generalize (⟨(Lib.itoa (m : Int)).toArray⟩ : ByteArray) = D at *
  clear HI HN HF c2 d2 hb2
  go_wp2_with fail
  go_ret
  refine ⟨?_, HN2.out, HF2.out⟩
  have e := hva.out
  unfold freshZ
  rw [← e]
  rfl

theorem from_get (sc : Sco) (m : Nat) (h : m < sc.length) : (fromZ sc).getD m ⟨#[]⟩ = (sc[sc.length - 1 - m]'(by omega)).1 ∧ (toZ sc).getD m ⟨#[]⟩ = (sc[sc.length - 1 - m]'(by omega)).2 := by
  unfold fromZ toZ
  constructor
  · rw [List.getD, List.getElem?_reverse (by simpa using h)]
    simp [show sc.length - 1 - m < sc.length by omega]
  · rw [List.getD, List.getElem?_reverse (by simpa using h)]
    simp [show sc.length - 1 - m < sc.length by omega]

set_option maxHeartbeats 1000000 in
set_option maxRecDepth 100000 in
theorem now_calls {fv tv : Value} {sc : Sco} (s : ByteArray) (w : World) (hf : NamesV w fv (fromZ sc)) (ht : NamesV w tv (toZ sc)) (hl : sc.length ≤ 1000000) :
    Calls Tryz.prog 34 #[fv, tv, .string s] w fun e w' => e = .returned (.string ((findS sc s).getD s)) ∧ w = w' := by
  obtain ⟨ad, c, rfl⟩ := hf.slice
  obtain ⟨ad', c', rfl⟩ := ht.slice
  rw [from_len] at hf ⊢
  rw [to_len] at ht ⊢
  obtain ⟨R, hR⟩ : ∃ R, findS sc s = R := ⟨_, rfl⟩
  rw [hR]
  obtain ⟨L, hL⟩ : ∃ L, sc.length = L := ⟨_, rfl⟩
  rw [hL] at hf ht hl ⊢
  have HR := hid hR
  have HF := hid hf
  have HT := hid ht
  have HL := hid (And.intro hL hl)
  have HW0 : Hid (wrap64 ((L : Int) - 1) = (L : Int) - 1) := by show _ = _; unfold wrap64; omega
  clear hR hf ht hL hl
  go_enter Tryz.func34, Tryz.ntmps34
  go_wp2_with fail
  rw [HW0.out]
  go_loop [7] (fun i => ∃ (z : Int) (m : Nat), i = .int .i64 z ∧ Hid (z = (m : Int) - 1 ∧ m ≤ L ∧ findS (sc.drop (L - m)) s = R)) (fun i => (intOf i + 1).toNat)
  case atStart => exact ⟨_, L, rfl, rfl, Nat.le_refl _, by rw [Nat.sub_self]; exact HR.out⟩
  case round =>
    obtain ⟨z, m, rfl, HZ⟩ := hrel
    cases m with
    | zero =>
      have hz : z = -1 := by have := HZ.out.1; omega
      have hr : R = none := by
        have := HZ.out.2.2
        rw [List.drop_eq_nil_of_le (by have := HL.out.1; omega)] at this
        exact this.symm
      subst hz
      subst hr
      clear HZ HR
      go_wp2_with fail
      go_ret
      exact ⟨rfl, rfl⟩
    | succ m =>
      have hz : z = (m : Int) := by have := HZ.out.1; omega
      subst hz
      have hmL : m < L := by have := HZ.out.2.1; omega
      have hLs := HL.out.1
      obtain ⟨-, g, o, rfl, hg, hc⟩ := HF.out.cell (by omega)
      obtain ⟨-, g', o', rfl, hg', hc'⟩ := HT.out.cell (by omega)
      have c0 := hc m hmL
      have d0 := hc' m hmL
      obtain ⟨e1, e2⟩ := from_get sc m (by omega)
      rw [e1] at c0
      rw [e2] at d0
      have hd : sc.drop (L - (m + 1)) = sc[sc.length - 1 - m]'(by omega) :: sc.drop (L - m) := by
        rw [List.drop_eq_getElem_cons (by omega), show L - (m + 1) + 1 = L - m by omega]
        congr 2
        omega
      have hfd := HZ.out.2.2
      rw [hd] at hfd
      obtain ⟨pr, hpr⟩ : ∃ pr, sc[sc.length - 1 - m]'(by omega) = pr := ⟨_, rfl⟩
      rw [hpr] at c0 d0 hfd
      obtain ⟨x, y⟩ := pr
      dsimp only at c0 d0
      have HFd := hid hfd
      clear e1 e2 hd hfd hpr hc hc' HZ HR
      have hi0 : (0 : Int) ≤ (m : Int) := by omega
      have hiL : (m : Int) < (L : Int) := by omega
      have hge : ((m : Int) ≥ 0) := hi0
      cases he : (x.toList == s.toList) with
      | true =>
        have hxs : x = s := by rw [str_eq, decide_eq_true_eq] at he; exact he
        have hr : R = some y := by
          have := HFd.out
          unfold findS at this
          rw [if_pos hxs] at this
          exact this.symm
        subst hr
        clear hxs HFd
        go_wp2_with fail
        go_ret
        exact ⟨rfl, rfl⟩
      | false =>
        have hxs : x ≠ s := by rw [str_eq, decide_eq_false_iff_not] at he; exact he
        have HN : Hid (findS (sc.drop (L - m)) s = R) := by
          have := HFd.out
          unfold findS at this
          rw [if_neg hxs] at this
          exact this
        have HW : Hid (wrap64 ((m : Int) - 1) = (m : Int) - 1) := by show _ = _; have := HL.out.2; unfold wrap64; omega
        clear hxs HFd hLs
        go_wp2_with fail
        rw [HW.out]
        refine ⟨⟨(m : Int) - 1, m, rfl, rfl, by omega, HN.out⟩, ?_⟩
        simp [intOf]
end Go.Proofs.YtlhdicichdihfaaGreatDoor

/- Two rows of names side by side; the plainer's row of nodes grows. -/
namespace Go.Proofs.YtlhdicichdihfaaGreatDoor
open Go.RowKit Go.Deep

/-- Two rows of names of one's own, in two blocks. -/
structure Two (B : Nat) (X : World) (v : Value) (ss : List ByteArray) (u : Value) (ys : List ByteArray) : Prop where
  one : X.ownsRow B 9 1 v ss.length (strRow ss)
  two : X.ownsRow B 9 1 u ys.length (strRow ys)
  ap : ∀ q, v.ownBlock = some q → u.ownBlock ≠ some q

theorem Two.symm {B : Nat} {X : World} {v u : Value} {ss ys : List ByteArray} (h : Two B X v ss u ys) : Two B X u ys v ss := ⟨h.two, h.one, fun q e e' => h.ap q e' e⟩

theorem own_empty {B : Nat} (X : World) (h : B ≤ X.heap.size) : (X.alloc (.cells #[] 9)).ownsRow B 9 1 (.slice (some ⟨X.heap.size, 0, none⟩) 0 0) ([] : List ByteArray).length (strRow []) := World.ownsRow_made X #[] 0 h (Nat.zero_le _) rfl

theorem two_new {B : Nat} {X : World} {v : Value} {ss : List ByteArray} (h : X.ownsRow B 9 1 v ss.length (strRow ss)) (hB : B ≤ X.heap.size) : Two B (X.alloc (.cells #[] 9)) v ss (.slice (some ⟨X.heap.size, 0, none⟩) 0 0) [] :=
  ⟨h.alloc _, own_empty X hB, fun q e e' => by
    have := (h.lt q e).2
    simp [Value.ownBlock] at e'
    omega⟩

theorem Two.app {B : Nat} {X : World} {v u : Value} {ss ys : List ByteArray} (h : Two B X v ss u ys) (ty : TypeId) {xv : Value} {zs : List ByteArray} (hx : NamesV X xv zs) (hm : ss.length + zs.length ≤ 200000) (hB : B ≤ X.heap.size) :
    ∃ v' X', (Builtin.append_ #[30, 30] ty #[v, xv]).run Tryz.prog X = .ok v' X' ∧ Two B X' v' (ss ++ zs) u ys ∧ (∀ w0, Below B w0 X → Below B w0 X') := by
  obtain ⟨v', X', hr, ho, hg, hat⟩ := app_names ty h.one hx hm hB
  refine ⟨v', X', hr, ⟨ho, ?_, fun q e e' => ?_⟩, fun w0 hb => Below.grown hb hg hB (fun j hj => (h.one.lt j hj).1)⟩
  · exact own_same h.two (fun g e => hg.block g (h.two.lt g e).2 (fun e2 => h.ap g e2.symm e))
  · rcases hat with h1 | h1
    · exact h.ap q (h1 ▸ e) e'
    · rw [h1] at e
      cases e
      have := (h.two.lt _ e').2
      omega

theorem own_app {B : Nat} {X : World} {v : Value} {ss : List ByteArray} (h : X.ownsRow B 9 1 v ss.length (strRow ss)) (ty : TypeId) {xv : Value} {zs : List ByteArray} (hx : NamesV X xv zs) (hm : ss.length + zs.length ≤ 200000) (hB : B ≤ X.heap.size) :
    ∃ v' X', (Builtin.append_ #[30, 30] ty #[v, xv]).run Tryz.prog X = .ok v' X' ∧ X'.ownsRow B 9 1 v' (ss ++ zs).length (strRow (ss ++ zs)) ∧ (∀ w0, Below B w0 X → Below B w0 X') := by
  obtain ⟨v', X', hr, ho, hg, -⟩ := app_names ty h hx hm hB
  exact ⟨v', X', hr, ho, fun w0 hb => Below.grown hb hg hB (fun j hj => (h.lt j hj).1)⟩

/-- A block that is neither the plainer's nor its row's. -/
theorem free_newP {W0 : World} {Pb : Nat} {tv : Value} {s : Wst} {vo : Value} {X Y : World} (st : Pls W0 Pb tv s vo X) {q : Nat} (h1 : X.heap.size ≤ q) (h2 : q < Y.heap.size) : Free Pb q vo (.slice none 0 0) Y :=
  ⟨h2, by have := st.nb; have := st.size; omega, fun e => by obtain ⟨-, c, hc⟩ := own_type st.row e; have := heap_lt hc; omega, by simp [Value.ownBlock]⟩

/-- The row of nodes grew, and the plainer was told so. -/
theorem pls_plain {W0 : World} {Pb : Nat} {tv : Value} {s : Wst} {vo vo' : Value} {W W' : World} {m : Nd} (h : Pls W0 Pb tv s vo W) (ho : W'.ownsRow W0.heap.size 42 6 vo' (s.plain.length + 1) (ndRow s.plain ++ [.int .i64 m.kind, .int .i64 m.num, .string m.a, .string m.b, .string m.c, .int .i64 m.kids])) (hg : W.grownBy W' vo.ownBlock) (hat : vo'.ownBlock = vo.ownBlock ∨ vo'.ownBlock = some W.heap.size) :
    Pls W0 Pb tv { s with plain := s.plain ++ [m] } vo' (W'.setCell ⟨Pb, 1, none⟩ vo') ∧ Pfr Pb vo W (W'.setCell ⟨Pb, 1, none⟩ vo') ∧ Movd W vo vo' := by
  have e : ∀ q, q ≠ Pb → (W'.setCell ⟨Pb, 1, none⟩ vo').heap[q]? = W'.heap[q]? := fun q hq => Below.heap_setCell W' ⟨Pb, 1, none⟩ _ q hq
  have hs : (W'.setCell ⟨Pb, 1, none⟩ vo').heap.size = W'.heap.size := by simp [World.setCell]
  have ap := h.apart h.blk (by decide)
  have hlt := heap_lt h.blk
  have hb' : W'.heap[Pb]? = some (.cells #[tv, vo, .int .i64 (s.made : Int)] 40) := (hg.block Pb hlt (fun e => ap e.symm)).trans h.blk
  have hne : ∀ q, vo'.ownBlock = some q → q ≠ Pb := fun q eq e2 => by
    subst e2
    obtain ⟨-, cur, hc⟩ := own_type ho eq
    rw [hb'] at hc
    cases hc
  have hnb := h.nb
  have hsz := h.size
  refine ⟨⟨by simp [World.setCell, Array.getElem?_modify, hb'], ?_, hg.os.trans h.os, hg.tape.trans h.tape, hg.output.trans h.output, by rw [hs]; exact Nat.le_trans h.size hg.size, fun q hq hn => ?_, h.nb⟩, ⟨hg.os, hg.tape, hg.output, by rw [hs]; exact hg.size, fun q hq hn hv _ => (e q hn).trans (hg.block q hq (fun e2 => hv e2.symm))⟩, ?_⟩
  · have e3 : ndRow (s.plain ++ [m]) = ndRow s.plain ++ [.int .i64 m.kind, .int .i64 m.num, .string m.a, .string m.b, .string m.c, .int .i64 m.kids] := ndRow_snoc _ _
    dsimp only
    rw [e3, List.length_append]
    exact own_same ho (fun g eg => e g (hne g eg))
  · refine (e q hn).trans ((hg.block q (by omega) (fun e2 => ?_)).trans (h.kept q hq hn))
    have := (own_type h.row e2.symm).1
    omega
  · rcases hat with h1 | h1
    · exact Or.inl h1
    · exact Or.inr ⟨_, h1, Nat.le_refl _⟩

theorem Pls.grown {W0 : World} {Pb : Nat} {tv : Value} {s : Wst} {vo : Value} {X X' : World} {row : Option Nat} (h : Pls W0 Pb tv s vo X) (hg : X.grownBy X' row) (hr : ∀ q, row = some q → W0.heap.size ≤ q ∧ vo.ownBlock ≠ some q) : Pls W0 Pb tv s vo X' := by
  have hnb := h.nb
  have hsz := h.size
  have hne : ∀ q, q < W0.heap.size → some q ≠ row := fun q hq e => by have := (hr q e.symm).1; omega
  exact ⟨(hg.block Pb (by omega) (hne Pb hnb)).trans h.blk, own_same h.row (fun g e => hg.block g (h.row.lt g e).2 (fun e2 => (hr g e2.symm).2 e)), hg.os.trans h.os, hg.tape.trans h.tape, hg.output.trans h.output, Nat.le_trans hsz hg.size, fun q hq hn => (hg.block q (by omega) (hne q hq)).trans (h.kept q hq hn), hnb⟩

theorem Pls.free {W0 : World} {Pb : Nat} {tv : Value} {s s' : Wst} {vo : Value} {W : World} (h : Pls W0 Pb tv s vo W) (h1 : s'.plain = s.plain) (h2 : s'.made = s.made) : Pls W0 Pb tv s' vo W :=
  ⟨by rw [h2]; exact h.blk, by rw [h1]; exact h.row, h.os, h.tape, h.output, h.size, h.kept, h.nb⟩

/-- Where the making of names stands: what is not the names. -/
structure Mkg (W0 : World) (Pb : Nat) (tv : Value) (s : Wst) (vo : Value) (W W3 : World) (ab d : Nat) (X : World) : Prop where
  st : Pls W0 Pb tv { s with made := s.made + d } vo X
  fr : Pfr Pb vo W X
  size : W3.heap.size ≤ X.heap.size
  blk : ∀ q, W.heap.size ≤ q → q < W3.heap.size → q ≠ ab → X.heap[q]? = W3.heap[q]?
  vlt : ∀ q, vo.ownBlock = some q → q < W.heap.size
  w0 : W0.heap.size ≤ W.heap.size
  ablt : W.heap.size ≤ ab ∧ ab < W3.heap.size

theorem Mkg.grown {W0 : World} {Pb : Nat} {tv : Value} {s : Wst} {vo : Value} {W W3 : World} {ab d : Nat} {X X' : World} {row : Option Nat} (h : Mkg W0 Pb tv s vo W W3 ab d X) (hg : X.grownBy X' row) (hr : ∀ q, row = some q → q = ab ∨ W3.heap.size ≤ q) : Mkg W0 Pb tv s vo W W3 ab d X' := by
  have h1 := h.w0
  have h2 := h.ablt
  have h3 := h.size
  have hlo : ∀ q, row = some q → W.heap.size ≤ q := fun q e => by
    rcases hr q e with rfl | h
    · omega
    · omega
  refine ⟨h.st.grown hg (fun q e => ⟨by have := hlo q e; omega, fun e2 => by have := h.vlt q e2; have := hlo q e; omega⟩), ⟨hg.os.trans h.fr.os, hg.tape.trans h.fr.tape, hg.output.trans h.fr.output, Nat.le_trans h.fr.size hg.size, fun q hq h4 h5 h6 => (hg.block q (Nat.lt_of_lt_of_le hq h.fr.size) (fun e => by have := hlo q e.symm; omega)).trans (h.fr.block q hq h4 h5 h6)⟩, Nat.le_trans h.size hg.size, fun q hq hq' hne => (hg.block q (by omega) (fun e => by rcases hr q e.symm with h | h; exact hne h; omega)).trans (h.blk q hq hq' hne), h.vlt, h.w0, h.ablt⟩

theorem Mkg.apart {W0 : World} {Pb : Nat} {tv : Value} {s : Wst} {vo : Value} {W W3 : World} {ab d : Nat} {X : World} (h : Mkg W0 Pb tv s vo W W3 ab d X) {q : Nat} (hq : W.heap.size ≤ q) : q ≠ Pb ∧ vo.ownBlock ≠ some q := by
  have h1 := h.w0
  have h2 := h.st.nb
  exact ⟨by omega, fun e => by have := h.vlt q e; omega⟩

theorem Mkg.fresh {W0 : World} {Pb : Nat} {tv : Value} {s : Wst} {vo : Value} {W W3 : World} {ab d : Nat} {X X' : World} (h : Mkg W0 Pb tv s vo W W3 ab d X) (st : Pls W0 Pb tv { s with made := s.made + d + 1 } vo X') (f : Pfr Pb vo X X') : Mkg W0 Pb tv s vo W W3 ab (d + 1) X' :=
  ⟨st, h.fr.trans (Or.inl rfl) f, Nat.le_trans h.size f.size, fun q hq hq' hne => (f.block q (Nat.lt_of_lt_of_le hq' h.size) (h.apart hq).1 (h.apart hq).2 (by simp [Value.ownBlock])).trans (h.blk q hq hq' hne), h.vlt, h.w0, h.ablt⟩

/-- The last cell of a row of names. -/
theorem own_last {X : World} {B n : Nat} {v : Value} {xs : List Value} (h : X.ownsRow B 9 1 v (n + 1) xs) : ∃ g cp, v = .slice (some ⟨g, 0, none⟩) (n + 1) cp ∧ X.cell? ⟨g, n, none⟩ = xs[n]? ∧ B ≤ g ∧ g < X.heap.size := by
  have h' := h
  obtain ⟨-, ⟨_, h0⟩ | ⟨g, cap, cur, rfl, hB, hc, -⟩⟩ := h
  · omega
  · exact ⟨g, cap, rfl, h'.cellAt n (by omega), hB, heap_lt hc⟩
end Go.Proofs.YtlhdicichdihfaaGreatDoor

/- A slice's first names. -/
namespace Go.Proofs.YtlhdicichdihfaaGreatDoor
open Go.RowKit Go.Deep

theorem take_slice {W : World} {nad : Option Addr} {L ncp l : Nat} {ss : List ByteArray} (h : NamesT W (.slice nad L ncp) ss) (hl : l ≤ ss.length) :
    ∃ v', (∀ (a : Act) (o : Oper) (x y : Operand), o.op = .slice 30 x none (some y) none → a.eval x = .slice nad L ncp → a.eval y = .int .i64 (l : Int) → ∀ X, (execOp a.eval o).run Tryz.prog X = .ok (.value v') X) ∧ ∀ X, Below W.heap.size W X → NamesV X v' (ss.take l) := by
  rcases h with ⟨e, rfl⟩ | ⟨g, c, cur, e, hlc, hg, hc⟩
  · cases e
    have h0 : l = 0 := by simpa using hl
    subst h0
    refine ⟨.slice none 0 0, fun a o x y ho hx hy X => ?_, fun X _ => Or.inl ⟨rfl, rfl⟩⟩
    unfold execOp
    simp only [ho, Option.map_none, Option.map_some, hx, hy]
    simp [go_sem, Tryz.underlying30]
  · cases e
    refine ⟨.slice (some ⟨g, 0, none⟩) l ncp, fun a o x y ho hx hy X => ?_, fun X hX => Or.inr ⟨g, 0, ncp, ?_, Nat.lt_of_lt_of_le (heap_lt hg) hX.size, fun j hj => ?_⟩⟩
    · unfold execOp
      simp only [ho, Option.map_none, Option.map_some, hx, hy]
      simp [go_sem, Tryz.underlying30]
      omega
    · rw [List.length_take, Nat.min_eq_left hl]
    · rw [List.length_take, Nat.min_eq_left hl] at hj
      rw [Nat.zero_add, hX.cell (p := ⟨g, j, none⟩) (heap_lt hg), cell_of_heap hg j, hc j (by omega)]
      congr 2
      simp [List.getD, List.getElem?_take_of_lt hj]
end Go.Proofs.YtlhdicichdihfaaGreatDoor

/- A mark: a number as a text. -/
namespace Go.Proofs.YtlhdicichdihfaaGreatDoor
open Go.RowKit

def dig (j : Nat) : ByteArray := ⟨#[UInt8.ofNat (48 + j % 10)]⟩

theorem dig_run (j : Nat) (w : World) : (convert 71 9 (.slice (some ⟨w.heap.size, 0, none⟩) 1 1)).run Tryz.prog (w.alloc (.cells #[.int .u8 (48 + (j : Int) % 10)] 5)) = .ok (.string (dig j)) (w.alloc (.cells #[.int .u8 (48 + (j : Int) % 10)] 5)) := by
  have h := run_convert_bytes_back (P := Tryz.prog) (w.alloc (.cells #[.int .u8 (48 + (j : Int) % 10)] 5)) 71 9 5 ⟨w.heap.size, 0, none⟩ 1 [UInt8.ofNat (48 + j % 10)] Tryz.underlying71 Tryz.underlying5 Tryz.underlying9 (fun i hi => by
    have h0 : i = 0 := by simpa using hi
    subst h0
    simp [Addr.add]
    omega)
  exact h

/-- The digits of a mark, put ahead one by one. -/
def markGo : Nat → Nat → ByteArray → ByteArray
  | 0, _, out => out
  | f + 1, j, out => if j = 0 then out else markGo f (j / 10) (dig j ++ out)

def markOf (k : Nat) : ByteArray := if k = 0 then ⟨#[109, 48]⟩ else ⟨#[109]⟩ ++ markGo k k ⟨#[]⟩

set_option maxHeartbeats 1000000 in
set_option maxRecDepth 100000 in
theorem mark_calls (k : Nat) (HK : Hid (k ≤ 10000000)) (w : World) :
    Calls Tryz.prog 25 #[.int .i64 k] w fun e w' => e = .returned (.string (markOf k)) ∧ Below w.heap.size w w' := by
  by_cases h0 : k = 0
  · subst h0
    go_enter Tryz.func25, Tryz.ntmps25
    go_wp2_with fail
    go_ret
    exact ⟨rfl, Below.refl _ _⟩
  obtain ⟨R, hR⟩ : ∃ R, markGo k k ⟨#[]⟩ = R := ⟨_, rfl⟩
  have e : markOf k = ⟨#[109]⟩ ++ R := by rw [markOf, if_neg h0, hR]
  rw [e]
  have HR : Hid (markGo k k ⟨#[]⟩ = R) := hR
  clear hR e
  go_enter Tryz.func25, Tryz.ntmps25
  go_wp2_with fail
  go_loopw [0, 3] (fun a o wr => ∃ (j f : Nat) (out : ByteArray), a = .int .i64 j ∧ o = .string out ∧ (j : Int) ≤ 10000000 ∧ out.size ≤ 8 ∧ Hid (j ≤ f ∧ ∃ d, out.size + d ≤ 8 ∧ j < 10 ^ d) ∧ Hid (markGo f j out = R) ∧ Below w.heap.size w wr) (fun a _ _ => (intOf a).toNat)
  case atStart => exact ⟨k, k, _, rfl, rfl, by have := HK.out; omega, Nat.zero_le _, ⟨Nat.le_refl _, 8, Nat.le_refl _, by have := HK.out; omega⟩, HR, Below.refl _ _⟩
  case round =>
    obtain ⟨j, f, out, rfl, rfl, hj9, hos, HFo, HE, hnx⟩ := hrel
    clear HR
    by_cases hj0 : j = 0
    · subst hj0
      have hE : out = R := by
        have := HE.out
        cases f with
        | zero => exact this
        | succ f => simpa [markGo] using this
      subst hE
      clear HE
      go_wp2_with fail
      go_ret
      exact ⟨rfl, hnx⟩
    · obtain ⟨f, rfl⟩ : ∃ f', f = f' + 1 := ⟨f - 1, by have := HFo.out.1; omega⟩
      have HFn : Hid (j / 10 ≤ f ∧ ∃ d, out.size + 1 + d ≤ 8 ∧ j / 10 < 10 ^ d) := by
        obtain ⟨h1, d, h2, h3⟩ := HFo.out
        cases d with
        | zero => exfalso; simp at h3; omega
        | succ d => exact ⟨by omega, d, by omega, by rw [Nat.pow_succ] at h3; omega⟩
      have hos2 : out.size ≤ 7 := by obtain ⟨-, d, h, -⟩ := HFn.out; omega
      have hE := HE.out
      rw [markGo, if_neg hj0] at hE
      have HE' : Hid (markGo f (j / 10) (dig j ++ out) = R) := hE
      have hcv := dig_run j wr
      have hdz : (dig j).size = 1 := rfl
      clear HE hE
      generalize dig j = dj at *
      go_wp2_with fail
      refine ⟨⟨j / 10, f, dj ++ out, by simp, rfl, by omega, ?_, ⟨HFn.out.1, ?_⟩, HE', hnx.alloc hnx.size _⟩, by simp [intOf]; omega⟩
      · rw [ByteArray.size_append, hdz]
        omega
      · obtain ⟨-, d, h1, h2⟩ := HFn.out
        exact ⟨d, by rw [ByteArray.size_append, hdz]; omega, h2⟩

theorem mark_callsZ (x : Int) (HX : Hid (0 ≤ x ∧ x ≤ 10000000)) (w : World) :
    Calls Tryz.prog 25 #[.int .i64 x] w fun e w' => e = .returned (.string (markOf x.toNat)) ∧ Below w.heap.size w w' := by
  obtain ⟨n, rfl⟩ := Int.eq_ofNat_of_zero_le HX.out.1
  rw [Int.toNat_natCast]
  exact mark_calls n (by have := HX.out.2; show _ ≤ _; omega) w
end Go.Proofs.YtlhdicichdihfaaGreatDoor

/- Lists of texts in memory: two that hold the same compare as alike; marks that are put into one are held by it. -/
namespace Go.Proofs.YtlhdicichdihfaaGreatDoor
open Go.RowKit

def strF (ss : List ByteArray) (i : Nat) : Value := .string (ss.getD i ⟨#[]⟩)

/-- The marks, told by the place. -/
def strMarks (i : Nat) : Value := .string (markOf (1 + i))

theorem wrap_inc {k n : Nat} (hk : k < n) (hm : n ≤ 1048576) : wrap64 ((k : Int) + 1) = ((k + 1 : Nat) : Int) := by
  unfold wrap64
  omega

theorem wrap_inc1 {x : Int} {k n : Nat} (hx : x = 1 + (k : Int)) (hk : k < n) (hm : n ≤ 1048576) : wrap64 (x + 1) = x + 1 := by
  unfold wrap64
  omega

/-- A slice that holds these texts. -/
def StrSlice (w : World) (v : Value) (ss : List ByteArray) : Prop :=
  ∃ ad cap, v = .slice ad ss.length cap ∧ (ss.length = 0 ∨ ∃ g o, ad = some ⟨g, o, none⟩ ∧ g < w.heap.size ∧ ∀ k, k < ss.length → w.cell? ⟨g, o + k, none⟩ = some (strF ss k))

theorem StrSlice.below {w w' : World} {v : Value} {ss : List ByteArray} (h : StrSlice w v ss) (hb : Below w.heap.size w w') : StrSlice w' v ss := by
  obtain ⟨ad, cap, rfl, h⟩ := h
  refine ⟨ad, cap, rfl, h.imp id ?_⟩
  rintro ⟨g, o, rfl, hg, hc⟩
  exact ⟨g, o, rfl, Nat.lt_of_lt_of_le hg hb.size, fun k hk => (hb.cell (p := ⟨g, o + k, none⟩) hg).trans (hc k hk)⟩

theorem SliceR.strSlice {B : Nat} {w : World} {v : Value} {ss : List ByteArray} (h : SliceR 9 1 B w v ss.length (strF ss)) : StrSlice w v ss := by
  obtain ⟨ad, cap, rfl, h⟩ := h
  refine ⟨ad, cap, rfl, h.imp id ?_⟩
  rintro ⟨g, rfl, hB, hr⟩
  exact ⟨g, 0, rfl, hr.lt, fun k hk => by rw [Nat.zero_add]; exact hr.cell (by omega)⟩

set_option maxRecDepth 100000 in
theorem eqStringS_none (ad ad' : Option Addr) (cap cap' : Nat) (w : World) :
    Calls Tryz.prog 14 #[.slice ad 0 cap, .slice ad' 0 cap'] w fun e w' => e = .returned (.bool true) ∧ Below w.heap.size w w' := by
  go_enter Tryz.func14, Tryz.ntmps14
  go_wp2
  refine wp_loop_rounds 1 ?_
  rw [rounds_succ]
  go_wp2
  go_ret
  exact ⟨rfl, Below.refl _ _⟩

set_option maxHeartbeats 1000000 in
set_option maxRecDepth 100000 in
theorem eqStringS_rows (b off b' off' len cap cap' : Nat) (bs : List ByteArray) (w : World) (hn : ∀ k, k < len → w.cell? ⟨b, off + k, none⟩ = some (strF bs k)) (hn' : ∀ k, k < len → w.cell? ⟨b', off' + k, none⟩ = some (strF bs k)) (hm : len ≤ 1048576) :
    Calls Tryz.prog 14 #[.slice (some ⟨b, off, none⟩) len cap, .slice (some ⟨b', off', none⟩) len cap'] w fun e w' => e = .returned (.bool true) ∧ Below w.heap.size w w' := by
  have HM : Hid (len ≤ 1048576) := hm
  have HN := hid (And.intro hn hn')
  clear hm hn hn'
  go_enter Tryz.func14, Tryz.ntmps14
  go_wp2_with fail
  go_loopw [5] (fun i wr => ∃ k : Nat, k ≤ len ∧ i = .int .i64 k ∧ Below w.heap.size w wr ∧ ∀ a, wr.cell? a = w.cell? a) (fun i _ => len - (intOf i).toNat)
  case atStart => exact ⟨0, Nat.zero_le _, rfl, Below.refl _ _, fun _ => rfl⟩
  case round =>
    obtain ⟨k, hk, rfl, hnx, hce⟩ := hrel
    by_cases hkl : (k : Int) < (len : Int)
    · have c0 := (hce _).trans (HN.out.1 k (by omega))
      have d0 := (hce _).trans (HN.out.2 k (by omega))
      unfold strF at c0 d0
      generalize bs.getD k ⟨#[]⟩ = n at c0 d0
      have hi0 : (0 : Int) ≤ (k : Int) := by omega
      have Hce : Hid (∀ a, wr.cell? a = w.cell? a) := hce
      clear hce
      go_wp2_with fail
      go_region
      all_goals
        go_wp2_with fail
        have hs : len - (intOf (.int .i64 ((k + 1 : Nat) : Int))).toNat < len - (intOf (.int .i64 (k : Int))).toNat := by simp only [intOf, Int.toNat_natCast]; omega
        try rw [wrap_inc (n := len) (by omega) HM.out]
        exact ⟨⟨k + 1, by omega, rfl, hnx.drew, Hce.out⟩, hs⟩
    · go_wp2_with fail
      go_ret
      exact ⟨rfl, hnx⟩

theorem eqStringS_any {v v' : Value} {bs : List ByteArray} (w : World) (hm : bs.length ≤ 1048576) (h : StrSlice w v bs) (h' : StrSlice w v' bs) :
    Calls Tryz.prog 14 #[v, v'] w fun e w' => e = .returned (.bool true) ∧ Below w.heap.size w w' := by
  obtain ⟨ad, cap, rfl, h⟩ := h
  obtain ⟨ad', cap', rfl, h'⟩ := h'
  by_cases h0 : bs.length = 0
  · rw [h0]
    exact eqStringS_none ad ad' cap cap' w
  · obtain ⟨g, o, rfl, hb, hr⟩ := h.resolve_left h0
    obtain ⟨g', o', rfl, hb', hr'⟩ := h'.resolve_left h0
    exact eqStringS_rows g o g' o' _ cap cap' bs w hr hr' hm

theorem row_more {k : Nat} {f f' F : Nat → Value} (hf : ∀ i, i < k → f i = F i) (ho : ∀ i, i < k → f' i = f i) (h0 : f' k = F k) : ∀ i, i < k + 1 → f' i = F i := by
  intro i hi
  by_cases h : i < k
  · rw [ho i h, hf i h]
  · rw [show i = k by omega]
    exact h0

set_option maxHeartbeats 1000000 in
set_option maxRecDepth 100000 in
theorem markStringS_rows (g n cap : Nat) (F : Nat → Value) (w : World) (hm : n ≤ 1048576) (hr : CellRow 9 w g n F) :
    Calls Tryz.prog 15 #[.slice (some ⟨g, 0, none⟩) n cap, .int .i64 1] w fun e w' => e = .returned (.int .i64 (1 + (n : Int))) ∧ CellRow 9 w' g n strMarks ∧ w.grownBy w' (some g) := by
  obtain ⟨N, f, hf, hN, _⟩ := hr
  have HM : Hid (n ≤ 1048576) := hm
  clear hm
  go_enter Tryz.func15, Tryz.ntmps15
  go_wp2_with fail
  go_loopw [1, 5] (fun m i wr => ∃ (k : Nat) (x : Int) (f : Nat → Value), k ≤ n ∧ i = .int .i64 k ∧ m = .int .i64 x ∧ Hid (x = 1 + (k : Int)) ∧ Rw wr g 9 N f n ∧ Hid (∀ j, j < k → f j = strMarks j) ∧ w.grownBy wr (some g)) (fun _ i _ => n - (intOf i).toNat)
  case atStart => exact ⟨0, 1, f, Nat.zero_le _, rfl, rfl, by show _ = _; simp, hf, fun j hj => by omega, kept_refl _ _⟩
  case round =>
    obtain ⟨k, x, f, hk, rfl, rfl, Hx, hrow, HF, hgr⟩ := hrel
    clear hf
    by_cases hkl : (k : Int) < (n : Int)
    · have HW : Hid _ := wrap_inc1 Hx.out (by omega) HM.out
      have HC := hid (fun X => mark_callsZ x (by show _ ∧ _; have := Hx.out; have := HM.out; omega) X)
      have hmk : markOf x.toNat = markOf (1 + k) := by rw [Hx.out]; congr 1
      rw [hmk] at HC
      have HB : Hid (strMarks k = .string (markOf (1 + k))) := rfl
      generalize markOf (1 + k) = mk at *
      clear hmk
      go_wp2_with fail
      refine (HC.out _).mono ?_
      rintro e W1 ⟨rfl, hb1⟩
      have hrow1 := hrow.of_block (hb1.block g hrow.lt)
      have hgr1 := kept_below hgr hb1
      have q0 := hrow1.cell (i := k) (by omega)
      have z0 := hrow1.frozen k (by omega)
      clear hrow hgr hb1 HC
      go_wp2_with fail
      rw [HW.out, wrap_inc (n := n) (by omega) HM.out]
      have hs : n - (intOf (.int .i64 ((k + 1 : Nat) : Int))).toNat < n - (intOf (.int .i64 (k : Int))).toNat := by simp only [intOf, Int.toNat_natCast]; omega
      have hx := Hx.out
      refine ⟨⟨k + 1, x + 1, _, by omega, rfl, rfl, by show _ = _; omega, hrow1.set k _, row_more HF.out (fun i hi => by rw [if_neg (by omega)]) ?_, kept_set hgr1 _ _⟩, hs⟩
      rw [if_pos rfl, HB.out]
    · have hkn : k = n := by omega
      subst hkn
      have HX : Hid (x = 1 + (k : Int)) := Hx
      clear Hx
      go_wp2_with fail
      go_ret
      exact ⟨by rw [← HX.out]; rfl, ⟨N, f, hrow, hN, HF.out⟩, hgr⟩

set_option maxHeartbeats 1000000 in
set_option maxRecDepth 100000 in
theorem heldStringS_rows (g n cap : Nat) (w : World) (hm : n ≤ 1048576) (hr : CellRow 9 w g n strMarks) :
    Calls Tryz.prog 16 #[.slice (some ⟨g, 0, none⟩) n cap, .int .i64 1] w fun e w' => e = .returned (.int .i64 (1 + (n : Int))) ∧ Below w.heap.size w w' := by
  have HM : Hid (n ≤ 1048576) := hm
  have HR := hid hr
  clear hm hr
  go_enter Tryz.func16, Tryz.ntmps16
  go_wp2_with fail
  go_loopw [1, 5] (fun m i wr => ∃ (k : Nat) (x : Int), k ≤ n ∧ i = .int .i64 k ∧ m = .int .i64 x ∧ Hid (x = 1 + (k : Int)) ∧ Below w.heap.size w wr) (fun _ i _ => n - (intOf i).toNat)
  case atStart => exact ⟨0, 1, Nat.zero_le _, rfl, rfl, by show _ = _; simp, Below.refl _ _⟩
  case round =>
    obtain ⟨k, x, hk, rfl, rfl, Hx, hnx⟩ := hrel
    by_cases hkl : (k : Int) < (n : Int)
    · have q0 := (hnx.cell (p := ⟨g, k, none⟩) HR.out.lt).trans (HR.out.cell (i := k) (by omega))
      have HW : Hid _ := wrap_inc1 Hx.out (by omega) HM.out
      have HC := hid (fun X => mark_callsZ x (by show _ ∧ _; have := Hx.out; have := HM.out; omega) X)
      have hmk : markOf x.toNat = markOf (1 + k) := by rw [Hx.out]; congr 1
      rw [hmk] at HC
      unfold strMarks at q0
      generalize markOf (1 + k) = mk at *
      have hi0 : (0 : Int) ≤ (k : Int) := by omega
      have hgr : g < wr.heap.size := Nat.lt_of_lt_of_le HR.out.lt hnx.size
      clear hmk
      go_wp2_with fail
      go_region_with (go_at_call 25; refine (HC.out _).mono ?_; rintro e w1 ⟨rfl, hb1⟩; have c1' := (hb1.cell (p := ⟨g, k, none⟩) hgr).trans q0)
      all_goals
        have hb2 := hnx.drew.trans (hb1.mono hnx.size)
        clear hb1 q0 HC
        go_wp2_with fail
        rw [HW.out, wrap_inc (n := n) (by omega) HM.out]
        have hs : n - (intOf (.int .i64 ((k + 1 : Nat) : Int))).toNat < n - (intOf (.int .i64 (k : Int))).toNat := by simp only [intOf, Int.toNat_natCast]; omega
        have hx := Hx.out
        exact ⟨⟨k + 1, x + 1, by omega, rfl, rfl, by show _ = _; omega, hb2⟩, hs⟩
    · have hkn : k = n := by omega
      subst hkn
      have HX : Hid (x = 1 + (k : Int)) := Hx
      clear Hx
      go_wp2_with fail
      go_ret
      exact ⟨by rw [← HX.out]; rfl, hnx⟩

set_option maxRecDepth 100000 in
theorem markStringS_none (ad : Option Addr) (cap : Nat) (w : World) :
    Calls Tryz.prog 15 #[.slice ad 0 cap, .int .i64 1] w fun e w' => e = .returned (.int .i64 1) ∧ w = w' := by
  go_enter Tryz.func15, Tryz.ntmps15
  go_wp2
  refine wp_loop_rounds 1 ?_
  rw [rounds_succ]
  go_wp2
  go_ret
  exact ⟨rfl, rfl⟩

set_option maxRecDepth 100000 in
theorem heldStringS_none (ad : Option Addr) (cap : Nat) (w : World) :
    Calls Tryz.prog 16 #[.slice ad 0 cap, .int .i64 1] w fun e w' => e = .returned (.int .i64 1) ∧ w = w' := by
  go_enter Tryz.func16, Tryz.ntmps16
  go_wp2
  refine wp_loop_rounds 1 ?_
  rw [rounds_succ]
  go_wp2
  go_ret
  exact ⟨rfl, rfl⟩

theorem markStringS_any {B n : Nat} {v : Value} {F : Nat → Value} (w : World) (hm : n ≤ 1048576) (h : SliceR 9 1 B w v n F) :
    Calls Tryz.prog 15 #[v, .int .i64 1] w fun e w' => e = .returned (.int .i64 (1 + (n : Int))) ∧ SliceR 9 1 B w' v n strMarks ∧ Turned w w' v n := by
  obtain ⟨ad, cap, rfl, h⟩ := h
  by_cases h0 : n = 0
  · subst h0
    refine (markStringS_none ad cap w).mono ?_
    rintro e w' ⟨rfl, rfl⟩
    exact ⟨by simp, ⟨ad, cap, rfl, Or.inl rfl⟩, none, kept_refl _ _, Or.inl rfl⟩
  · obtain ⟨g, rfl, hB, hr⟩ := h.resolve_left h0
    rw [Nat.mul_one] at hr
    refine (markStringS_rows g n cap F w hm hr).mono ?_
    rintro e w' ⟨rfl, hr', hg⟩
    exact ⟨rfl, ⟨_, cap, rfl, Or.inr ⟨g, rfl, hB, by rw [Nat.mul_one]; exact hr'⟩⟩, some g, hg, Or.inr ⟨h0, rfl⟩⟩

theorem heldStringS_any {B n : Nat} {v : Value} (w : World) (hm : n ≤ 1048576) (h : SliceR 9 1 B w v n strMarks) :
    Calls Tryz.prog 16 #[v, .int .i64 1] w fun e w' => e = .returned (.int .i64 (1 + (n : Int))) ∧ Below w.heap.size w w' := by
  obtain ⟨ad, cap, rfl, h⟩ := h
  by_cases h0 : n = 0
  · subst h0
    refine (heldStringS_none ad cap w).mono ?_
    rintro e w' ⟨rfl, rfl⟩
    exact ⟨by simp, Below.refl _ _⟩
  · obtain ⟨g, rfl, hB, hr⟩ := h.resolve_left h0
    rw [Nat.mul_one] at hr
    exact heldStringS_rows g n cap w hm hr
end Go.Proofs.YtlhdicichdihfaaGreatDoor

/- Lists of nodes in memory: a copy lies in a row of its own; marks that are put into one are held by it. -/
namespace Go.Proofs.YtlhdicichdihfaaGreatDoor
open Go.RowKit

/-- The cells of nodes, told by place. -/
def ndF (ns : List Nd) (i : Nat) : Value := (ns.getD (i / 6) default).cell (i % 6)

theorem ndF_at (ns : List Nd) (j c : Nat) (hc : c < 6) : ndF ns (j * 6 + c) = (ns.getD j default).cell c := by
  unfold ndF
  rw [show (j * 6 + c) / 6 = j by omega, show (j * 6 + c) % 6 = c by omega]

theorem CellRow.nodes {w : World} {g : Nat} {ns : List Nd} (h : CellRow 42 w g (ns.length * 6) (ndF ns)) : NodesAt w g 0 ns := by
  intro j hj c hc
  rw [Nat.zero_add, h.cell (by omega), ndF_at ns j c hc]

set_option maxRecDepth 100000 in
theorem toNodeS_rowsF (b off len cap : Nat) (ns : List Nd) (w : World) (hb : b < w.heap.size) (hn : NodesAt w b off ns) (hl : len ≤ ns.length) (hm : len ≤ 1048576) :
    Calls Tryz.prog 7 #[.slice (some ⟨b, off, none⟩) len cap] w fun e w' => e = .returned (.slice (some ⟨w.heap.size, 0, none⟩) len len) ∧ CellRow 42 w' w.heap.size (len * 6) (ndF ns) ∧ Below w.heap.size w w' := by
  obtain ⟨c, hcs, hmk⟩ := made_nodes len hm w
  have hrow := World.rowIs_alloc w c 42 (fun i => c.getD i undef) (fun i hi => by simp [hi])
  rw [hcs] at hrow
  go_enter Tryz.func7, Tryz.ntmps7
  go_wp2_with fail
  clear hmk
  go_loopw [4] (fun i wr => ∃ (k : Nat) (f : Nat → Value), k ≤ len ∧ i = .int .i64 k ∧ wr.rowIs w.heap.size 42 (len * 6) f ∧ (∀ j, j < k → ∀ c, c < 6 → f (j * 6 + c) = (ns.getD j default).cell c) ∧ Below w.heap.size w wr) (fun i _ => len - (intOf i).toNat)
  case atStart => exact ⟨0, _, Nat.zero_le _, rfl, hrow, fun j hj => by omega, (Below.refl _ _).alloc (Nat.le_refl _) _⟩
  case round =>
    obtain ⟨k, f, hk, rfl, hown, hf, hnx⟩ := hrel
    by_cases hkl : k < len
    · have hcell := fun c (hc : c < 6) => (hnx.cell (p := ⟨b, off + k * 6 + c, none⟩) hb).trans (hn k (by omega) c hc)
      obtain ⟨n, hnd⟩ : ∃ n, ns.getD k default = n := ⟨_, rfl⟩
      rw [hnd] at hcell
      have c0 := hcell 0 (by omega)
      have c1 := hcell 1 (by omega)
      have c2 := hcell 2 (by omega)
      have c3 := hcell 3 (by omega)
      have c4 := hcell 4 (by omega)
      have c5 := hcell 5 (by omega)
      simp only [Nd.cell, Nat.add_zero] at c0 c1 c2 c3 c4 c5
      have Hf : Hid (∀ j, j < k → ∀ c, c < 6 → f (j * 6 + c) = (ns.getD j default).cell c) := hf
      have Hnd : Hid (ns.getD k default = n) := hnd
      clear hcell hn hf hnd
      go_wp2_with fail
      refine (toNode_calls _ _ _ _ _ _ _).mono ?_
      rintro e w1 ⟨rfl, hb1⟩
      clear c0 c1 c2 c3 c4 c5
      have hown1 := hown.of_block (hb1.block w.heap.size hown.lt)
      have hnx1 := hnx.trans (hb1.mono hnx.size)
      have q0 := hown1.cell (i := k * 6) (by omega)
      have q1 := hown1.cell (i := k * 6 + 1) (by omega)
      have q2 := hown1.cell (i := k * 6 + 2) (by omega)
      have q3 := hown1.cell (i := k * 6 + 3) (by omega)
      have q4 := hown1.cell (i := k * 6 + 4) (by omega)
      have q5 := hown1.cell (i := k * 6 + 5) (by omega)
      have z0 := hown1.frozen (k * 6)
      have z1 := hown1.frozen (k * 6 + 1)
      have z2 := hown1.frozen (k * 6 + 2)
      have z3 := hown1.frozen (k * 6 + 3)
      have z4 := hown1.frozen (k * 6 + 4)
      have z5 := hown1.frozen (k * 6 + 5)
      clear hown hnx hb1
      go_wp2_with fail
      obtain ⟨f', hr', hf'⟩ := copy_step hown1 Hf.out Hnd.out
      refine ⟨⟨k + 1, f', by omega, by simp, hr', hf', ?_⟩, by simp [intOf]; omega⟩
      exact (((((hnx1.setCell (by simp) _).setCell (by simp) _).setCell (by simp) _).setCell (by simp) _).setCell (by simp) _).setCell (by simp) _
    · go_wp2_with fail
      go_ret
      refine ⟨rfl, ⟨len * 6, f, rw_of_row hown _, Nat.le_refl _, fun i hi => ?_⟩, hnx⟩
      have := hf (i / 6) (by omega) (i % 6) (by omega)
      rw [show i / 6 * 6 + i % 6 = i by omega] at this
      exact this

theorem toNodeS_row {v : Value} {ns : List Nd} (w : World) (hv : NodeSlice w v ns) (hm : ns.length ≤ 1048576) :
    Calls Tryz.prog 7 #[v] w fun e w' => e = .returned (.slice (some ⟨w.heap.size, 0, none⟩) ns.length ns.length) ∧ SliceR 42 6 w.heap.size w' (.slice (some ⟨w.heap.size, 0, none⟩) ns.length ns.length) ns.length (ndF ns) ∧ w.heap.size < w'.heap.size ∧ Below w.heap.size w w' := by
  obtain ⟨a, cap, rfl, h⟩ := hv
  by_cases he : ns = []
  · subst he
    refine (toNodeS_none a cap w).mono ?_
    rintro e w' ⟨rfl, h1, h2⟩
    exact ⟨rfl, ⟨_, _, rfl, Or.inl rfl⟩, h1, h2⟩
  · obtain ⟨b, off, rfl, hb, hn⟩ := h.resolve_left he
    refine (toNodeS_rowsF b off ns.length cap ns w hb hn (Nat.le_refl _) hm).mono ?_
    rintro e w' ⟨rfl, h1, h3⟩
    exact ⟨rfl, ⟨_, _, rfl, Or.inr ⟨_, rfl, Nat.le_refl _, h1⟩⟩, h1.lt, h3⟩

theorem SliceR.nodesAt {B g n cap : Nat} {w : World} {ns : List Nd} (h : SliceR 42 6 B w (.slice (some ⟨g, 0, none⟩) n cap) ns.length (ndF ns)) : NodesAt w g 0 ns := by
  obtain ⟨ad, c, e, h⟩ := h
  cases e
  by_cases h0 : ns.length = 0
  · intro j hj
    omega
  · obtain ⟨g', e, -, hr⟩ := h.resolve_left h0
    cases e
    exact hr.nodes

/-- The marks, told by the place of the cell. -/
def ndMarks (i : Nat) : Value := if i % 6 = 2 ∨ i % 6 = 3 ∨ i % 6 = 4 then .string (markOf (1 + i)) else .int .i64 (1 + (i : Int))

theorem wrap_six {x : Int} {k n : Nat} (hx : x = 1 + 6 * (k : Int)) (hk : k < n) (hm : n ≤ 1048576) : wrap64 (x + 1) = x + 1 ∧ wrap64 (x + 1 + 1) = x + 1 + 1 ∧ wrap64 (x + 1 + 1 + 1) = x + 1 + 1 + 1 ∧ wrap64 (x + 1 + 1 + 1 + 1) = x + 1 + 1 + 1 + 1 ∧ wrap64 (x + 1 + 1 + 1 + 1 + 1) = x + 1 + 1 + 1 + 1 + 1 ∧ wrap64 (x + 1 + 1 + 1 + 1 + 1 + 1) = x + 1 + 1 + 1 + 1 + 1 + 1 := by
  unfold wrap64
  omega

theorem six_more {k : Nat} {f f' F : Nat → Value} (hf : ∀ i, i < k * 6 → f i = F i) (ho : ∀ i, i < k * 6 → f' i = f i) (h : ∀ c, c < 6 → f' (k * 6 + c) = F (k * 6 + c)) : ∀ i, i < (k + 1) * 6 → f' i = F i := by
  intro i hi
  by_cases hik : i < k * 6
  · rw [ho i hik, hf i hik]
  · have := h (i - k * 6) (by omega)
    rwa [show k * 6 + (i - k * 6) = i by omega] at this

theorem Rw.put {w : World} {g : Nat} {t : TypeId} {N n : Nat} {f : Nat → Value} (h : Rw w g t N f n) (i : Nat) (v : Value) : ∃ f', Rw (w.setCell ⟨g, i, none⟩ v) g t N f' n ∧ f' i = v ∧ ∀ j, j ≠ i → f' j = f j :=
  ⟨_, h.set i v, if_pos rfl, fun _ hj => if_neg hj⟩

set_option maxHeartbeats 4000000 in
set_option maxRecDepth 100000 in
theorem markNodeS_rows (g n cap : Nat) (F : Nat → Value) (w : World) (hm : n ≤ 1048576) (hr : CellRow 42 w g (n * 6) F) :
    Calls Tryz.prog 10 #[.slice (some ⟨g, 0, none⟩) n cap, .int .i64 1] w fun e w' => e = .returned (.int .i64 (1 + 6 * (n : Int))) ∧ CellRow 42 w' g (n * 6) ndMarks ∧ w.grownBy w' (some g) := by
  obtain ⟨N, f, hf, hN, _⟩ := hr
  have HM : Hid (n ≤ 1048576) := hm
  clear hm
  go_enter Tryz.func10, Tryz.ntmps10
  go_wp2_with fail
  go_loopw [1, 5] (fun m i wr => ∃ (k : Nat) (x : Int) (f : Nat → Value), k ≤ n ∧ i = .int .i64 k ∧ m = .int .i64 x ∧ Hid (x = 1 + 6 * (k : Int)) ∧ Rw wr g 42 N f (n * 6) ∧ Hid (∀ j, j < k * 6 → f j = ndMarks j) ∧ w.grownBy wr (some g)) (fun _ i _ => n - (intOf i).toNat)
  case atStart => exact ⟨0, 1, f, Nat.zero_le _, rfl, rfl, by show _ = _; simp, hf, fun j hj => by omega, kept_refl _ _⟩
  case round =>
    obtain ⟨k, x, f, hk, rfl, rfl, Hx, hrow, HF, hgr⟩ := hrel
    clear hf
    by_cases hkl : (k : Int) < (n : Int)
    · have HW := hid (wrap_six Hx.out (by omega) HM.out)
      have HC : Hid (∀ (c : Nat) (X : World), 2 ≤ c → c ≤ 4 → Calls Tryz.prog 25 #[.int .i64 (x + (c : Int))] X fun e w' => e = .returned (.string (markOf (1 + (k * 6 + c)))) ∧ Below X.heap.size X w') := fun c X h1 h2 => by
        have := mark_callsZ (x + (c : Int)) (by show _ ∧ _; have := Hx.out; have := HM.out; omega) X
        rwa [show (x + (c : Int)).toNat = 1 + (k * 6 + c) by have := Hx.out; omega] at this
      have HC2 := hid (fun X => HC.out 2 X (by decide) (by decide))
      have HC3 := hid (fun X => HC.out 3 X (by decide) (by decide))
      have HC4 := hid (fun X => HC.out 4 X (by decide) (by decide))
      rw [show x + ((2 : Nat) : Int) = x + 1 + 1 by omega] at HC2
      rw [show x + ((3 : Nat) : Int) = x + 1 + 1 + 1 by omega] at HC3
      rw [show x + ((4 : Nat) : Int) = x + 1 + 1 + 1 + 1 by omega] at HC4
      have HB : Hid (ndMarks (k * 6 + 0) = .int .i64 x ∧ ndMarks (k * 6 + 1) = .int .i64 (x + 1) ∧ ndMarks (k * 6 + 2) = .string (markOf (1 + (k * 6 + 2))) ∧ ndMarks (k * 6 + 3) = .string (markOf (1 + (k * 6 + 3))) ∧ ndMarks (k * 6 + 4) = .string (markOf (1 + (k * 6 + 4))) ∧ ndMarks (k * 6 + 5) = .int .i64 (x + 1 + 1 + 1 + 1 + 1)) := by
        have hx := Hx.out
        unfold ndMarks
        refine ⟨?_, ?_, ?_, ?_, ?_, ?_⟩
        · rw [if_neg (by omega)]; congr 1; omega
        · rw [if_neg (by omega)]; congr 1; omega
        · rw [if_pos (by omega)]
        · rw [if_pos (by omega)]
        · rw [if_pos (by omega)]
        · rw [if_neg (by omega)]; congr 1; omega
      generalize markOf (1 + (k * 6 + 2)) = m2 at *
      generalize markOf (1 + (k * 6 + 3)) = m3 at *
      generalize markOf (1 + (k * 6 + 4)) = m4 at *
      have q0 := hrow.cell (i := k * 6) (by omega)
      have q1 := hrow.cell (i := k * 6 + 1) (by omega)
      have z0 := hrow.frozen (k * 6) (by omega)
      have z1 := hrow.frozen (k * 6 + 1) (by omega)
      clear HC
      obtain ⟨e1, e2, e3, e4, e5, e6⟩ := HW.out
      have HE := hid (And.intro e1 (And.intro e2 (And.intro e3 (And.intro e4 (And.intro e5 e6)))))
      clear e1 e2 e3 e4 e5 e6 HW
      go_wp2_with fail
      obtain ⟨e1, e2, e3, e4, e5, e6⟩ := HE.out
      simp only [e1, e2]
      clear e1 e2 e3 e4 e5 e6
      refine (HC2.out _).mono ?_
      rintro e W1 ⟨rfl, hb1⟩
      obtain ⟨f0, r0, a0, o0⟩ := hrow.put (k * 6) (.int .i64 x)
      obtain ⟨f1, r1, a1, o1⟩ := r0.put (k * 6 + 1) (.int .i64 (x + 1))
      have r1' := r1.of_block (hb1.block g r1.lt)
      have hgr1 := kept_below (kept_set (kept_set hgr (k * 6) (.int .i64 x)) (k * 6 + 1) (.int .i64 (x + 1))) hb1
      have q2 := r1'.cell (i := k * 6 + 2) (by omega)
      have z2 := r1'.frozen (k * 6 + 2) (by omega)
      have HO0 := hid (And.intro a0 o0)
      have HO1 := hid (And.intro a1 o1)
      clear q0 q1 z0 z1 hrow r0 r1 hb1 hgr a0 o0 a1 o1 HC2
      go_wp2_with fail
      obtain ⟨e1, e2, e3, e4, e5, e6⟩ := HE.out
      simp only [e3]
      clear e1 e2 e3 e4 e5 e6
      refine (HC3.out _).mono ?_
      rintro e W2 ⟨rfl, hb2⟩
      obtain ⟨f2, r2, a2, o2⟩ := r1'.put (k * 6 + 2) (.string m2)
      have r2' := r2.of_block (hb2.block g r2.lt)
      have hgr2 := kept_below (kept_set hgr1 (k * 6 + 2) (.string m2)) hb2
      have q3 := r2'.cell (i := k * 6 + 3) (by omega)
      have z3 := r2'.frozen (k * 6 + 3) (by omega)
      have HO2 := hid (And.intro a2 o2)
      clear q2 z2 r1' r2 hb2 hgr1 a2 o2 HC3
      go_wp2_with fail
      obtain ⟨e1, e2, e3, e4, e5, e6⟩ := HE.out
      simp only [e4]
      clear e1 e2 e3 e4 e5 e6
      refine (HC4.out _).mono ?_
      rintro e W3 ⟨rfl, hb3⟩
      obtain ⟨f3, r3, a3, o3⟩ := r2'.put (k * 6 + 3) (.string m3)
      have r3' := r3.of_block (hb3.block g r3.lt)
      have hgr3 := kept_below (kept_set hgr2 (k * 6 + 3) (.string m3)) hb3
      have q4 := r3'.cell (i := k * 6 + 4) (by omega)
      have z4 := r3'.frozen (k * 6 + 4) (by omega)
      have q5 := r3'.cell (i := k * 6 + 5) (by omega)
      have z5 := r3'.frozen (k * 6 + 5) (by omega)
      have HO3 := hid (And.intro a3 o3)
      clear q3 z3 r2' r3 hb3 hgr2 a3 o3 HC4
      go_wp2_with fail
      obtain ⟨e1, e2, e3, e4, e5, e6⟩ := HE.out
      simp only [e5, e6]
      obtain ⟨f4, r4, a4, o4⟩ := r3'.put (k * 6 + 4) (.string m4)
      obtain ⟨f5, r5, a5, o5⟩ := r4.put (k * 6 + 5) (.int .i64 (x + 1 + 1 + 1 + 1 + 1))
      obtain ⟨a0, o0⟩ := HO0.out
      obtain ⟨a1, o1⟩ := HO1.out
      obtain ⟨a2, o2⟩ := HO2.out
      obtain ⟨a3, o3⟩ := HO3.out
      obtain ⟨b0, b1, b2, b3, b4, b5⟩ := HB.out
      rw [wrap_inc (n := n) (by omega) HM.out]
      have hs : n - (intOf (.int .i64 ((k + 1 : Nat) : Int))).toNat < n - (intOf (.int .i64 (k : Int))).toNat := by simp only [intOf, Int.toNat_natCast]; omega
      have hx := Hx.out
      refine ⟨⟨k + 1, x + 1 + 1 + 1 + 1 + 1 + 1, f5, by omega, rfl, rfl, by show _ = _; omega, r5, six_more HF.out (fun i hi => ?_) (fun c hc => ?_), kept_set (kept_set hgr3 _ _) _ _⟩, hs⟩
      · rw [o5 i (by omega), o4 i (by omega), o3 i (by omega), o2 i (by omega), o1 i (by omega), o0 i (by omega)]
      · match c, hc with
        | 0, _ => rw [o5 _ (by omega), o4 _ (by omega), o3 _ (by omega), o2 _ (by omega), o1 _ (by omega), b0]; exact a0
        | 1, _ => rw [o5 _ (by omega), o4 _ (by omega), o3 _ (by omega), o2 _ (by omega), a1, b1]
        | 2, _ => rw [o5 _ (by omega), o4 _ (by omega), o3 _ (by omega), a2, b2]
        | 3, _ => rw [o5 _ (by omega), o4 _ (by omega), a3, b3]
        | 4, _ => rw [o5 _ (by omega), a4, b4]
        | 5, _ => rw [a5, b5]
    · have hkn : k = n := by omega
      subst hkn
      have HX : Hid (x = 1 + 6 * (k : Int)) := Hx
      clear Hx
      go_wp2_with fail
      go_ret
      exact ⟨by rw [← HX.out]; rfl, ⟨N, f, hrow, hN, HF.out⟩, hgr⟩

set_option maxRecDepth 100000 in
theorem markNodeS_none (ad : Option Addr) (cap : Nat) (w : World) :
    Calls Tryz.prog 10 #[.slice ad 0 cap, .int .i64 1] w fun e w' => e = .returned (.int .i64 1) ∧ w = w' := by
  go_enter Tryz.func10, Tryz.ntmps10
  go_wp2
  refine wp_loop_rounds 1 ?_
  rw [rounds_succ]
  go_wp2
  go_ret
  exact ⟨rfl, rfl⟩

theorem markNodeS_any {B n : Nat} {v : Value} {F : Nat → Value} (w : World) (hm : n ≤ 1048576) (h : SliceR 42 6 B w v n F) :
    Calls Tryz.prog 10 #[v, .int .i64 1] w fun e w' => e = .returned (.int .i64 (1 + 6 * (n : Int))) ∧ SliceR 42 6 B w' v n ndMarks ∧ Turned w w' v n := by
  obtain ⟨ad, cap, rfl, h⟩ := h
  by_cases h0 : n = 0
  · subst h0
    refine (markNodeS_none ad cap w).mono ?_
    rintro e w' ⟨rfl, rfl⟩
    exact ⟨by simp, ⟨ad, cap, rfl, Or.inl rfl⟩, none, kept_refl _ _, Or.inl rfl⟩
  · obtain ⟨g, rfl, hB, hr⟩ := h.resolve_left h0
    refine (markNodeS_rows g n cap F w hm hr).mono ?_
    rintro e w' ⟨rfl, hr', hg⟩
    exact ⟨rfl, ⟨_, cap, rfl, Or.inr ⟨g, rfl, hB, hr'⟩⟩, some g, hg, Or.inr ⟨h0, rfl⟩⟩
end Go.Proofs.YtlhdicichdihfaaGreatDoor

/- The specification's plainer names a tree anew: the plain walk. -/
namespace Go.Proofs.YtlhdicichdihfaaGreatDoor
open Go.RowKit Go.Deep

/-- The first of a node's names that is made anew. -/
def firstZ (k : Int) : Nat := if k = 26 ∨ k = 22 then 1 else 0

theorem names_first {k : Int} (h5 : k ≠ 5) : namesZ k = ((firstZ k + makesZ k : Nat) : Int) := by
  obtain ⟨h1, h2, h3, -⟩ := namesZ_makes k
  unfold firstZ
  by_cases e26 : k = 26
  · rw [if_pos (Or.inl e26), (h2 e26).1, (h2 e26).2]; rfl
  by_cases e22 : k = 22
  · rw [if_pos (Or.inr e22), (h3 e22).1, (h3 e22).2]; rfl
  · rw [if_neg (by omega), h1 h5 e22 e26]; simp

/-- The texts of a node, told by place, the first made anew up to so many. -/
def textA (n : Nd) (made c : Nat) (j : Nat) : ByteArray := if firstZ n.kind ≤ j ∧ j < firstZ n.kind + c then freshZ (made + (j - firstZ n.kind)) else if j = 0 then n.a else if j = 1 then n.b else n.c

theorem textA_ren {n : Nd} (sc : Sco) (made : Nat) (h5 : n.kind ≠ 5) : renZ n sc made = { n with a := textA n made (makesZ n.kind) 0, b := textA n made (makesZ n.kind) 1, c := textA n made (makesZ n.kind) 2 } := by
  obtain ⟨kd, num, a, b, c, kids⟩ := n
  dsimp only at *
  unfold renZ textA firstZ makesZ
  dsimp only
  rw [if_neg h5]
  by_cases h6 : kd = 6
  · subst h6; simp
  by_cases h25 : kd = 25
  · subst h25; simp
  by_cases h8 : kd = 8
  · subst h8; simp
  by_cases h9 : kd = 9
  · subst h9; simp
  by_cases h20 : kd = 20
  · subst h20; simp
  by_cases h26 : kd = 26
  · subst h26; simp
  by_cases h22 : kd = 22
  · subst h22; simp
  · simp [h6, h25, h8, h9, h20, h26, h22]

theorem news_take_succ (k : Int) (made c : Nat) (h : c < makesZ k) : (newsZ k made).take (c + 1) = (newsZ k made).take c ++ [freshZ (made + c)] := by
  have h2 := makesZ_le k
  unfold newsZ
  have : makesZ k = 1 ∨ makesZ k = 2 := by omega
  rcases this with e | e
  · rw [e] at h ⊢
    have : c = 0 := by omega
    subst this
    rfl
  · rw [e] at h ⊢
    have : c = 0 ∨ c = 1 := by omega
    rcases this with rfl | rfl <;> rfl

/-- Names were made: the plainer, the new names, the node's texts. -/
def Nmd (W0 : World) (Pb : Nat) (tv : Value) (s : Wst) (vo : Value) (W W3 : World) (ab : Nat) (n : Nd) (sc : Sco) (nw : Value) (X : World) : Prop :=
  Mkg W0 Pb tv s vo W W3 ab (makesZ n.kind) X ∧ X.ownsRow W3.heap.size 9 1 nw (newsZ n.kind s.made).length (strRow (newsZ n.kind s.made)) ∧ ∃ f, Rw X ab 9 3 f 3 ∧ f 0 = .string (renS n sc s.made).a ∧ f 1 = .string (renS n sc s.made).b ∧ f 2 = .string (renS n sc s.made).c

theorem renS_same (n : Nd) (sc : Sco) (made : Nat) : (renS n sc made).kind = n.kind ∧ (renS n sc made).num = n.num ∧ (renS n sc made).kids = n.kids := by
  unfold renS renZ
  repeat' split
  all_goals exact ⟨rfl, rfl, rfl⟩

theorem snoc_get {xs : List Value} {x : Value} {c : Nat} (h : xs.length = c) : (xs ++ [x])[c]? = some x := by
  subst h
  simp

theorem textA_next (n : Nd) (made c : Nat) (j : Nat) (hj : j ≠ firstZ n.kind + c) : textA n made (c + 1) j = textA n made c j := by
  unfold textA
  by_cases h : firstZ n.kind ≤ j ∧ j < firstZ n.kind + c
  · rw [if_pos h, if_pos ⟨h.1, by omega⟩]
  · rw [if_neg h, if_neg (by omega)]

theorem textA_here (n : Nd) (made c : Nat) : textA n made (c + 1) (firstZ n.kind + c) = freshZ (made + c) := by
  unfold textA
  rw [if_pos ⟨by omega, by omega⟩]
  congr 1
  omega

set_option maxHeartbeats 8000000 in
set_option maxRecDepth 100000 in
theorem part_calls {W0 : World} {Pb b off cap : Nat} {ns : List Nd} (hm : ns.length ≤ 300) (hok : ∀ m ∈ ns, m.kind = 9 → m.kids ≤ 2) (hb0 : b < W0.heap.size) (hbP : b ≠ Pb) (hn0 : NodesAt W0 b off ns) :
    ∀ (N : Nat) (n : Nd) (k : Fo) (suf : List Nd) (p : Nat) (sc : Sco) (s : Wst) (vo fv tv : Value) (W : World), ns.drop p = n :: (k.flat ++ suf) → n.kids = k.count → k.wf → k.flat.length < N → Pls W0 Pb (.slice (some ⟨b, off, none⟩) ns.length cap) s vo W → NamesT W fv (fromZ sc) → NamesT W tv (toZ sc) → sc.length + 2 * k.flat.length ≤ 1000 → Room (k.flat.length + 1) s →
    Calls Tryz.prog 19 #[.pointer (some ⟨Pb, 0, none⟩), .int .i64 (p : Int), fv, tv] W fun e W' => (∃ x, e = .returned x) ∧ ∃ vo', Pls W0 Pb (.slice (some ⟨b, off, none⟩) ns.length cap) (walkS n k sc s) vo' W' ∧ Pfr Pb vo W W' ∧ Movd W vo vo' := by
  intro N
  induction N with
  | zero => intro n k suf p sc s vo fv tv W _ _ _ h; omega
  | succ N ih =>
    intro n k suf p sc s vo fv tv W hp hkc hk hN st hfv htv hsl hroom
    obtain ⟨hpl, hpn, hp1⟩ := at_drop hp
    have HNd : Hid (∀ X, (∀ q, q < W0.heap.size → q ≠ Pb → X.heap[q]? = W0.heap[q]?) → NodesAt X b off ns) := fun X hX j hj c hc => (World.cell?_of_block (a := ⟨b, off + j * 6 + c, none⟩) (hX b hb0 hbP)).trans (hn0 j hj c hc)
    have hn := HNd.out W st.kept
    have c0 := hn p hpl 0 (by omega)
    have c1 := hn p hpl 1 (by omega)
    have c2 := hn p hpl 2 (by omega)
    have c3 := hn p hpl 3 (by omega)
    have c4 := hn p hpl 4 (by omega)
    have c5 := hn p hpl 5 (by omega)
    rw [hpn] at c0 c1 c2 c3 c4 c5
    simp only [Nd.cell, Nat.add_zero] at c0 c1 c2 c3 c4 c5
    have d0 := cell_of_heap st.blk 0
    simp at d0
    have HIH := hid ih
    have HM := hid hm
    have HP1 := hid hp1
    have HWf := hid hk
    have HNl := hid hN
    have HSt := hid st
    have HFv := hid hfv
    have HTv := hid htv
    have HSl := hid hsl
    have HRm := hid hroom
    have HK9 := hid (hok n (by rw [← List.take_append_drop p ns, hp]; simp))
    have HPl := hid hpl
    obtain ⟨adf, cpf, hvf⟩ := hfv.slice
    obtain ⟨adt, cpt, hvt⟩ := htv.slice
    obtain ⟨kd, num, a, bb, cc, kids⟩ := n
    dsimp only at *
    obtain ⟨kc, hkc'⟩ : ∃ kc, k.count = kc := ⟨_, rfl⟩
    rw [hkc'] at hkc
    have HKc := hid hkc'
    have HCt : Hid (k.count ≤ 1000) := by
      show _ ≤ _
      have := Fo.count_le k
      omega
    subst hkc
    obtain ⟨len, hlen⟩ : ∃ len, ns.length = len := ⟨_, rfl⟩
    have Hlen := hid hlen
    rw [hlen] at hpl d0 HSt ⊢
    have hpl2 : (p : Int) < (len : Int) := by omega
    have hp0 : (0 : Int) ≤ (p : Int) := by omega
    obtain ⟨TG, hTG⟩ : ∃ TG, walkS ⟨kd, num, a, bb, cc, kc⟩ k sc s = TG := ⟨_, rfl⟩
    have HTG := hid hTG
    rw [hTG]
    rw [from_len] at hvf
    rw [to_len] at hvt
    subst hvf
    subst hvt
    clear ih hn hm hp1 hk hN st hfv htv hp hpn hkc' hlen hsl hroom hTG
    have hA1 := (MapKept.heap_alloc W (.cells #[.int .i64 kd, .int .i64 num, .string a, .string bb, .string cc, .int .i64 (kc : Int)] 42)).1
    have hB1 := (Below.refl W.heap.size W).alloc (Nat.le_refl _) (.cells #[.int .i64 kd, .int .i64 num, .string a, .string bb, .string cc, .int .i64 (kc : Int)] 42)
    obtain ⟨W1, hW1⟩ : ∃ W1, W.alloc (.cells #[.int .i64 kd, .int .i64 num, .string a, .string bb, .string cc, .int .i64 (kc : Int)] 42) = W1 := ⟨_, rfl⟩
    have hz1 : W1.heap.size = W.heap.size + 1 := by rw [← hW1]; simp
    have hA2 := (MapKept.heap_alloc W1 (.cells #[.int .i64 kd, .int .i64 num, .string a, .string bb, .string cc, .int .i64 (kc : Int)] 42)).1
    have hB2 := (Below.refl W1.heap.size W1).alloc (Nat.le_refl _) (.cells #[.int .i64 kd, .int .i64 num, .string a, .string bb, .string cc, .int .i64 (kc : Int)] 42)
    obtain ⟨W2, hW2⟩ : ∃ W2, W1.alloc (.cells #[.int .i64 kd, .int .i64 num, .string a, .string bb, .string cc, .int .i64 (kc : Int)] 42) = W2 := ⟨_, rfl⟩
    have hz2 : W2.heap.size = W.heap.size + 2 := by rw [← hW2]; simp [hz1]
    have hA3 := (MapKept.heap_alloc W2 (.cells #[.string a, .string bb, .string cc] 9)).1
    have hB3 := (Below.refl W2.heap.size W2).alloc (Nat.le_refl _) (.cells #[.string a, .string bb, .string cc] 9)
    obtain ⟨W3, hW3⟩ : ∃ W3, W2.alloc (.cells #[.string a, .string bb, .string cc] 9) = W3 := ⟨_, rfl⟩
    have hz3 : W3.heap.size = W.heap.size + 3 := by rw [← hW3]; simp [hz2]
    have HEq := hid (And.intro hW1 (And.intro hW2 hW3))
    rw [hW1] at hA1 hB1
    rw [hW2] at hA2 hB2
    rw [hW3] at hA3 hB3
    have hBW : Below W.heap.size W W3 := hB1.trans (((hB2.trans (hB3.mono hB2.size)).mono (by omega)))
    have HB3 := hid hBW
    have HX1 := hid ((hB3.block _ (by rw [hz2]; omega)).trans ((hB2.block _ (by rw [hz1]; omega)).trans hA1))
    have HX2 := hid ((hB3.block _ (by rw [hz2, hz1]; omega)).trans hA2)
    have HX3 := hid hA3
    rw [hz1] at HX2
    rw [hz2] at HX3
    have HZ3 := hid hz3
    clear hW1 hW2 hW3 hA1 hA2 hA3 hB1 hB2 hB3 hBW
    go_enter Tryz.func19, Tryz.ntmps19
    have HFz : Hid (firstZ kd ≤ 1) := by show _ ≤ _; unfold firstZ; split <;> omega
    have x1 := cell_of_heap HX1.out 0
    simp at x1
    go_upto_region 4 with fail
    obtain ⟨hq1, hq2, hq3⟩ := HEq.out
    rw [hq1, hq2, hq3]
    clear hq1 hq2 hq3 HEq
    go_cut [39] from 32 to 39 (fun t wx => t = .bool (firstZ kd == 1) ∧ wx = W3)
    case first =>
      by_cases k26 : (kd == 26) = true
      · have HF : Hid (firstZ kd = 1) := by show _ = _; unfold firstZ; rw [if_pos (Or.inl (eq_of_beq k26))]
        go_wp2_with fail
        go_meet
        exact ⟨by rw [HF.out]; rfl, rfl⟩
      · by_cases k22 : (kd == 22) = true
        · have HF : Hid (firstZ kd = 1) := by show _ = _; unfold firstZ; rw [if_pos (Or.inr (eq_of_beq k22))]
          go_wp2_with fail
          go_meet
          exact ⟨by rw [HF.out]; rfl, rfl⟩
        · have HF : Hid (firstZ kd = 0) := by
            show _ = _
            unfold firstZ
            rw [if_neg]
            rintro (h | h)
            · exact k26 (by rw [h]; rfl)
            · exact k22 (by rw [h]; rfl)
          go_wp2_with fail
          go_meet
          exact ⟨by rw [HF.out]; rfl, rfl⟩
    case rest =>
    obtain ⟨rfl, hwc⟩ := hcut
    rw [hwc]
    clear hwc wc x1
    go_upto_if 39 with fail
    go_cut [11] from 32 to 39 (fun f wx => f = .int .i64 (firstZ kd : Int) ∧ wx = W3)
    case first =>
      have hfc : firstZ kd = 0 ∨ firstZ kd = 1 := by have := HFz.out; omega
      rcases hfc with h | h
      · have hb : (firstZ kd == 1) = false := by rw [h]; rfl
        have HF := hid h
        clear h
        rw [hb]
        go_wp2_with fail
        go_meet
        exact ⟨by rw [HF.out]; rfl, rfl⟩
      · have hb : (firstZ kd == 1) = true := by rw [h]; rfl
        have HF := hid h
        clear h
        rw [hb]
        go_wp2_with fail
        go_meet
        exact ⟨by rw [HF.out]; rfl, rfl⟩
    case rest =>
    obtain ⟨rfl, hwc⟩ := hcut
    rw [hwc]
    clear hwc wc
    have HTq : Hid (∀ X, Below W3.heap.size W3 X → NamesT X (.slice adf sc.length cpf) (fromZ sc) ∧ NamesT X (.slice adt sc.length cpt) (toZ sc)) := fun X hX => ⟨(HFv.out.below HB3.out).below hX, (HTv.out.below HB3.out).below hX⟩
    have HVl : Hid (∀ q, vo.ownBlock = some q → q < W.heap.size) := fun q e => (HSt.out.row.lt q e).2
    have HMk0 : Hid (Mkg W0 Pb (.slice (some ⟨b, off, none⟩) len cap) s vo W W3 (W.heap.size + 2) 0 W3) := ⟨HSt.out.below HB3.out, Nfr.of_below HB3.out, Nat.le_refl _, fun _ _ _ _ => rfl, HVl.out, HSt.out.size, by rw [HZ3.out]; omega⟩
    have HRw0 : Hid (∃ f, Rw W3 (W.heap.size + 2) 9 3 f 3 ∧ f 0 = .string a ∧ f 1 = .string bb ∧ f 2 = .string cc) := ⟨fun i => #[Value.string a, .string bb, .string cc].getD i undef, ⟨_, (0, 0), HX3.out, rfl, fun i hi => by
      have : i = 0 ∨ i = 1 ∨ i = 2 := by omega
      rcases this with rfl | rfl | rfl <;> rfl, Or.inl rfl⟩, rfl, rfl, rfl⟩
    go_upto_block 0 with fail
    go_cut [11, 12, 13] from 40 to 74 (fun _ nw _ wx => Hid (Nmd W0 Pb (.slice (some ⟨b, off, none⟩) len cap) s vo W W3 (W.heap.size + 2) ⟨kd, num, a, bb, cc, kc⟩ sc nw wx))
    case first =>
      by_cases k5 : (kd == 5) = true
      · have e5 := hid (show kd = 5 from eq_of_beq k5)
        have hf0 : (firstZ kd : Int) = 0 := by rw [e5.out]; rfl
        have HNm : Hid (∀ X, Calls Tryz.prog 33 #[.int .i64 kd] X fun e w' => e = .returned (.int .i64 1) ∧ X = w') := fun X => by
          have := names_calls kd X
          rwa [show namesZ kd = 1 by rw [e5.out]; rfl] at this
        have HNw := hid (fun (X : World) (hX : Below W3.heap.size W3 X) => now_calls a X (HTq.out X hX).1.names (HTq.out X hX).2.names (by have := HSl.out; omega))
        have x1 := cell_of_heap HX1.out 0
        simp at x1
        have y0 := cell_of_heap HX3.out 0
        have z0 := frozen_of_heap HX3.out 0
        simp at y0
        rw [hf0]
        clear hf0
        go_wp2_with fail
        refine wp_loop_rounds 2 ?_
        rw [rounds_succ]
        go_wp2_with fail
        refine (HNm.out _).mono ?_
        rintro e _ ⟨rfl, rfl⟩
        go_wp2_with fail
        refine (HNw.out _ (Below.refl _ _)).mono ?_
        rintro e _ ⟨rfl, rfl⟩
        go_wp2_with fail
        rw [rounds_succ]
        have x2 := (World.cell?_setCell_far W3 ⟨W.heap.size + 2, 0, none⟩ ⟨W.heap.size, 0, none⟩ (.string ((findS sc a).getD a)) (by simp)).trans x1
        obtain ⟨na, hna⟩ : ∃ na, (findS sc a).getD a = na := ⟨_, rfl⟩
        have HNa := hid hna
        rw [hna] at x2
        rw [hna]
        clear hna
        go_wp2_with fail
        refine (HNm.out _).mono ?_
        rintro e _ ⟨rfl, rfl⟩
        go_wp2_with fail
        go_meet
        have hmk0 : makesZ kd = 0 := by rw [e5.out]; rfl
        have hnw0 : newsZ kd s.made = [] := by unfold newsZ; rw [if_pos hmk0]
        refine ⟨?_, ?_, ?_⟩
        · dsimp only
          rw [hmk0]
          exact HMk0.out.grown (kept_set (kept_refl W3 (some (W.heap.size + 2))) 0 (.string na)) (fun q e => Or.inl (by cases e; rfl))
        · dsimp only
          rw [hnw0]
          exact World.ownsRow_nil _ _ _ _
        · obtain ⟨f, hr, h0, h1, h2⟩ := HRw0.out
          obtain ⟨f', hr', h3, h4⟩ := hr.put 0 (.string na)
          refine ⟨f', hr', ?_⟩
          unfold renS
          dsimp only
          rw [if_pos e5.out, HNa.out]
          exact ⟨h3, (h4 1 (by omega)).trans h1, (h4 2 (by omega)).trans h2⟩
      · have HNm : Hid (∀ X, Calls Tryz.prog 33 #[.int .i64 kd] X fun e w' => e = .returned (.int .i64 ((firstZ kd + makesZ kd : Nat) : Int)) ∧ X = w') := fun X => by
          have := names_calls kd X
          rwa [names_first (fun e => k5 (by rw [e]; rfl))] at this
        have HRen := hid (textA_ren (n := ⟨kd, num, a, bb, cc, kc⟩) sc s.made (fun e => k5 (by rw [show kd = 5 from e]; rfl)))
        have HRs : Hid (renS ⟨kd, num, a, bb, cc, kc⟩ sc s.made = renZ ⟨kd, num, a, bb, cc, kc⟩ sc s.made) := by
          show _ = _
          unfold renS
          rw [if_neg (fun e => k5 (by rw [show kd = 5 from e]; rfl))]
        have HM2 := hid (makesZ_le kd)
        dsimp only at HRen
        have k5b : (kd == 5) = false := by simpa using k5
        clear k5
        obtain ⟨mk, hmk⟩ : ∃ mk, makesZ kd = mk := ⟨_, rfl⟩
        obtain ⟨f0, hf0⟩ : ∃ f0, firstZ kd = f0 := ⟨_, rfl⟩
        have HMk := hid hmk
        have HF0 := hid hf0
        rw [hmk, hf0] at HNm
        rw [hf0]
        rw [hf0] at HFz
        rw [hmk] at HM2
        clear hmk hf0
        go_wp2_with fail
        go_loopw [12, 13] (fun nw i wr => ∃ (i' c : Nat), i = .int .i64 (i' : Int) ∧ Hid (i' = f0 + c ∧ c ≤ mk) ∧ Hid (Mkg W0 Pb (.slice (some ⟨b, off, none⟩) len cap) s vo W W3 (W.heap.size + 2) c wr) ∧ Hid (wr.ownsRow W3.heap.size 9 1 nw ((newsZ kd s.made).take c).length (strRow ((newsZ kd s.made).take c))) ∧ Hid (∃ f, Rw wr (W.heap.size + 2) 9 3 f 3 ∧ ∀ j, j < 3 → f j = .string (textA ⟨kd, num, a, bb, cc, kc⟩ s.made c j))) (fun _ i _ => f0 + mk - (intOf i).toNat)
        case atStart =>
          refine ⟨f0, 0, rfl, ⟨rfl, Nat.zero_le _⟩, HMk0, World.ownsRow_nil _ _ _ _, ?_⟩
          obtain ⟨f, hr, h0, h1, h2⟩ := HRw0.out
          refine ⟨f, hr, fun j hj => ?_⟩
          have hj3 : j = 0 ∨ j = 1 ∨ j = 2 := by omega
          unfold textA
          rw [if_neg (by omega)]
          rcases hj3 with rfl | rfl | rfl
          · exact h0
          · exact h1
          · exact h2
        case round =>
          obtain ⟨i', c, rfl, HI, HK, HO, HR⟩ := hrel
          have x1 := cell_of_heap ((HK.out.blk W.heap.size (Nat.le_refl _) (by rw [HZ3.out]; omega) (by omega)).trans HX1.out) 0
          simp at x1
          by_cases hc : c < mk
          · have hi : (i' : Int) < ((f0 + mk : Nat) : Int) := by have := HI.out.1; omega
            have hi3 : (i' : Int) < 3 := by have := HI.out.1; have := HFz.out; have := HM2.out; omega
            have hi0 : (0 : Int) ≤ (i' : Int) := by omega
            have hc2 : (c : Int) < 2 := by have := HM2.out; omega
            have hlc : ((newsZ kd s.made).take c).length = c := by rw [List.length_take, newsZ_len, HMk.out]; omega
            have ho := HO.out
            rw [hlc] at ho
            have HO1 := hid ho
            have HFr := hid (fresh_spec wr HK.out.st (by have := HRm.out.made; dsimp only; omega))
            dsimp only at HFr
            have HTk := hid (news_take_succ kd s.made c (by rw [HMk.out]; exact hc))
            have HHr := hid (textA_here ⟨kd, num, a, bb, cc, kc⟩ s.made c)
            have HNt := hid (fun j hj => textA_next ⟨kd, num, a, bb, cc, kc⟩ s.made c j hj)
            dsimp only at HHr HNt
            rw [HF0.out] at HHr HNt
            generalize freshZ (s.made + c) = fr at *
            have HLc : Hid ((strRow ((newsZ kd s.made).take c)).length = c) := by show _ = _; rw [strRow_len]; exact hlc
            clear ho hlc HO
            go_wp2_with fail
            refine (HNm.out _).mono ?_
            rintro e _ ⟨rfl, rfl⟩
            go_wp2_with fail
            refine HFr.out.mono ?_
            rintro e X1 ⟨rfl, st1, f1⟩
            have K1 := hid (HK.out.fresh st1 f1)
            have own1 := hid (own_same HO1.out (fun g e => f1.block g (HO1.out.lt g e).2 (HK.out.apart (by have := (HO1.out.lt g e).1; rw [HZ3.out] at this; omega)).1 (HK.out.apart (by have := (HO1.out.lt g e).1; rw [HZ3.out] at this; omega)).2 (by simp [Value.ownBlock])))
            have HR1 : Hid (∃ f, Rw X1 (W.heap.size + 2) 9 3 f 3 ∧ ∀ j, j < 3 → f j = .string (textA ⟨kd, num, a, bb, cc, kc⟩ s.made c j)) := by
              obtain ⟨f, hr, hf⟩ := HR.out
              exact ⟨f, hr.of_block (f1.block _ hr.lt (HK.out.apart (by omega)).1 (HK.out.apart (by omega)).2 (by simp [Value.ownBlock])), hf⟩
            clear st1 f1 HFr HK HO1 HR x1
            obtain ⟨i0, hinf, hz0, hz1, hz2⟩ := info_parts info_str
            go_wp2_with (first
              | (at_builtin; refine wpList_append_own_at _ rfl _ _ 30 rfl W3.heap.size 9 i0 (.string ⟨#[]⟩) 1 16 Tryz.underlying30 hinf hz0 hz1 hz2 rfl (by decide) _ _ _ rfl (own1.out.alloc _) ⟨X1.heap.size, 0, none⟩ 1 1 [.string fr] rfl rfl (cell_one_new _ _ rfl _ _) (fun x hx => by simp at hx; subst hx; rfl) (by unfold maxLen; omega) (by omega) (by have := K1.out.size; simp; omega) ?_
                 intro v5 w5 hown5 hgrow5 hnil5 hat5
                 obtain ⟨g5, cp5, rfl, hc5, hB5, hl5⟩ := own_last hown5
                 have K2 := hid ((K1.out.grown (grown_of_below ((Below.refl X1.heap.size X1).alloc (Nat.le_refl _) (.cells #[.string fr] 9)) none) (fun q e => by cases e)).grown hgrow5 (fun q e => Or.inr ((own1.out.lt q e).1)))
                 have HR2 : Hid (∃ f, Rw w5 (W.heap.size + 2) 9 3 f 3 ∧ ∀ j, j < 3 → f j = .string (textA ⟨kd, num, a, bb, cc, kc⟩ s.made c j)) := (by
                   obtain ⟨f, hr, hf⟩ := HR1.out
                   refine ⟨f, hr.of_block ((hgrow5.block _ (by have := hr.lt; simp; omega) (fun e => ?_)).trans (Below.heap_alloc _ _ _ hr.lt)), hf⟩
                   have := (own1.out.lt _ e.symm).1
                   rw [HZ3.out] at this
                   omega)
                 have O5 := hid hown5
                 have hc6 : w5.cell? ⟨g5, c, none⟩ = some (.string fr) := hc5.trans (snoc_get HLc.out)
                 obtain ⟨f2, hr2, hf2⟩ := HR2.out
                 have q2 := hr2.cell (i := i') (by omega)
                 have z2 := hr2.frozen i' (by omega)
                 have HF2 := hid (And.intro hr2 hf2)
                 have HG5 := hid (And.intro hB5 hl5)
                 clear hown5 hgrow5 hnil5 hat5 hc5 hr2 hf2 HR2 hB5 hl5))
            have hs : f0 + mk - (intOf (.int .i64 ((i' + 1 : Nat) : Int))).toNat < f0 + mk - (intOf (.int .i64 (i' : Int))).toNat := by simp only [intOf, Int.toNat_natCast]; omega
            try rw [wrap_inc (n := 3) (by omega) (by decide)]
            obtain ⟨f3, hr3, h3, h4⟩ := HF2.out.1.put i' (.string fr)
            refine ⟨⟨i' + 1, c + 1, rfl, ⟨by have := HI.out.1; omega, hc⟩, K2.out.grown (kept_set (kept_refl w5 (some (W.heap.size + 2))) i' (.string fr)) (fun q e => Or.inl (by cases e; rfl)), ?_, ?_⟩, hs⟩
            · have hl2 : ((newsZ kd s.made).take (c + 1)).length = c + 1 := by
                have := congrArg List.length HTk.out
                rw [this, List.length_append]
                have := HLc.out
                rw [strRow_len] at this
                rw [this]
                rfl
              have e2 : strRow ((newsZ kd s.made).take (c + 1)) = strRow ((newsZ kd s.made).take c) ++ [.string fr] := by rw [HTk.out, strRow_snoc]
              rw [hl2, e2]
              exact own_same O5.out (fun q e => Below.heap_setCell w5 ⟨W.heap.size + 2, i', none⟩ _ q (fun e2 => by have := (O5.out.lt q e).1; rw [HZ3.out] at this; dsimp only at e2; omega))
            · refine ⟨f3, hr3, fun j hj => ?_⟩
              have hii := HI.out.1
              by_cases hji : j = i'
              · subst hji
                rw [h3]
                have := HHr.out
                rw [← hii] at this
                rw [this]
              · rw [h4 j hji, HF2.out.2 j hj, HNt.out j (by omega)]
          · have hcm : c = mk := by have := HI.out.2; omega
            have hi : i' = f0 + mk := by have := HI.out.1; omega
            subst hcm
            subst hi
            go_wp2_with fail
            refine (HNm.out _).mono ?_
            rintro e _ ⟨rfl, rfl⟩
            go_wp2_with fail
            go_meet
            refine ⟨by rw [HMk.out]; exact HK.out, ?_, ?_⟩
            · have := HO.out
              rwa [List.take_of_length_le (by rw [newsZ_len, HMk.out]; exact Nat.le_refl _)] at this
            · obtain ⟨f, hr, hf⟩ := HR.out
              refine ⟨f, hr, ?_⟩
              rw [HRs.out, HRen.out, HMk.out]
              exact ⟨hf 0 (by omega), hf 1 (by omega), hf 2 (by omega)⟩
    case rest =>
    obtain ⟨K, O, f, hr, e0, e1, e2⟩ := hcut.out
    dsimp only at K O
    obtain ⟨m, hm⟩ : ∃ m, renS ⟨kd, num, a, bb, cc, kc⟩ sc s.made = m := ⟨_, rfl⟩
    have HMr := hid hm
    have hmf : m.kind = kd ∧ m.num = num ∧ m.kids = (kc : Int) := by
      rw [← hm]
      exact renS_same _ _ _
    rw [hm] at e0 e1 e2
    obtain ⟨mk, mn, ma, mb, mc, mi⟩ := m
    dsimp only at hmf e0 e1 e2
    obtain ⟨rfl, rfl, rfl⟩ := hmf
    have y0 := hr.cell (i := 0) (by omega)
    have y1 := hr.cell (i := 1) (by omega)
    have y2 := hr.cell (i := 2) (by omega)
    rw [e0] at y0
    rw [e1] at y1
    rw [e2] at y2
    have hxb := (K.blk (W.heap.size + 1) (by omega) (by rw [HZ3.out]; omega) (by omega)).trans HX2.out
    have HK := hid K
    have HO := hid O
    have HXb := hid hxb
    have HXn := hid ((K.blk W.heap.size (Nat.le_refl _) (by rw [HZ3.out]; omega) (by omega)).trans HX1.out)
    have r2 := cell_of_heap hxb 2
    have r3 := cell_of_heap hxb 3
    have r4 := cell_of_heap hxb 4
    have t2 := frozen_of_heap hxb 2
    have t3 := frozen_of_heap hxb 3
    have t4 := frozen_of_heap hxb 4
    simp at r2 r3 r4
    clear hcut K O hr e0 e1 e2 hxb hm HRw0 HMk0 HVl HX3 HX2 HX1
    go_upto_region 17 with fail
    have hw0 := HK.out.w0
    have hz3 := HZ3.out
    have hch : wc.grownBy (((wc.setCell ⟨W.heap.size + 1, 2, none⟩ (.string ma)).setCell ⟨W.heap.size + 1, 3, none⟩ (.string mb)).setCell ⟨W.heap.size + 1, 4, none⟩ (.string mc)) (some (W.heap.size + 1)) := kept_set (kept_set (kept_set (kept_refl wc (some (W.heap.size + 1))) 2 (.string ma)) 3 (.string mb)) 4 (.string mc)
    have hbx := (box6_set (box6_set (box6_set HXb.out (.string ma)).1 (.string mb)).2.1 (.string mc)).2.2
    generalize ((wc.setCell ⟨W.heap.size + 1, 2, none⟩ (.string ma)).setCell ⟨W.heap.size + 1, 3, none⟩ (.string mb)).setCell ⟨W.heap.size + 1, 4, none⟩ (.string mc) = Y at *
    have St0 := hid (HK.out.st.grown hch (fun q e => by cases e; exact ⟨by omega, (HK.out.apart (by omega)).2⟩))
    have Fr0 : Hid (Pfr Pb vo W Y) := ⟨hch.os.trans HK.out.fr.os, hch.tape.trans HK.out.fr.tape, hch.output.trans HK.out.fr.output, Nat.le_trans HK.out.fr.size hch.size, fun q hq h4 h5 h6 => (hch.block q (Nat.lt_of_lt_of_le hq HK.out.fr.size) (fun e => by cases e; omega)).trans (HK.out.fr.block q hq h4 h5 h6)⟩
    have O0 := hid (own_same (W' := Y) HO.out (fun q e => hch.block q (HO.out.lt q e).2 (fun e2 => by cases e2; have := (HO.out.lt _ e).1; omega)))
    have HBn := hid ((hch.block W.heap.size (by have := HK.out.size; omega) (fun e => by have := Option.some.inj e; omega)).trans HXn.out)
    have HBx := hid hbx
    have HFv0 := hid (HFv.out.frame HSt.out Fr0.out)
    have HTv0 := hid (HTv.out.frame HSt.out Fr0.out)
    have Vap : Hid (vo.ownBlock ≠ some W.heap.size) := (HK.out.apart (Nat.le_refl _)).2
    clear hch hbx HXb HXn HK HO r2 r3 r4 t2 t3 t4 y0 y1 y2
    obtain ⟨adp, cpp, hvp⟩ := own_slice St0.out.row
    dsimp only at hvp
    subst hvp
    have d1 := cell_of_heap St0.out.blk 1
    simp at d1
    have hPl : Pb < Y.heap.size := heap_lt St0.out.blk
    have hxl : W.heap.size + 1 < Y.heap.size := heap_lt HBx.out
    have e0 := cell_of_heap HBx.out 0
    have e1 := cell_of_heap HBx.out 1
    have e2 := cell_of_heap HBx.out 2
    have e3 := cell_of_heap HBx.out 3
    have e4 := cell_of_heap HBx.out 4
    have e5 := cell_of_heap HBx.out 5
    simp at e0 e1 e2 e3 e4 e5
    have q0 : ∀ y : Later Y.heap.size Y, y.w.cell? ⟨Pb, 1, none⟩ = _ := fun y => y.cell hPl d1
    have p0 : ∀ y : Later Y.heap.size Y, y.w.cell? ⟨W.heap.size + 1, 0, none⟩ = _ := fun y => y.cell hxl e0
    have p1 : ∀ y : Later Y.heap.size Y, y.w.cell? ⟨W.heap.size + 1, 1, none⟩ = _ := fun y => y.cell hxl e1
    have p2 : ∀ y : Later Y.heap.size Y, y.w.cell? ⟨W.heap.size + 1, 2, none⟩ = _ := fun y => y.cell hxl e2
    have p3 : ∀ y : Later Y.heap.size Y, y.w.cell? ⟨W.heap.size + 1, 3, none⟩ = _ := fun y => y.cell hxl e3
    have p4 : ∀ y : Later Y.heap.size Y, y.w.cell? ⟨W.heap.size + 1, 4, none⟩ = _ := fun y => y.cell hxl e4
    have p5 : ∀ y : Later Y.heap.size Y, y.w.cell? ⟨W.heap.size + 1, 5, none⟩ = _ := fun y => y.cell hxl e5
    clear d1 e0 e1 e2 e3 e4 e5
    refine till_begin (c := 7) (S := fun w' => ∃ x : Later Y.heap.size Y, w' = x.w) (by kernel_rfl) ?_
    refine till_walk (by kernel_rfl) 6 0 _ _ (by kernel_rfl) (by kernel_rfl) ⟨⟨Y.drew, (Below.refl _ _).drew⟩, rfl⟩ ?_
    simp only [List.drop_zero, List.take_succ_cons, List.take_zero]
    repeat (go_big_quiet_step (fail))
    refine wpQuiet_nil ?_
    rintro w7 ⟨x1, rfl⟩
    have hL1 := x1.h
    clear q0 p0 p1 p2 p3 p4 p5
    generalize x1.w = X1 at *
    refine till_make (k := 6) (v := .slice (some ⟨X1.heap.size, 0, none⟩) 1 1) (w1 := X1.alloc (.cells #[.int .i64 mk, .int .i64 mn, .string ma, .string mb, .string mc, .int .i64 (kc : Int)] 42)) (by decide) rfl (by kernel_rfl) rfl (by simp [go_sem]) ⟨⟨_, hL1.alloc (by have := hL1.size; omega) _⟩, rfl⟩ (by simp [go_sem]; exact rfl) ?_
    have hE := (MapKept.heap_alloc X1 (.cells #[.int .i64 mk, .int .i64 mn, .string ma, .string mb, .string mc, .int .i64 (kc : Int)] 42)).1
    have hKx := hL1.trans (((Below.refl X1.heap.size X1).alloc (Nat.le_refl _) (.cells #[.int .i64 mk, .int .i64 mn, .string ma, .string mb, .string mc, .int .i64 (kc : Int)] 42)).mono hL1.size)
    generalize X1.alloc (.cells #[.int .i64 mk, .int .i64 mn, .string ma, .string mb, .string mc, .int .i64 (kc : Int)] 42) = X2 at *
    have St2 := hid (St0.out.below hKx)
    obtain ⟨i0, hi, hz0, hz1, hz2⟩ := info_parts info_nd
    have HRp : Hid (s.plain.length ≤ 90000) := by show _ ≤ _; have := HRm.out.plain; omega
    obtain ⟨vp2, X3, hrun, hown, hgrow, -, hat⟩ := run_append_own_at (P := Tryz.prog) X2 W0.heap.size 24 24 42 i0 _ 6 72 Tryz.underlying24 hi hz0 hz1 hz2 rfl (by decide) (.slice adp s.plain.length cpp) s.plain.length (ndRow s.plain) St2.out.row ⟨X1.heap.size, 0, none⟩ 1 1 [.int .i64 mk, .int .i64 mn, .string ma, .string mb, .string mc, .int .i64 (kc : Int)] rfl (fun j u hu => by
      match j, hu with
      | 0, hu => simp at hu; subst hu; exact cell_of_heap hE 0
      | 1, hu => simp at hu; subst hu; exact cell_of_heap hE 1
      | 2, hu => simp at hu; subst hu; exact cell_of_heap hE 2
      | 3, hu => simp at hu; subst hu; exact cell_of_heap hE 3
      | 4, hu => simp at hu; subst hu; exact cell_of_heap hE 4
      | 5, hu => simp at hu; subst hu; exact cell_of_heap hE 5) (fun u hu => by
      simp at hu
      rcases hu with rfl | rfl | rfl | rfl | rfl | rfl <;> rfl) (by have := HRp.out; unfold maxLen; omega) (by have := HRp.out; omega) St2.out.size
    have hnx := pls_plain (m := ⟨mk, mn, ma, mb, mc, kc⟩) St2.out hown hgrow hat
    refine till_cut (v := vp2) (w1 := X3) rfl (by kernel_rfl) rfl (append_runN (s := .tmp 91) (x := .tmp 93) (t := 24) rfl rfl rfl hrun) (by simp [go_sem]; exact rfl) ?_
    refine any_stage (fun _ => True) ?_
    have hnbk : X3.heap[Pb]? = X2.heap[Pb]? := hgrow.block Pb (heap_lt St2.out.blk) (fun e => (St2.out.apart St2.out.blk) (by decide) e.symm)
    have hb3 := hnbk.trans St2.out.blk
    have d1 := cell_of_heap hb3 1
    have w1 := frozen_of_heap hb3 1
    simp at d1
    obtain ⟨ad2, cp2, hv2⟩ := own_slice hown
    subst hv2
    refine stage_make (k := 8) (v := .pointer (some ⟨Pb, 0, none⟩)) (w1 := X3) rfl (by kernel_rfl) rfl (by simp [go_sem]) trivial (by simp [go_sem]; exact rfl) ?_
    refine stage_make (k := 9) (v := .pointer (some ⟨Pb, 1, none⟩)) (w1 := X3) rfl (by kernel_rfl) rfl (by simp [go_sem]) trivial (by simp [go_sem]; exact rfl) ?_
    refine stage_skip (k := 10) rfl (w1 := X3.setCell ⟨Pb, 1, none⟩ (.slice ad2 (s.plain.length + 1) cp2)) rfl (by kernel_rfl) rfl (by simp [go_sem, d1, w1]) trivial ?_
    refine stage_end (by kernel_rfl) ?_
    have Fn0 : Free Pb W.heap.size (.slice adp s.plain.length cpp) (.slice none 0 0) Y := ⟨by omega, by have := St0.out.nb; have := HSt.out.size; omega, Vap.out, by simp [Value.ownBlock]⟩
    have g2 := Fn0.below hKx
    have g3 := g2.1.step hnx.2.1 hnx.2.2 (Or.inl rfl)
    have HFn := hid (And.intro g3.1 (g3.2.trans (g2.2.trans HBn.out)))
    have st3 := hid hnx.1
    have fr3 := hid ((Fr0.out.trans (Or.inl rfl) (Nfr.of_below hKx)).trans (Or.inl rfl) hnx.2.1)
    have mv3 : Hid (Movd W (.slice adp s.plain.length cpp) (.slice ad2 (s.plain.length + 1) cp2)) := by
      rcases hnx.2.2 with h | ⟨q, h, hq⟩
      · exact Or.inl h
      · exact Or.inr ⟨q, h, by have := Fr0.out.size; have := hKx.size; omega⟩
    have HFv3 := hid ((HFv0.out.below hKx).frame St2.out hnx.2.1)
    have HTv3 := hid ((HTv0.out.below hKx).frame St2.out hnx.2.1)
    have HNw3 := hid (((namesT_owns O0.out).below hKx).frame St2.out hnx.2.1)
    clear hnx hrun hown hgrow hat hE hKx hi hz0 hz1 hz2 hnbk hb3 d1 w1 St2 St0 Fr0 O0 HFv0 HTv0 HBn HBx Vap hL1 Fn0 g2 g3 hPl hxl HRp
    generalize X3.setCell ⟨Pb, 1, none⟩ (.slice ad2 (s.plain.length + 1) cp2) = Z at *
    have HTG2 : Hid (kidsS ⟨mk, mn, a, bb, cc, kc⟩ (renZ ⟨mk, mn, a, bb, cc, kc⟩ sc s.made) 0 k sc (stepS ⟨mk, mn, a, bb, cc, kc⟩ sc s) = TG) := HTG
    have HS8 : Hid (Pls W0 Pb (.slice (some ⟨b, off, none⟩) len cap) (stepS ⟨mk, mn, a, bb, cc, kc⟩ sc s) (.slice ad2 (s.plain.length + 1) cp2) Z) := st3.out.free (by unfold stepS; dsimp only; rw [HMr.out]) (by unfold stepS; rfl)
    have HRm8 : Hid (Room k.flat.length (stepS ⟨mk, mn, a, bb, cc, kc⟩ sc s)) := by
      have h1 := HRm.out.plain
      have h2 := HRm.out.free
      have h3 := HRm.out.made
      have h4 := lostZ_len ⟨mk, mn, a, bb, cc, kc⟩ sc
      have h5 := makesZ_le mk
      unfold stepS
      refine ⟨?_, ?_, ?_⟩
      · simp only [List.length_append, List.length_cons, List.length_nil]
        omega
      · simp only [List.length_append]
        omega
      · dsimp only
        omega
    generalize stepS ⟨mk, mn, a, bb, cc, kc⟩ sc s = s8 at *
    obtain ⟨nad, ncp, hnw⟩ := HNw3.out.slice
    rw [newsZ_len] at hnw
    subst hnw
    clear st3 HTG HMr HRm
    go_wp2_with fail
    rw [wrap_succ (by have := HPl.out; have := HM.out; omega)]
    generalize p + 1 = p1 at *
    go_loopw [14, 15, 16] (fun q i _ wr => ∃ (q' i' : Nat) (r : Fo) (s' : Wst) (vo' : Value), q = .int .i64 q' ∧ i = .int .i64 i' ∧ Hid (ns.drop q' = r.flat ++ suf ∧ r.wf ∧ i' + r.count = kc ∧ r.flat.length < N + 1 ∧ r.flat.length ≤ k.flat.length) ∧ Hid (Room r.flat.length s' ∧ kidsS ⟨mk, mn, a, bb, cc, kc⟩ (renZ ⟨mk, mn, a, bb, cc, kc⟩ sc s.made) i' r sc s' = TG) ∧ Hid (Pls W0 Pb (.slice (some ⟨b, off, none⟩) len cap) s' vo' wr ∧ Pfr Pb (.slice adp s.plain.length cpp) W wr ∧ Movd W (.slice adp s.plain.length cpp) vo') ∧ Hid (NamesT wr (.slice adf sc.length cpf) (fromZ sc) ∧ NamesT wr (.slice adt sc.length cpt) (toZ sc) ∧ NamesT wr (.slice nad (makesZ mk) ncp) (newsZ mk s.made)) ∧ Hid (Free Pb W.heap.size vo' (.slice none 0 0) wr ∧ wr.heap[W.heap.size]? = some (.cells #[.int .i64 mk, .int .i64 mn, .string a, .string bb, .string cc, .int .i64 (kc : Int)] 42))) (fun _ i _ _ => kc - (intOf i).toNat)
    case atStart => exact ⟨p1, 0, k, s8, _, rfl, rfl, ⟨HP1.out, HWf.out, by rw [HKc.out]; omega, HNl.out, Nat.le_refl _⟩, ⟨HRm8.out, HTG2.out⟩, ⟨HS8.out, fr3.out, mv3.out⟩, ⟨HFv3.out, HTv3.out, HNw3.out⟩, HFn⟩
    case round =>
      obtain ⟨q', i', r, s', vo', rfl, rfl, HR, HRT, HPs, HNs, HFr⟩ := hrel
      have x5 := cell_of_heap HFr.out.2 5
      simp at x5
      cases r with
      | none =>
        obtain ⟨_, _, h1, _, _⟩ := HR.out
        have h2 := HRT.out.2
        simp only [Fo.count, kidsS] at h1 h2
        have h1' : i' = kc := by omega
        subst h1'
        subst h2
        clear HR h1 HRT
        go_wp2_with fail
        go_end0
        exact ⟨⟨_, rfl⟩, _, HPs.out.1, HPs.out.2.1, HPs.out.2.2⟩
      | tree n' k' r' =>
        obtain ⟨h0, hw, h1, h3, h3'⟩ := HR.out
        obtain ⟨hw0', hw1, hw2⟩ := hw
        simp only [Fo.count, Fo.flat, List.length_cons, List.length_append] at h1 h3 h3'
        simp only [Fo.flat, List.cons_append, List.append_assoc] at h0
        obtain ⟨hql, hqn, hq1⟩ := at_drop h0
        have hend : treeEnd ns q' = _ := treeEnd_at h0 hw0' hw1
        have hnew := drop_past hq1
        have hkt := HRT.out.2
        rw [kidsS_tree] at hkt
        have hi : (i' : Int) < (kc : Int) := by omega
        have hkl := knownZ_len ⟨mk, mn, a, bb, cc, kc⟩ i'
        have hkn := known_news ⟨mk, mn, a, bb, cc, kc⟩ sc s.made i'
        have hof := open_from ⟨mk, mn, a, bb, cc, kc⟩ sc s.made i' sc
        have hrm := HRT.out.1
        simp only [Fo.flat, List.length_cons, List.length_append] at hrm
        have hrm1 : Room (k'.flat.length + 1) s' := ⟨by have := hrm.plain; omega, by have := hrm.free; omega, by have := hrm.made; omega⟩
        have hrm2 : Room r'.flat.length (walkS n' k' (openS ⟨mk, mn, a, bb, cc, kc⟩ (renZ ⟨mk, mn, a, bb, cc, kc⟩ sc s.made) i' sc) s') := walkS_room (by
          have e : 1 + k'.flat.length + r'.flat.length = k'.flat.length + r'.flat.length + 1 := by omega
          rw [e]
          exact hrm)
        have HNx : Hid ((ns.drop (q' + 1 + k'.flat.length) = r'.flat ++ suf ∧ r'.wf ∧ i' + 1 + r'.count = kc ∧ r'.flat.length < N + 1 ∧ r'.flat.length ≤ k.flat.length) ∧ Room r'.flat.length (walkS n' k' (openS ⟨mk, mn, a, bb, cc, kc⟩ (renZ ⟨mk, mn, a, bb, cc, kc⟩ sc s.made) i' sc) s') ∧ kidsS ⟨mk, mn, a, bb, cc, kc⟩ (renZ ⟨mk, mn, a, bb, cc, kc⟩ sc s.made) (i' + 1) r' sc (walkS n' k' (openS ⟨mk, mn, a, bb, cc, kc⟩ (renZ ⟨mk, mn, a, bb, cc, kc⟩ sc s.made) i' sc) s') = TG) := ⟨⟨hnew, hw2, by omega, by omega, by omega⟩, hrm2, hkt⟩
        have hsl2 : (openS ⟨mk, mn, a, bb, cc, kc⟩ (renZ ⟨mk, mn, a, bb, cc, kc⟩ sc s.made) i' sc).length + 2 * k'.flat.length ≤ 1000 := by
          rw [← from_len, hof.1, List.length_append, from_len]
          have := HSl.out
          omega
        have HC := hid (fun (X : World) (vo'' fv tv : Value) (h1 : Pls W0 Pb (.slice (some ⟨b, off, none⟩) ns.length cap) s' vo'' X) (h2 : NamesT X fv (fromZ sc ++ knownZ ⟨mk, mn, a, bb, cc, kc⟩ i')) (h3 : NamesT X tv (toZ sc ++ (newsZ mk s.made).take (knownZ ⟨mk, mn, a, bb, cc, kc⟩ i').length)) => HIH.out n' k' (r'.flat ++ suf) q' (openS ⟨mk, mn, a, bb, cc, kc⟩ (renZ ⟨mk, mn, a, bb, cc, kc⟩ sc s.made) i' sc) s' vo'' fv tv X h0 hw0' hw1 (by omega) h1 (by rw [hof.1]; exact h2) (by rw [hof.2]; exact h3) hsl2 hrm1)
        rw [Hlen.out] at HC
        have HQ := hid (And.intro hql hend)
        have HBi := hid (fun X => binds_calls ⟨mk, mn, a, bb, cc, kc⟩ i' X (fun e => by have := HK9.out e; omega))
        unfold ndV at HBi
        dsimp only at HBi
        have HKn := hid (And.intro hkl hkn.2)
        obtain ⟨KS, hKS⟩ : ∃ KS, knownZ ⟨mk, mn, a, bb, cc, kc⟩ i' = KS := ⟨_, rfl⟩
        rw [hKS] at HC HBi HKn
        generalize walkS n' k' (openS ⟨mk, mn, a, bb, cc, kc⟩ (renZ ⟨mk, mn, a, bb, cc, kc⟩ sc s.made) i' sc) s' = s9 at *
        dsimp only at HKn
        have x0 := cell_of_heap HFr.out.2 0
        have x1 := cell_of_heap HFr.out.2 1
        have x2 := cell_of_heap HFr.out.2 2
        have x3 := cell_of_heap HFr.out.2 3
        have x4 := cell_of_heap HFr.out.2 4
        simp at x0 x1 x2 x3 x4
        clear HR HRT h0 hw0' hw1 hw2 hql hqn hq1 hend hnew hkt h1 h3 h3' hkl hkn hof hrm hrm1 hrm2 hsl2 hKS
        go_wp2_with fail
        refine (HBi.out wr).mono ?_
        rintro e W9 ⟨sv, rfl, hnv, hb9⟩
        obtain ⟨adb, cpb, rfl⟩ := hnv.slice
        have HNv := hid hnv
        have Ps9 := hid (HPs.out.1.below hb9)
        have Fp9 := hid (HPs.out.2.1.trans HPs.out.2.2 (Nfr.of_below hb9))
        have Ns9 := hid (And.intro (HNs.out.1.below hb9) (And.intro (HNs.out.2.1.below hb9) (HNs.out.2.2.below hb9)))
        have Fn9 := hid (HFr.out.1.below hb9)
        have HNd9 := hid (Fn9.out.2.trans HFr.out.2)
        have Mv9 := hid HPs.out.2.2
        clear hnv hb9 HPs HNs HFr HBi x0 x1 x2 x3 x4 x5
        obtain ⟨v121, hsl, hsn⟩ := take_slice (l := KS.length) Ns9.out.2.2 (by rw [newsZ_len]; exact HKn.out.2)
        have hD : Below W9.heap.size W9 W9.drew := (Below.refl _ _).drew
        have HBn : Hid ((fromZ sc).length + KS.length ≤ 2000 ∧ (toZ sc).length + ((newsZ mk s.made).take KS.length).length ≤ 2000) := by
          have h1 := HSl.out
          have h2 := HKn.out.1
          refine ⟨by rw [from_len]; omega, ?_⟩
          rw [to_len, List.length_take]
          have : min KS.length (newsZ mk s.made).length ≤ KS.length := Nat.min_le_left _ _
          omega
        have HVf := hid (fun X (h : Below W9.heap.size W9 X) => (Ns9.out.1.below h).names)
        have HVt := hid (fun X (h : Below W9.heap.size W9 X) => (Ns9.out.2.1.below h).names)
        have HVs := hid (fun X (h : Below W9.heap.size W9 X) => HNv.out.below h)
        have HVn := hid hsn
        have HSlo := hid hsl
        clear hsn hsl
        go_upto_region 23 with fail
        refine pick_begin (S := fun _ => True) (by kernel_rfl) rfl rfl ?_
        refine pick_op (i := 0) (v := .pointer (some ⟨Pb, 0, none⟩)) (by kernel_rfl) rfl (by kernel_rfl) (by kernel_rfl) rfl rfl (fun w' _ => by simp [go_sem]) trivial (by simp [go_sem]; exact rfl) ?_
        refine pick_op (i := 1) (v := .int .i64 (q' : Int)) (by kernel_rfl) rfl (by kernel_rfl) (by kernel_rfl) rfl rfl (fun w' _ => by simp [go_sem]) trivial (by simp [go_sem]; exact rfl) ?_
        refine pick_op (i := 3) (v := .slice adf sc.length cpf) (by kernel_rfl) rfl (by kernel_rfl) (by kernel_rfl) rfl rfl (fun w' _ => by simp [go_sem]) trivial (by simp [go_sem]; exact rfl) ?_
        refine pick_op (i := 5) (v := .slice adb KS.length cpb) (by kernel_rfl) rfl (by kernel_rfl) (by kernel_rfl) rfl rfl (fun w' _ => by simp [go_sem]) trivial (by simp [go_sem]; exact rfl) ?_
        refine pick_op (i := 8) (v := .slice adt sc.length cpt) (by kernel_rfl) rfl (by kernel_rfl) (by kernel_rfl) rfl rfl (fun w' _ => by simp [go_sem]) trivial (by simp [go_sem]; exact rfl) ?_
        refine pick_op (i := 10) (v := .slice nad (makesZ mk) ncp) (by kernel_rfl) rfl (by kernel_rfl) (by kernel_rfl) rfl rfl (fun w' _ => by simp [go_sem]) trivial (by simp [go_sem]; exact rfl) ?_
        refine pick_op (i := 11) (v := .slice adb KS.length cpb) (by kernel_rfl) rfl (by kernel_rfl) (by kernel_rfl) rfl rfl (fun w' _ => by simp [go_sem]) trivial (by simp [go_sem]; exact rfl) ?_
        refine pick_op (i := 12) (v := .int .i64 (KS.length : Int)) (by kernel_rfl) rfl (by kernel_rfl) (by kernel_rfl) rfl rfl (fun w' _ => by simp [go_sem]) trivial (by simp [go_sem]; exact rfl) ?_
        refine pick_op (i := 13) (v := v121) (by kernel_rfl) rfl (by kernel_rfl) (by kernel_rfl) rfl rfl (fun w' _ => HSlo.out _ _ (.tmp 118) (.tmp 120) rfl rfl rfl w') trivial (by simp [go_sem]; exact rfl) ?_
        generalize W9.drew = D at *
        refine pick_fork (i := 2) (j := 7) (by kernel_rfl) ?_ ?_
        · refine ⟨_, .slice (some ⟨D.heap.size, 0, none⟩) 0 0, D.alloc (.cells #[] 9), rfl, rfl, by simp [go_sem], trivial, ?_⟩
          refine pick_frame (by simp [go_sem]; exact rfl) ?_
          have own2 := own_empty D hD.size
          have hX1 := hD.alloc hD.size (.cells #[] 9)
          generalize D.alloc (.cells #[] 9) = X1 at *
          refine pick_fork (i := 4) (j := 7) (by kernel_rfl) ?_ ?_
          · obtain ⟨v112, X2, hr2, own3, hb2'⟩ := own_app own2 30 (HVf.out X1 hX1) (by have := HBn.out; simp; omega) hX1.size
            have hX2 := hb2' W9 hX1
            refine ⟨_, v112, X2, rfl, rfl, append_runN (s := .tmp 110) (x := .tmp 111) (t := 30) rfl rfl rfl hr2, trivial, ?_⟩
            refine pick_frame (by simp [go_sem]; exact rfl) ?_
            clear hr2 hb2'
            refine pick_fork (i := 6) (j := 7) (by kernel_rfl) ?_ ?_
            · obtain ⟨v114, X3, hr3, own4, hb3⟩ := own_app own3 30 (HVs.out X2 hX2) (by have := HBn.out; simp; omega) hX2.size
              have hX3 := hb3 W9 hX2
              refine ⟨_, v114, X3, rfl, rfl, append_runN (s := .tmp 112) (x := .tmp 113) (t := 30) rfl rfl rfl hr3, trivial, ?_⟩
              refine pick_frame (by simp [go_sem]; exact rfl) ?_
              clear hr3 hb3
              refine pick_make (i := 7) (v := .slice (some ⟨X3.heap.size, 0, none⟩) 0 0) (w1 := X3.alloc (.cells #[] 9)) rfl (by kernel_rfl) rfl rfl (by simp [go_sem]) trivial (by simp [go_sem]; exact rfl) ?_
              have T4 := two_new own4 hX3.size
              have hX4 := hX3.alloc hX3.size (.cells #[] 9)
              generalize X3.alloc (.cells #[] 9) = X4 at *
              rw [List.nil_append] at T4
              obtain ⟨v117, Xa, hra, Ta, hba⟩ := T4.symm.app 30 (HVt.out X4 hX4) (by have := HBn.out; simp; omega) hX4.size
              have hXa := hba W9 hX4
              refine pick_make (i := 9) (v := v117) (w1 := Xa) rfl (by kernel_rfl) rfl rfl (append_runN (s := .tmp 115) (x := .tmp 116) (t := 30) rfl rfl rfl hra) trivial (by simp [go_sem]; exact rfl) ?_
              rw [List.nil_append] at Ta
              clear hra hba T4
              obtain ⟨v122, Xb, hrb, Tb, hbb⟩ := Ta.app 30 (HVn.out Xa hXa) (by have := HBn.out; omega) hXa.size
              have hXb := hbb W9 hXa
              refine pick_make (i := 14) (v := v122) (w1 := Xb) rfl (by kernel_rfl) rfl rfl (append_runN (s := .tmp 117) (x := .tmp 121) (t := 30) rfl rfl rfl hrb) trivial (by simp [go_sem]; exact rfl) ?_
              clear hrb hbb Ta
              refine pick_enter (i := 15) (f := 19) (args := #[.pointer (some ⟨Pb, 0, none⟩), .int .i64 (q' : Int), v114, v122]) rfl (by kernel_rfl) rfl rfl (by simp [go_sem]) ?_
              refine (HC.out Xb vo' v114 v122 (Ps9.out.below hXb) (namesT_owns Tb.two) (namesT_owns Tb.one)).mono ?_
              rintro e Xc ⟨⟨x, rfl⟩, vo2, stc, frc, mvc⟩
              refine ⟨x, rfl, trivial, ?_⟩
              refine pick_frame (by simp [go_sem]; exact rfl) ?_
              refine pick_end (by kernel_rfl) ?_
              have NsC := hid (And.intro ((Ns9.out.1.below hXb).frame (Ps9.out.below hXb) frc) (And.intro ((Ns9.out.2.1.below hXb).frame (Ps9.out.below hXb) frc) ((Ns9.out.2.2.below hXb).frame (Ps9.out.below hXb) frc)))
              have f1 := Fn9.out.1.below hXb
              have f2 := f1.1.step frc mvc (Or.inl rfl)
              have FnC := hid (And.intro f2.1 (f2.2.trans (f1.2.trans HNd9.out)))
              have FpC := hid ((Fp9.out.trans Mv9.out (Nfr.of_below hXb)).trans Mv9.out frc)
              have MvC := hid (Mv9.out.trans (Nat.le_trans Fp9.out.size hXb.size) mvc)
              have StC := hid stc
              have d0' := cell_of_heap stc.blk 0
              simp at d0'
              have hT := specEnd_calls b off cap ns q' Xc (HNd.out Xc stc.kept) (by have := HM.out; omega)
              rw [HQ.out.2, Hlen.out] at hT
              have HT := hid hT
              have hi9 : i' ≤ 1048576 := by have := HNx.out.1.2.2.1; have := HKc.out; have := HCt.out; omega
              clear hT stc frc mvc f1 f2 Tb HC Ps9 Fp9 Ns9 Fn9 HNd9 Mv9
              generalize q' + 1 + k'.flat.length = ee at *
              go_wp2_with fail
              refine HT.out.mono ?_
              rintro e w6 ⟨rfl, rfl⟩
              go_wp2_with fail
              try rw [wrap_succ hi9]
              exact ⟨⟨ee, i' + 1, r', s9, vo2, rfl, rfl, HNx.out.1, HNx.out.2, ⟨StC.out, FpC.out, MvC.out⟩, NsC, FnC⟩, lt_step hi⟩
            · refine ⟨_, .slice (some ⟨X2.heap.size, 0, none⟩) 0 0, X2.alloc (.cells #[] 9), rfl, rfl, by simp [go_sem], trivial, ?_⟩
              refine pick_frame (by simp [go_sem]; exact rfl) ?_
              have T3 := two_new own3 hX2.size
              have hX3 := hX2.alloc hX2.size (.cells #[] 9)
              generalize X2.alloc (.cells #[] 9) = X3 at *
              obtain ⟨v114, X4, hr4, T4, hb4⟩ := T3.app 30 (HVs.out X3 hX3) (by have := HBn.out; simp; omega) hX3.size
              have hX4 := hb4 W9 hX3
              refine pick_make (i := 6) (v := v114) (w1 := X4) rfl (by kernel_rfl) rfl rfl (append_runN (s := .tmp 112) (x := .tmp 113) (t := 30) rfl rfl rfl hr4) trivial (by simp [go_sem]; exact rfl) ?_
              clear hr4 hb4 T3
              rw [List.nil_append] at T4
              obtain ⟨v117, Xa, hra, Ta, hba⟩ := T4.symm.app 30 (HVt.out X4 hX4) (by have := HBn.out; simp; omega) hX4.size
              have hXa := hba W9 hX4
              refine pick_make (i := 9) (v := v117) (w1 := Xa) rfl (by kernel_rfl) rfl rfl (append_runN (s := .tmp 115) (x := .tmp 116) (t := 30) rfl rfl rfl hra) trivial (by simp [go_sem]; exact rfl) ?_
              rw [List.nil_append] at Ta
              clear hra hba T4
              obtain ⟨v122, Xb, hrb, Tb, hbb⟩ := Ta.app 30 (HVn.out Xa hXa) (by have := HBn.out; omega) hXa.size
              have hXb := hbb W9 hXa
              refine pick_make (i := 14) (v := v122) (w1 := Xb) rfl (by kernel_rfl) rfl rfl (append_runN (s := .tmp 117) (x := .tmp 121) (t := 30) rfl rfl rfl hrb) trivial (by simp [go_sem]; exact rfl) ?_
              clear hrb hbb Ta
              refine pick_enter (i := 15) (f := 19) (args := #[.pointer (some ⟨Pb, 0, none⟩), .int .i64 (q' : Int), v114, v122]) rfl (by kernel_rfl) rfl rfl (by simp [go_sem]) ?_
              refine (HC.out Xb vo' v114 v122 (Ps9.out.below hXb) (namesT_owns Tb.two) (namesT_owns Tb.one)).mono ?_
              rintro e Xc ⟨⟨x, rfl⟩, vo2, stc, frc, mvc⟩
              refine ⟨x, rfl, trivial, ?_⟩
              refine pick_frame (by simp [go_sem]; exact rfl) ?_
              refine pick_end (by kernel_rfl) ?_
              have NsC := hid (And.intro ((Ns9.out.1.below hXb).frame (Ps9.out.below hXb) frc) (And.intro ((Ns9.out.2.1.below hXb).frame (Ps9.out.below hXb) frc) ((Ns9.out.2.2.below hXb).frame (Ps9.out.below hXb) frc)))
              have f1 := Fn9.out.1.below hXb
              have f2 := f1.1.step frc mvc (Or.inl rfl)
              have FnC := hid (And.intro f2.1 (f2.2.trans (f1.2.trans HNd9.out)))
              have FpC := hid ((Fp9.out.trans Mv9.out (Nfr.of_below hXb)).trans Mv9.out frc)
              have MvC := hid (Mv9.out.trans (Nat.le_trans Fp9.out.size hXb.size) mvc)
              have StC := hid stc
              have d0' := cell_of_heap stc.blk 0
              simp at d0'
              have hT := specEnd_calls b off cap ns q' Xc (HNd.out Xc stc.kept) (by have := HM.out; omega)
              rw [HQ.out.2, Hlen.out] at hT
              have HT := hid hT
              have hi9 : i' ≤ 1048576 := by have := HNx.out.1.2.2.1; have := HKc.out; have := HCt.out; omega
              clear hT stc frc mvc f1 f2 Tb HC Ps9 Fp9 Ns9 Fn9 HNd9 Mv9
              generalize q' + 1 + k'.flat.length = ee at *
              go_wp2_with fail
              refine HT.out.mono ?_
              rintro e w6 ⟨rfl, rfl⟩
              go_wp2_with fail
              try rw [wrap_succ hi9]
              exact ⟨⟨ee, i' + 1, r', s9, vo2, rfl, rfl, HNx.out.1, HNx.out.2, ⟨StC.out, FpC.out, MvC.out⟩, NsC, FnC⟩, lt_step hi⟩
          · refine ⟨_, .slice (some ⟨X1.heap.size, 0, none⟩) 0 0, X1.alloc (.cells #[] 9), rfl, rfl, by simp [go_sem], trivial, ?_⟩
            refine pick_frame (by simp [go_sem]; exact rfl) ?_
            have T := two_new own2 hX1.size
            have hX2 := hX1.alloc hX1.size (.cells #[] 9)
            generalize X1.alloc (.cells #[] 9) = X2 at *
            obtain ⟨v112, X3, hr3, T3, hb3⟩ := T.app 30 (HVf.out X2 hX2) (by have := HBn.out; simp; omega) hX2.size
            have hX3 := hb3 W9 hX2
            refine pick_make (i := 4) (v := v112) (w1 := X3) rfl (by kernel_rfl) rfl rfl (append_runN (s := .tmp 110) (x := .tmp 111) (t := 30) rfl rfl rfl hr3) trivial (by simp [go_sem]; exact rfl) ?_
            clear hr3 hb3 T
            obtain ⟨v114, X4, hr4, T4, hb4⟩ := T3.app 30 (HVs.out X3 hX3) (by have := HBn.out; simp; omega) hX3.size
            have hX4 := hb4 W9 hX3
            refine pick_make (i := 6) (v := v114) (w1 := X4) rfl (by kernel_rfl) rfl rfl (append_runN (s := .tmp 112) (x := .tmp 113) (t := 30) rfl rfl rfl hr4) trivial (by simp [go_sem]; exact rfl) ?_
            clear hr4 hb4 T3
            rw [List.nil_append] at T4
            obtain ⟨v117, Xa, hra, Ta, hba⟩ := T4.symm.app 30 (HVt.out X4 hX4) (by have := HBn.out; simp; omega) hX4.size
            have hXa := hba W9 hX4
            refine pick_make (i := 9) (v := v117) (w1 := Xa) rfl (by kernel_rfl) rfl rfl (append_runN (s := .tmp 115) (x := .tmp 116) (t := 30) rfl rfl rfl hra) trivial (by simp [go_sem]; exact rfl) ?_
            rw [List.nil_append] at Ta
            clear hra hba T4
            obtain ⟨v122, Xb, hrb, Tb, hbb⟩ := Ta.app 30 (HVn.out Xa hXa) (by have := HBn.out; omega) hXa.size
            have hXb := hbb W9 hXa
            refine pick_make (i := 14) (v := v122) (w1 := Xb) rfl (by kernel_rfl) rfl rfl (append_runN (s := .tmp 117) (x := .tmp 121) (t := 30) rfl rfl rfl hrb) trivial (by simp [go_sem]; exact rfl) ?_
            clear hrb hbb Ta
            refine pick_enter (i := 15) (f := 19) (args := #[.pointer (some ⟨Pb, 0, none⟩), .int .i64 (q' : Int), v114, v122]) rfl (by kernel_rfl) rfl rfl (by simp [go_sem]) ?_
            refine (HC.out Xb vo' v114 v122 (Ps9.out.below hXb) (namesT_owns Tb.two) (namesT_owns Tb.one)).mono ?_
            rintro e Xc ⟨⟨x, rfl⟩, vo2, stc, frc, mvc⟩
            refine ⟨x, rfl, trivial, ?_⟩
            refine pick_frame (by simp [go_sem]; exact rfl) ?_
            refine pick_end (by kernel_rfl) ?_
            have NsC := hid (And.intro ((Ns9.out.1.below hXb).frame (Ps9.out.below hXb) frc) (And.intro ((Ns9.out.2.1.below hXb).frame (Ps9.out.below hXb) frc) ((Ns9.out.2.2.below hXb).frame (Ps9.out.below hXb) frc)))
            have f1 := Fn9.out.1.below hXb
            have f2 := f1.1.step frc mvc (Or.inl rfl)
            have FnC := hid (And.intro f2.1 (f2.2.trans (f1.2.trans HNd9.out)))
            have FpC := hid ((Fp9.out.trans Mv9.out (Nfr.of_below hXb)).trans Mv9.out frc)
            have MvC := hid (Mv9.out.trans (Nat.le_trans Fp9.out.size hXb.size) mvc)
            have StC := hid stc
            have d0' := cell_of_heap stc.blk 0
            simp at d0'
            have hT := specEnd_calls b off cap ns q' Xc (HNd.out Xc stc.kept) (by have := HM.out; omega)
            rw [HQ.out.2, Hlen.out] at hT
            have HT := hid hT
            have hi9 : i' ≤ 1048576 := by have := HNx.out.1.2.2.1; have := HKc.out; have := HCt.out; omega
            clear hT stc frc mvc f1 f2 Tb HC Ps9 Fp9 Ns9 Fn9 HNd9 Mv9
            generalize q' + 1 + k'.flat.length = ee at *
            go_wp2_with fail
            refine HT.out.mono ?_
            rintro e w6 ⟨rfl, rfl⟩
            go_wp2_with fail
            try rw [wrap_succ hi9]
            exact ⟨⟨ee, i' + 1, r', s9, vo2, rfl, rfl, HNx.out.1, HNx.out.2, ⟨StC.out, FpC.out, MvC.out⟩, NsC, FnC⟩, lt_step hi⟩
        · refine ⟨_, .slice (some ⟨D.heap.size, 0, none⟩) 0 0, D.alloc (.cells #[] 9), rfl, rfl, by simp [go_sem], trivial, ?_⟩
          refine pick_frame (by simp [go_sem]; exact rfl) ?_
          have own7 := own_empty D hD.size
          have hX1 := hD.alloc hD.size (.cells #[] 9)
          generalize D.alloc (.cells #[] 9) = X1 at *
          refine pick_make (i := 2) (v := .slice (some ⟨X1.heap.size, 0, none⟩) 0 0) (w1 := X1.alloc (.cells #[] 9)) rfl (by kernel_rfl) rfl rfl (by simp [go_sem]) trivial (by simp [go_sem]; exact rfl) ?_
          have T := (two_new own7 hX1.size).symm
          have hX2 := hX1.alloc hX1.size (.cells #[] 9)
          generalize X1.alloc (.cells #[] 9) = X2 at *
          obtain ⟨v112, X3, hr3, T3, hb3⟩ := T.app 30 (HVf.out X2 hX2) (by have := HBn.out; simp; omega) hX2.size
          have hX3 := hb3 W9 hX2
          refine pick_make (i := 4) (v := v112) (w1 := X3) rfl (by kernel_rfl) rfl rfl (append_runN (s := .tmp 110) (x := .tmp 111) (t := 30) rfl rfl rfl hr3) trivial (by simp [go_sem]; exact rfl) ?_
          clear hr3 hb3 T
          obtain ⟨v114, X4, hr4, T4, hb4⟩ := T3.app 30 (HVs.out X3 hX3) (by have := HBn.out; simp; omega) hX3.size
          have hX4 := hb4 W9 hX3
          refine pick_make (i := 6) (v := v114) (w1 := X4) rfl (by kernel_rfl) rfl rfl (append_runN (s := .tmp 112) (x := .tmp 113) (t := 30) rfl rfl rfl hr4) trivial (by simp [go_sem]; exact rfl) ?_
          clear hr4 hb4 T3
          rw [List.nil_append] at T4
          obtain ⟨v117, Xa, hra, Ta, hba⟩ := T4.symm.app 30 (HVt.out X4 hX4) (by have := HBn.out; simp; omega) hX4.size
          have hXa := hba W9 hX4
          refine pick_make (i := 9) (v := v117) (w1 := Xa) rfl (by kernel_rfl) rfl rfl (append_runN (s := .tmp 115) (x := .tmp 116) (t := 30) rfl rfl rfl hra) trivial (by simp [go_sem]; exact rfl) ?_
          rw [List.nil_append] at Ta
          clear hra hba T4
          obtain ⟨v122, Xb, hrb, Tb, hbb⟩ := Ta.app 30 (HVn.out Xa hXa) (by have := HBn.out; omega) hXa.size
          have hXb := hbb W9 hXa
          refine pick_make (i := 14) (v := v122) (w1 := Xb) rfl (by kernel_rfl) rfl rfl (append_runN (s := .tmp 117) (x := .tmp 121) (t := 30) rfl rfl rfl hrb) trivial (by simp [go_sem]; exact rfl) ?_
          clear hrb hbb Ta
          refine pick_enter (i := 15) (f := 19) (args := #[.pointer (some ⟨Pb, 0, none⟩), .int .i64 (q' : Int), v114, v122]) rfl (by kernel_rfl) rfl rfl (by simp [go_sem]) ?_
          refine (HC.out Xb vo' v114 v122 (Ps9.out.below hXb) (namesT_owns Tb.two) (namesT_owns Tb.one)).mono ?_
          rintro e Xc ⟨⟨x, rfl⟩, vo2, stc, frc, mvc⟩
          refine ⟨x, rfl, trivial, ?_⟩
          refine pick_frame (by simp [go_sem]; exact rfl) ?_
          refine pick_end (by kernel_rfl) ?_
          have NsC := hid (And.intro ((Ns9.out.1.below hXb).frame (Ps9.out.below hXb) frc) (And.intro ((Ns9.out.2.1.below hXb).frame (Ps9.out.below hXb) frc) ((Ns9.out.2.2.below hXb).frame (Ps9.out.below hXb) frc)))
          have f1 := Fn9.out.1.below hXb
          have f2 := f1.1.step frc mvc (Or.inl rfl)
          have FnC := hid (And.intro f2.1 (f2.2.trans (f1.2.trans HNd9.out)))
          have FpC := hid ((Fp9.out.trans Mv9.out (Nfr.of_below hXb)).trans Mv9.out frc)
          have MvC := hid (Mv9.out.trans (Nat.le_trans Fp9.out.size hXb.size) mvc)
          have StC := hid stc
          have d0' := cell_of_heap stc.blk 0
          simp at d0'
          have hT := specEnd_calls b off cap ns q' Xc (HNd.out Xc stc.kept) (by have := HM.out; omega)
          rw [HQ.out.2, Hlen.out] at hT
          have HT := hid hT
          have hi9 : i' ≤ 1048576 := by have := HNx.out.1.2.2.1; have := HKc.out; have := HCt.out; omega
          clear hT stc frc mvc f1 f2 Tb HC Ps9 Fp9 Ns9 Fn9 HNd9 Mv9
          generalize q' + 1 + k'.flat.length = ee at *
          go_wp2_with fail
          refine HT.out.mono ?_
          rintro e w6 ⟨rfl, rfl⟩
          go_wp2_with fail
          try rw [wrap_succ hi9]
          exact ⟨⟨ee, i' + 1, r', s9, vo2, rfl, rfl, HNx.out.1, HNx.out.2, ⟨StC.out, FpC.out, MvC.out⟩, NsC, FnC⟩, lt_step hi⟩
end Go.Proofs.YtlhdicichdihfaaGreatDoor

/- The specification's TreePlain. -/
namespace Go.Proofs.YtlhdicichdihfaaGreatDoor
open Go.RowKit Go.Deep

theorem free_nil (s : Wst) : freeOf s = [] ↔ s.free = [] := by
  unfold freeOf
  constructor
  · intro h
    cases hf : s.free with
    | nil => rfl
    | cons x r =>
      exfalso
      have := (fold_sorted (textsOf s.free) [] List.Pairwise.nil).2 x.data.toList
      rw [h] at this
      have h2 := this.2 (Or.inl (by rw [hf]; unfold textsOf; simp))
      cases h2
  · intro h
    rw [h]
    rfl

theorem pls_start {w3 : World} (tv : Value) : Pls (w3.alloc (.cells #[tv, .slice none 0 0, .int .i64 0] 40)) w3.heap.size tv ⟨[], [], 0⟩ (.slice none 0 0) (w3.alloc (.cells #[tv, .slice none 0 0, .int .i64 0] 40)) :=
  ⟨(MapKept.heap_alloc w3 _).1, World.ownsRow_nil _ _ _ _, rfl, rfl, rfl, Nat.le_refl _, fun _ _ _ => rfl, by simp⟩

set_option maxHeartbeats 2000000 in
set_option maxRecDepth 100000 in
theorem specPlain_calls {b off cap : Nat} {ns : List Nd} {n : Nd} {k : Fo} (w : World) (hm : ns.length ≤ 300) (hbw : b < w.heap.size) (hn : NodesAt w b off ns) (hA : SpecAns ns true) (hall : ns.all ownOk = true) (h1 : ns = n :: k.flat) (h2 : n.kids = k.count) (h3 : k.wf) :
    Calls Tryz.prog 6 #[.slice (some ⟨b, off, none⟩) ns.length cap] w fun e w' => ∃ v, e = .returned v ∧ Below w.heap.size w w' ∧ w'.ownsRow w.heap.size 42 6 v (plainOf (wholeW n k)).length (ndRow (plainOf (wholeW n k))) := by
  have hown : ∀ m ∈ ns, ownOk m = true := fun m hm => List.all_eq_true.1 hall m hm
  have hkl : k.flat.length ≤ 300 := by rw [h1, List.length_cons] at hm; omega
  have HT := hid (specTree_calls b off cap ns w true (by omega) hbw hn hA)
  have HF := hid (fun X (hb : Below w.heap.size w X) => specFree_calls (cap := cap) X hm (Nat.lt_of_lt_of_le hbw hb.size) (hn.below hb hbw) hA hall h1 h2 h3)
  have HP := hid (fun X (hb : Below w.heap.size w X) => part_calls (W0 := X.alloc (.cells #[.slice (some ⟨b, off, none⟩) ns.length cap, .slice none 0 0, .int .i64 0] 40)) (Pb := X.heap.size) (cap := cap) hm (fun m hm => (own_kids (hown m hm)).1) (by have := hb.size; simp; omega) (by have := hb.size; omega) ((hn.below hb hbw).below ((Below.refl X.heap.size X).alloc (Nat.le_refl _) _) (Nat.lt_of_lt_of_le hbw hb.size)) (k.flat.length + 1) n k [] 0 [] ⟨[], [], 0⟩ (.slice none 0 0) (.slice none 0 0) (.slice none 0 0) _ (by rw [h1]; simp) h2 h3 (Nat.lt_succ_self _) (pls_start _) (Or.inl ⟨rfl, rfl⟩) (Or.inl ⟨rfl, rfl⟩) (by simp; omega) (room_start hkl))
  clear hn hA hall hown hkl hm
  obtain ⟨len, hlen⟩ : ∃ len, ns.length = len := ⟨_, rfl⟩
  rw [hlen] at HT HF HP ⊢
  clear hlen
  go_enter Tryz.func6, Tryz.ntmps6
  go_wp2_with fail
  refine HT.out.mono ?_
  rintro e w2 ⟨rfl, hb2⟩
  have HB2 := hid hb2
  clear hb2 HT
  go_wp2_with fail
  refine (HF.out w2 HB2.out).mono ?_
  rintro e w3 ⟨u, rfl, hu, hb3⟩
  obtain ⟨ad, cp, rfl⟩ := hu.slice
  have HB3 := hid (HB2.out.trans (hb3.mono HB2.out.size))
  rw [bys_len]
  clear hu hb3 HF HB2
  obtain ⟨L, hL⟩ : ∃ L, (freeOf (wholeW n k)).length = L := ⟨_, rfl⟩
  rw [hL]
  have HL := hid hL
  clear hL
  by_cases h0 : (0 : Int) < (L : Int)
  · have HPl : Hid (plainOf (wholeW n k) = []) := by
      show _ = _
      unfold plainOf
      rw [if_neg]
      intro e
      have := (free_nil _).2 e
      have h4 := HL.out
      rw [this] at h4
      simp at h4
      omega
    go_wp2_with fail
    go_ret
    refine ⟨_, rfl, HB3.out, ?_⟩
    rw [HPl.out]
    exact World.ownsRow_nil _ _ _ _
  · have hfr : (wholeW n k).free = [] := (free_nil _).1 (List.eq_nil_of_length_eq_zero (by have := HL.out; omega))
    have HPl : Hid (plainOf (wholeW n k) = (walkS n k [] ⟨[], [], 0⟩).plain) := by
      show _ = _
      unfold plainOf
      rw [if_pos hfr, walkS_same hfr]
      rfl
    have HC := hid (HP.out w3 HB3.out)
    have hba := HB3.out.alloc HB3.out.size (.cells #[.slice (some ⟨b, off, none⟩) len cap, .slice none 0 0, .int .i64 0] 40)
    have HBa := hid hba
    have hsz := HB3.out.size
    clear hfr HP hba
    go_wp2_with fail
    refine HC.out.mono ?_
    rintro e W ⟨⟨x, rfl⟩, vo, st, -, -⟩
    have c1 := cell_of_heap st.blk 1
    simp at c1
    have hbW : Below w.heap.size w W := ⟨st.os.trans HBa.out.os, st.tape.trans HBa.out.tape, st.output.trans HBa.out.output, Nat.le_trans HBa.out.size st.size, fun q hq => (st.kept q (Nat.lt_of_lt_of_le hq HBa.out.size) (by omega)).trans (HBa.out.block q hq)⟩
    have hrow := own_base st.row HBa.out.size
    have HR := hid (And.intro hbW hrow)
    clear st hbW hrow HC HBa
    generalize w3.heap.size = Pb at *
    go_wp2_with fail
    go_ret
    refine ⟨_, rfl, HR.out.1, ?_⟩
    rw [HPl.out]
    exact HR.out.2

set_option maxRecDepth 100000 in
theorem specPlain_bad {b off cap : Nat} {ns : List Nd} (w : World) (hm : ns.length ≤ 1048576) (hbw : b < w.heap.size) (hn : NodesAt w b off ns) (hA : SpecAns ns false) :
    Calls Tryz.prog 6 #[.slice (some ⟨b, off, none⟩) ns.length cap] w fun e w' => e = .returned (.slice none 0 0) ∧ Below w.heap.size w w' := by
  have HT := hid (specTree_calls b off cap ns w false hm hbw hn hA)
  clear hm hbw hn hA
  generalize ns.length = len at *
  go_enter Tryz.func6, Tryz.ntmps6
  go_wp2_with fail
  refine HT.out.mono ?_
  rintro e w2 ⟨rfl, hb2⟩
  go_wp2_with fail
  go_ret
  exact ⟨rfl, hb2⟩
end Go.Proofs.YtlhdicichdihfaaGreatDoor

/- Marks that were put into a list of nodes are held by it; two lists of the same nodes compare as alike. -/
namespace Go.Proofs.YtlhdicichdihfaaGreatDoor
open Go.RowKit

set_option maxHeartbeats 4000000 in
set_option maxRecDepth 100000 in
theorem heldNodeS_rows (g n cap : Nat) (w : World) (hm : n ≤ 1048576) (hr : CellRow 42 w g (n * 6) ndMarks) :
    Calls Tryz.prog 11 #[.slice (some ⟨g, 0, none⟩) n cap, .int .i64 1] w fun e w' => e = .returned (.int .i64 (1 + 6 * (n : Int))) ∧ Below w.heap.size w w' := by
  have HM : Hid (n ≤ 1048576) := hm
  have HR := hid hr
  clear hm hr
  go_enter Tryz.func11, Tryz.ntmps11
  go_wp2_with fail
  go_loopw [1, 5] (fun m i wr => ∃ (k : Nat) (x : Int), k ≤ n ∧ i = .int .i64 k ∧ m = .int .i64 x ∧ Hid (x = 1 + 6 * (k : Int)) ∧ Below w.heap.size w wr) (fun _ i _ => n - (intOf i).toNat)
  case atStart => exact ⟨0, 1, Nat.zero_le _, rfl, rfl, by show _ = _; simp, Below.refl _ _⟩
  case round =>
    obtain ⟨k, x, hk, rfl, rfl, Hx, hnx⟩ := hrel
    by_cases hkl : (k : Int) < (n : Int)
    · have HW := hid (wrap_six Hx.out (by omega) HM.out)
      have HC : Hid (∀ (c : Nat) (X : World), 2 ≤ c → c ≤ 4 → Calls Tryz.prog 25 #[.int .i64 (x + (c : Int))] X fun e w' => e = .returned (.string (markOf (1 + (k * 6 + c)))) ∧ Below X.heap.size X w') := fun c X h1 h2 => by
        have := mark_callsZ (x + (c : Int)) (by show _ ∧ _; have := Hx.out; have := HM.out; omega) X
        rwa [show (x + (c : Int)).toNat = 1 + (k * 6 + c) by have := Hx.out; omega] at this
      have HC2 := hid (fun X => HC.out 2 X (by decide) (by decide))
      have HC3 := hid (fun X => HC.out 3 X (by decide) (by decide))
      have HC4 := hid (fun X => HC.out 4 X (by decide) (by decide))
      rw [show x + ((2 : Nat) : Int) = x + 1 + 1 by omega] at HC2
      rw [show x + ((3 : Nat) : Int) = x + 1 + 1 + 1 by omega] at HC3
      rw [show x + ((4 : Nat) : Int) = x + 1 + 1 + 1 + 1 by omega] at HC4
      have hcl : ∀ (X : World), Below w.heap.size w X → ∀ c, c < 6 → X.cell? ⟨g, k * 6 + c, none⟩ = some (ndMarks (k * 6 + c)) := fun X hX c hc => (hX.cell (p := ⟨g, k * 6 + c, none⟩) HR.out.lt).trans (HR.out.cell (by omega))
      have HB : ndMarks (k * 6 + 0) = .int .i64 x ∧ ndMarks (k * 6 + 1) = .int .i64 (x + 1) ∧ ndMarks (k * 6 + 2) = .string (markOf (1 + (k * 6 + 2))) ∧ ndMarks (k * 6 + 3) = .string (markOf (1 + (k * 6 + 3))) ∧ ndMarks (k * 6 + 4) = .string (markOf (1 + (k * 6 + 4))) ∧ ndMarks (k * 6 + 5) = .int .i64 (x + 1 + 1 + 1 + 1 + 1) := by
        have hx := Hx.out
        unfold ndMarks
        refine ⟨?_, ?_, ?_, ?_, ?_, ?_⟩
        · rw [if_neg (by omega)]; congr 1; omega
        · rw [if_neg (by omega)]; congr 1; omega
        · rw [if_pos (by omega)]
        · rw [if_pos (by omega)]
        · rw [if_pos (by omega)]
        · rw [if_neg (by omega)]; congr 1; omega
      generalize markOf (1 + (k * 6 + 2)) = m2 at *
      generalize markOf (1 + (k * 6 + 3)) = m3 at *
      generalize markOf (1 + (k * 6 + 4)) = m4 at *
      have HCl : Hid (∀ (X : World), Below w.heap.size w X → X.cell? ⟨g, k * 6, none⟩ = some (.int .i64 x) ∧ X.cell? ⟨g, k * 6 + 1, none⟩ = some (.int .i64 (wrap64 (x + 1))) ∧ X.cell? ⟨g, k * 6 + 2, none⟩ = some (.string m2) ∧ X.cell? ⟨g, k * 6 + 3, none⟩ = some (.string m3) ∧ X.cell? ⟨g, k * 6 + 4, none⟩ = some (.string m4) ∧ X.cell? ⟨g, k * 6 + 5, none⟩ = some (.int .i64 (x + 1 + 1 + 1 + 1 + 1))) := fun X hX => by
        obtain ⟨b0, b1, b2, b3, b4, b5⟩ := HB
        refine ⟨by have := hcl X hX 0 (by omega); rwa [b0] at this, ?_, by have := hcl X hX 2 (by omega); rwa [b2] at this, by have := hcl X hX 3 (by omega); rwa [b3] at this, by have := hcl X hX 4 (by omega); rwa [b4] at this, by have := hcl X hX 5 (by omega); rwa [b5] at this⟩
        have := hcl X hX 1 (by omega)
        rw [b1] at this
        rw [HW.out.1]
        exact this
      obtain ⟨q0, q1, -⟩ := HCl.out wr hnx
      have HNx := hid hnx
      have hi0 : (0 : Int) ≤ (k : Int) := by omega
      clear HC hcl HB hnx
      go_upto_region 10 with fail
      obtain ⟨e1, e2, e3, e4, e5, e6⟩ := HW.out
      simp only [e1, e2]
      clear e1 e2 e3 e4 e5 e6 q0 q1
      have q2 : ∀ y : Later wr.heap.size wr, y.w.cell? ⟨g, k * 6 + 2, none⟩ = some (.string m2) := fun y => (HCl.out y.w (HNx.out.trans (y.h.mono HNx.out.size))).2.2.1
      refine wp_region_calm wr.heap.size (by kernel_rfl) (by kernel_rfl) ?_
      repeat (go_big_quiet_step (first | (rename_i y; go_at_call 25; refine (HC2.out _).mono ?_; rintro e w5 ⟨rfl, hb5⟩; exact ⟨rfl, ⟨w5, y.h.trans (hb5.mono y.h.size)⟩, rfl⟩)))
      refine wpQuiet_nil ?_
      rintro w6 ⟨y, rfl⟩
      have HN1 := hid (HNx.out.trans (y.h.mono HNx.out.size))
      generalize y.w = X1 at *
      clear q2 HC2 HNx
      go_upto_region 13 with fail
      obtain ⟨e1, e2, e3, e4, e5, e6⟩ := HW.out
      simp only [e3]
      clear e1 e2 e3 e4 e5 e6
      have q3 : ∀ y : Later X1.heap.size X1, y.w.cell? ⟨g, k * 6 + 3, none⟩ = some (.string m3) := fun y => (HCl.out y.w (HN1.out.trans (y.h.mono HN1.out.size))).2.2.2.1
      refine wp_region_calm X1.heap.size (by kernel_rfl) (by kernel_rfl) ?_
      repeat (go_big_quiet_step (first | (rename_i y; go_at_call 25; refine (HC3.out _).mono ?_; rintro e w5 ⟨rfl, hb5⟩; exact ⟨rfl, ⟨w5, y.h.trans (hb5.mono y.h.size)⟩, rfl⟩)))
      refine wpQuiet_nil ?_
      rintro w6 ⟨y2, rfl⟩
      have HN2 := hid (HN1.out.trans (y2.h.mono HN1.out.size))
      generalize y2.w = X2 at *
      clear q3 HC3 HN1
      go_upto_region 16 with fail
      obtain ⟨e1, e2, e3, e4, e5, e6⟩ := HW.out
      simp only [e4]
      clear e1 e2 e3 e4 e5 e6
      have q4 : ∀ y : Later X2.heap.size X2, y.w.cell? ⟨g, k * 6 + 4, none⟩ = some (.string m4) := fun y => (HCl.out y.w (HN2.out.trans (y.h.mono HN2.out.size))).2.2.2.2.1
      refine wp_region_calm X2.heap.size (by kernel_rfl) (by kernel_rfl) ?_
      repeat (go_big_quiet_step (first | (rename_i y; go_at_call 25; refine (HC4.out _).mono ?_; rintro e w5 ⟨rfl, hb5⟩; exact ⟨rfl, ⟨w5, y.h.trans (hb5.mono y.h.size)⟩, rfl⟩)))
      refine wpQuiet_nil ?_
      rintro w6 ⟨y3, rfl⟩
      have HN3 := hid (HN2.out.trans (y3.h.mono HN2.out.size))
      generalize y3.w = X3 at *
      clear q4 HC4 HN2
      obtain ⟨-, -, -, -, -, q5⟩ := HCl.out X3 HN3.out
      have HW5 : Hid (wrap64 (x + 1 + 1 + 1 + 1 + 1) = x + 1 + 1 + 1 + 1 + 1) := HW.out.2.2.2.2.1
      have q5' : X3.cell? ⟨g, k * 6 + 5, none⟩ = some (.int .i64 (wrap64 (x + 1 + 1 + 1 + 1 + 1))) := by rw [HW5.out]; exact q5
      clear q5
      go_wp2_with fail
      obtain ⟨e1, e2, e3, e4, e5, e6⟩ := HW.out
      simp only [e5, e6]
      rw [wrap_inc (n := n) (by omega) HM.out]
      have hs : n - (intOf (.int .i64 ((k + 1 : Nat) : Int))).toNat < n - (intOf (.int .i64 (k : Int))).toNat := by simp only [intOf, Int.toNat_natCast]; omega
      have hx := Hx.out
      exact ⟨⟨k + 1, x + 1 + 1 + 1 + 1 + 1 + 1, by omega, rfl, rfl, by show _ = _; omega, HN3.out⟩, hs⟩
    · have hkn : k = n := by omega
      subst hkn
      have HX : Hid (x = 1 + 6 * (k : Int)) := Hx
      clear Hx
      go_wp2_with fail
      go_ret
      exact ⟨by rw [← HX.out]; rfl, hnx⟩

set_option maxRecDepth 100000 in
theorem heldNodeS_none (ad : Option Addr) (cap : Nat) (w : World) :
    Calls Tryz.prog 11 #[.slice ad 0 cap, .int .i64 1] w fun e w' => e = .returned (.int .i64 1) ∧ w = w' := by
  go_enter Tryz.func11, Tryz.ntmps11
  go_wp2
  refine wp_loop_rounds 1 ?_
  rw [rounds_succ]
  go_wp2
  go_ret
  exact ⟨rfl, rfl⟩

theorem heldNodeS_any {B n : Nat} {v : Value} (w : World) (hm : n ≤ 1048576) (h : SliceR 42 6 B w v n ndMarks) :
    Calls Tryz.prog 11 #[v, .int .i64 1] w fun e w' => e = .returned (.int .i64 (1 + 6 * (n : Int))) ∧ Below w.heap.size w w' := by
  obtain ⟨ad, cap, rfl, h⟩ := h
  by_cases h0 : n = 0
  · subst h0
    refine (heldNodeS_none ad cap w).mono ?_
    rintro e w' ⟨rfl, rfl⟩
    exact ⟨by simp, Below.refl _ _⟩
  · obtain ⟨g, rfl, hB, hr⟩ := h.resolve_left h0
    exact heldNodeS_rows g n cap w hm hr

set_option maxRecDepth 100000 in
theorem eqNodeS_none (ad ad' : Option Addr) (cap cap' : Nat) (w : World) :
    Calls Tryz.prog 9 #[.slice ad 0 cap, .slice ad' 0 cap'] w fun e w' => e = .returned (.bool true) ∧ Below w.heap.size w w' := by
  go_enter Tryz.func9, Tryz.ntmps9
  go_wp2
  refine wp_loop_rounds 1 ?_
  rw [rounds_succ]
  go_wp2
  go_ret
  exact ⟨rfl, Below.refl _ _⟩

theorem eqNodeS_any {B B' : Nat} {v v' : Value} {ns : List Nd} (w : World) (hm : ns.length ≤ 1048576) (h : SliceR 42 6 B w v ns.length (ndF ns)) (h' : SliceR 42 6 B' w v' ns.length (ndF ns)) :
    Calls Tryz.prog 9 #[v, v'] w fun e w' => e = .returned (.bool true) ∧ Below w.heap.size w w' := by
  obtain ⟨ad, cap, rfl, h⟩ := h
  obtain ⟨ad', cap', rfl, h'⟩ := h'
  by_cases h0 : ns.length = 0
  · rw [h0]
    exact eqNodeS_none ad ad' cap cap' w
  · obtain ⟨g, rfl, _, hr⟩ := h.resolve_left h0
    obtain ⟨g', rfl, _, hr'⟩ := h'.resolve_left h0
    exact eqNodeS_calls g 0 g' 0 ns.length cap cap' ns w hr.lt hr'.lt hr.nodes hr'.nodes (Nat.le_refl _) hm
end Go.Proofs.YtlhdicichdihfaaGreatDoor

/- What a law holds in memory between its calls, told as facts, each of a stretch of blocks of its own. -/
namespace Go.Proofs.YtlhdicichdihfaaGreatDoor
open Go.RowKit

/-- Only such blocks are changed. -/
structure Chg (P : Nat → Prop) (w w' : World) : Prop where
  os : w'.os = w.os
  tape : w'.tape = w.tape
  output : w'.output = w.output
  size : w.heap.size ≤ w'.heap.size
  block : ∀ q, q < w.heap.size → ¬ P q → w'.heap[q]? = w.heap[q]?

theorem Chg.refl (P : Nat → Prop) (w : World) : Chg P w w := ⟨rfl, rfl, rfl, Nat.le_refl _, fun _ _ _ => rfl⟩

theorem Chg.trans {P : Nat → Prop} {w w1 w2 : World} (h : Chg P w w1) (h' : Chg P w1 w2) : Chg P w w2 :=
  ⟨h'.os.trans h.os, h'.tape.trans h.tape, h'.output.trans h.output, Nat.le_trans h.size h'.size, fun q hq hp => (h'.block q (Nat.lt_of_lt_of_le hq h.size) hp).trans (h.block q hq hp)⟩

theorem Chg.of_below {P : Nat → Prop} {w w' : World} (h : Below w.heap.size w w') : Chg P w w' := ⟨h.os, h.tape, h.output, h.size, fun q hq _ => h.block q hq⟩

theorem Chg.of_turned {P : Nat → Prop} {w w' : World} {v : Value} {n : Nat} (h : Turned w w' v n) (hp : ∀ q, n ≠ 0 → v.ownBlock = some q → P q) : Chg P w w' := by
  obtain ⟨row, hg, hrow⟩ := h
  refine ⟨hg.os, hg.tape, hg.output, hg.size, fun q hq hnp => hg.block q hq (fun e => ?_)⟩
  rcases hrow with rfl | ⟨hn, rfl⟩
  · cases e
  · exact hnp (hp q hn e.symm)

theorem Chg.set {P : Nat → Prop} {w : World} {g : Nat} (hp : P g) (i : Nat) (v : Value) : Chg P w (w.setCell ⟨g, i, none⟩ v) :=
  ⟨rfl, rfl, rfl, by simp [World.setCell], fun q _ hq => Below.heap_setCell w ⟨g, i, none⟩ v q (fun e => hq (e ▸ hp))⟩

theorem Chg.mono {P Q : Nat → Prop} {w w' : World} (h : Chg P w w') (hpq : ∀ q, P q → Q q) : Chg Q w w' := ⟨h.os, h.tape, h.output, h.size, fun q hq hn => h.block q hq (fun e => hn (hpq q e))⟩

theorem SliceR.chg {t : TypeId} {sz B : Nat} {P : Nat → Prop} {w w' : World} {v : Value} {n : Nat} {F : Nat → Value} (h : SliceR t sz B w v n F) (hc : Chg P w w') (hn : n ≠ 0 → ∀ q, v.ownBlock = some q → ¬ P q) : SliceR t sz B w' v n F := by
  obtain ⟨ad, cap, rfl, h⟩ := h
  refine ⟨ad, cap, rfl, ?_⟩
  by_cases h0 : n = 0
  · exact Or.inl h0
  · obtain ⟨g, rfl, hB, hr⟩ := h.resolve_left h0
    exact Or.inr ⟨g, rfl, hB, hr.of_block (hc.block g hr.lt (hn h0 g rfl))⟩

/-- What is told of a world depends on the blocks from lo to hi alone. -/
def Fact (lo hi : Nat) (T : World → Prop) : Prop := ∀ W W', T W → (∀ q, lo ≤ q → q < hi → W'.heap[q]? = W.heap[q]?) → T W'

theorem Fact.and {lo hi : Nat} {T U : World → Prop} (h : Fact lo hi T) (h' : Fact lo hi U) : Fact lo hi (fun W => T W ∧ U W) := fun W W' ht he => ⟨h W W' ht.1 he, h' W W' ht.2 he⟩

theorem Fact.wide {lo hi lo' hi' : Nat} {T : World → Prop} (h : Fact lo hi T) (h1 : lo' ≤ lo) (h2 : hi ≤ hi') : Fact lo' hi' T := fun W W' ht he => h W W' ht (fun q hq hq' => he q (by omega) (by omega))

theorem fact_slice {t : TypeId} {sz B hi : Nat} {v : Value} {n : Nat} (F : Nat → Value) (h : n ≠ 0 → ∀ q, v.ownBlock = some q → q < hi) : Fact B hi (fun X => SliceR t sz B X v n F) := by
  intro W W' ht he
  obtain ⟨ad, cap, rfl, ht⟩ := ht
  refine ⟨ad, cap, rfl, ?_⟩
  by_cases h0 : n = 0
  · exact Or.inl h0
  · obtain ⟨g, rfl, hB, hr⟩ := ht.resolve_left h0
    exact Or.inr ⟨g, rfl, hB, hr.of_block (he g hB (h h0 g rfl))⟩

/-- One fact: its stretch, what it tells. -/
structure Fc where
  lo : Nat
  hi : Nat
  T : World → Prop

/-- All that the law holds; the newest first. -/
structure Held (w0 : World) (l : List Fc) (W : World) : Prop where
  below : Below w0.heap.size w0 W
  fact : ∀ f ∈ l, Fact f.lo f.hi f.T
  tells : ∀ f ∈ l, f.T W
  lo : ∀ f ∈ l, w0.heap.size ≤ f.lo
  hi : ∀ f ∈ l, f.hi ≤ W.heap.size
  apart : l.Pairwise (fun f g => g.hi ≤ f.lo)

theorem Held.start (w : World) : Held w [] w := ⟨Below.refl _ _, fun _ h => (by cases h), fun _ h => (by cases h), fun _ h => (by cases h), fun _ h => (by cases h), List.Pairwise.nil⟩

theorem Held.keep {w0 W W' : World} {l : List Fc} (h : Held w0 l W) (hb : Below W.heap.size W W') : Held w0 l W' :=
  ⟨h.below.trans (hb.mono h.below.size), h.fact, fun f hf => h.fact f hf W W' (h.tells f hf) (fun q _ hq => hb.block q (Nat.lt_of_lt_of_le hq (h.hi f hf))), h.lo, fun f hf => Nat.le_trans (h.hi f hf) hb.size, h.apart⟩

theorem Held.add {w0 W W' : World} {l : List Fc} (h : Held w0 l W) (hb : Below W.heap.size W W') {T : World → Prop} (hf : Fact W.heap.size W'.heap.size T) (ht : T W') : Held w0 (⟨W.heap.size, W'.heap.size, T⟩ :: l) W' := by
  have k := h.keep hb
  refine ⟨k.below, fun f hf' => ?_, fun f hf' => ?_, fun f hf' => ?_, fun f hf' => ?_, List.Pairwise.cons (fun f hf' => h.hi f hf') h.apart⟩
  · rcases List.mem_cons.1 hf' with rfl | hf'
    · exact hf
    · exact k.fact f hf'
  · rcases List.mem_cons.1 hf' with rfl | hf'
    · exact ht
    · exact k.tells f hf'
  · rcases List.mem_cons.1 hf' with rfl | hf'
    · exact h.below.size
    · exact k.lo f hf'
  · rcases List.mem_cons.1 hf' with rfl | hf'
    · exact Nat.le_refl _
    · exact k.hi f hf'

/-- One fact is changed, within its stretch. -/
theorem Held.chg {w0 W W' : World} (l1 : List Fc) {l2 : List Fc} {lo hi : Nat} {T T' : World → Prop} {P : Nat → Prop} (h : Held w0 (l1 ++ ⟨lo, hi, T⟩ :: l2) W) (hc : Chg P W W') (hp : ∀ q, P q → lo ≤ q ∧ q < hi) (hf : Fact lo hi T') (ht : T' W') : Held w0 (l1 ++ ⟨lo, hi, T'⟩ :: l2) W' := by
  have hm : (⟨lo, hi, T⟩ : Fc) ∈ l1 ++ ⟨lo, hi, T⟩ :: l2 := List.mem_append_right _ List.mem_cons_self
  have hlo := h.lo _ hm
  obtain ⟨p1, p2, p3⟩ := List.pairwise_append.1 h.apart
  obtain ⟨p4, p5⟩ := List.pairwise_cons.1 p2
  have hcase : ∀ f, f ∈ l1 ++ ⟨lo, hi, T'⟩ :: l2 → f = ⟨lo, hi, T'⟩ ∨ (f ∈ l1 ++ ⟨lo, hi, T⟩ :: l2 ∧ (f.hi ≤ lo ∨ hi ≤ f.lo)) := fun f hf => by
    rcases List.mem_append.1 hf with h1 | h1
    · exact Or.inr ⟨List.mem_append_left _ h1, Or.inr (p3 f h1 _ List.mem_cons_self)⟩
    · rcases List.mem_cons.1 h1 with h1 | h1
      · exact Or.inl h1
      · exact Or.inr ⟨List.mem_append_right _ (List.mem_cons_of_mem _ h1), Or.inl (p4 f h1)⟩
  refine ⟨⟨hc.os.trans h.below.os, hc.tape.trans h.below.tape, hc.output.trans h.below.output, Nat.le_trans h.below.size hc.size, fun q hq => ?_⟩, fun f hf' => ?_, fun f hf' => ?_, fun f hf' => ?_, fun f hf' => ?_, ?_⟩
  · exact (hc.block q (Nat.lt_of_lt_of_le hq h.below.size) (fun e => by have := (hp q e).1; have hlo' : w0.heap.size ≤ lo := hlo; omega)).trans (h.below.block q hq)
  · rcases hcase f hf' with rfl | ⟨h1, -⟩
    · exact hf
    · exact h.fact f h1
  · rcases hcase f hf' with rfl | ⟨h1, h2⟩
    · exact ht
    · have hh := h.hi f h1
      exact h.fact f h1 W W' (h.tells f h1) (fun q hq hq' => hc.block q (by omega) (fun e => by have := hp q e; omega))
  · rcases hcase f hf' with rfl | ⟨h1, -⟩
    · exact hlo
    · exact h.lo f h1
  · have hs := hc.size
    rcases hcase f hf' with rfl | ⟨h1, -⟩
    · exact Nat.le_trans (h.hi ⟨lo, hi, T⟩ hm) hs
    · exact Nat.le_trans (h.hi f h1) hs
  · refine List.pairwise_append.2 ⟨p1, List.pairwise_cons.2 ⟨p4, p5⟩, fun a ha b hb => ?_⟩
    rcases List.mem_cons.1 hb with rfl | hb
    · exact p3 a ha ⟨lo, hi, T⟩ List.mem_cons_self
    · exact p3 a ha b (List.mem_cons_of_mem _ hb)

/-- What a new slice tells. -/
theorem Held.slice {w0 W W' : World} {l : List Fc} (h : Held w0 l W) (hb : Below W.heap.size W W') {t : TypeId} {sz : Nat} {v : Value} {n : Nat} {F : Nat → Value} (hs : SliceR t sz W.heap.size W' v n F) : Held w0 (⟨W.heap.size, W'.heap.size, fun X => SliceR t sz W.heap.size X v n F⟩ :: l) W' :=
  h.add hb (fact_slice F (fun h0 q e => by obtain ⟨g, e1, -, h2⟩ := hs.block h0; rw [e1] at e; cases e; exact h2)) hs

/-- A slice is marked. -/
theorem Held.mark {w0 W W1 W' : World} (l1 : List Fc) {l2 : List Fc} {lo hi B : Nat} {t : TypeId} {sz : Nat} {v : Value} {n : Nat} {F G : Nat → Value} (h : Held w0 (l1 ++ ⟨lo, hi, fun X => SliceR t sz lo X v n F⟩ :: l2) W) (hu : n ≠ 0 → ∀ q, v.ownBlock = some q → q < hi) (hk : Below W.heap.size W W1) (ht : Turned W1 W' v n) (hG : SliceR t sz B W' v n G) : Held w0 (l1 ++ ⟨lo, hi, fun X => SliceR t sz lo X v n G⟩ :: l2) W' := by
  have hs := h.tells _ (List.mem_append_right l1 List.mem_cons_self)
  refine (h.keep hk).chg l1 (P := fun q => n ≠ 0 ∧ v.ownBlock = some q) (Chg.of_turned ht (fun q h0 e => ⟨h0, e⟩)) (fun q hq => ⟨?_, hu hq.1 q hq.2⟩) (fact_slice G hu) ?_
  · obtain ⟨g, e1, h1, -⟩ := hs.block hq.1
    rw [e1] at hq
    cases hq.2
    exact h1
  · obtain ⟨ad, cap, e, h1⟩ := hG
    obtain ⟨ad', cap', e', h2⟩ := hs
    by_cases h0 : n = 0
    · exact ⟨ad, cap, e, Or.inl h0⟩
    · obtain ⟨g, rfl, _, hr⟩ := h1.resolve_left h0
      obtain ⟨g', e2, hB, _⟩ := h2.resolve_left h0
      rw [e] at e'
      cases e'
      cases e2
      exact ⟨_, cap, e, Or.inr ⟨g, rfl, hB, hr⟩⟩
end Go.Proofs.YtlhdicichdihfaaGreatDoor

/- The names that stand free in a tree: the specification's answer and the program's are one. -/
namespace Go.Proofs.YtlhdicichdihfaaGreatDoor
open Go.RowKit

theorem NamesV.strSlice {W : World} {v : Value} {ss : List ByteArray} (h : NamesV W v ss) : StrSlice W v ss := by
  rcases h with ⟨rfl, rfl⟩ | ⟨g, o, c, rfl, hg, hc⟩
  · exact ⟨none, 0, rfl, Or.inl rfl⟩
  · exact ⟨_, c, rfl, Or.inr ⟨g, o, rfl, hg, hc⟩⟩

theorem SliceR.congr {t : TypeId} {sz B : Nat} {w : World} {v : Value} {n : Nat} {F G : Nat → Value} (h : SliceR t sz B w v n F) (e : ∀ i, i < n * sz → F i = G i) : SliceR t sz B w v n G := by
  obtain ⟨ad, cap, rfl, h⟩ := h
  refine ⟨ad, cap, rfl, h.imp id ?_⟩
  rintro ⟨g, rfl, hB, hr⟩
  exact ⟨g, rfl, hB, hr.congr e⟩

theorem str_owns {B : Nat} {w : World} {v : Value} {l : List Tx} (h : w.ownsRow B 9 1 v l.length (l.map encStr)) : SliceR 9 1 B w v (bys l).length (strF (bys l)) := by
  rw [bys_len]
  refine (sliceR_of_owns h).congr (fun i hi => ?_)
  have hi' : i < l.length := by omega
  unfold strF
  rw [bys_get l i hi']
  simp [List.getD, hi', encStr]

theorem free_both (ns : List Nd) (hm : ns.length ≤ 1048576) (hs : Short ns) : ∃ l : List ByteArray, l.length ≤ 1048576 ∧
    (∀ (W : World) (b cap : Nat), b < W.heap.size → NodesAt W b 0 ns → Calls Tryz.prog 12 #[.slice (some ⟨b, 0, none⟩) ns.length cap] W fun e W' => ∃ u, e = .returned u ∧ StrSlice W' u l ∧ Below W.heap.size W W') ∧
    (∀ (W : World) (b cap : Nat), b < W.heap.size → NodesAt W b 0 ns → Laid W → Calls Tryz.prog 13 #[.slice (some ⟨b, 0, none⟩) ns.length cap] W fun e W' => ∃ u, e = .returned u ∧ SliceR 9 1 W.heap.size W' u l.length (strF l) ∧ Below W.heap.size W W') := by
  obtain ⟨R, hSA, hIA⟩ := answers ns
  cases R with
  | false =>
    refine ⟨[], Nat.zero_le _, fun W b cap hb hn => ?_, fun W b cap hb hn _ => ?_⟩
    · refine (specFree_bad W hm hb hn hSA).mono ?_
      rintro e W' ⟨rfl, hB⟩
      exact ⟨_, rfl, ⟨none, 0, rfl, Or.inl rfl⟩, hB⟩
    · refine (implFree_bad W hm hb hn hs hIA).mono ?_
      rintro e W' ⟨rfl, hB⟩
      exact ⟨_, rfl, ⟨none, 0, rfl, Or.inl rfl⟩, hB⟩
  | true =>
    have hI := hIA
    have hS := hSA
    rcases hI with ⟨_, h⟩ | ⟨_, _, _, h⟩ | ⟨h1, h2, n, k, e1, e2, e3, hR⟩
    · cases h
    · cases h
    have hall : ns.all nodeOkZ = true := by
      have := hR.symm
      simp only [Bool.and_eq_true] at this
      exact this.1
    have hown : ns.all ownOk = true := by
      rcases hS with ⟨_, h⟩ | ⟨_, _, _, h⟩ | ⟨_, _, _, _, _, _, _, h⟩
      · cases h
      · cases h
      · have := h.symm
        simp only [Bool.and_eq_true] at this
        exact this.1
    have hl : (freeOf (wholeW n k)).length ≤ 1048576 := by
      have h5 : ∀ m ∈ ns, ownOk m = true := fun m hm => List.all_eq_true.1 hown m hm
      rw [← free_whole n k (leaf5_of _ ⟨e2, e3, trivial⟩ (fun m hm => (own_kids (h5 m (by rw [e1]; simpa [Fo.flat] using hm))).2))]
      have := freeN_len n k [] []
      rw [e1, List.length_cons] at h2
      simp at this
      omega
    refine ⟨bys (freeOf (wholeW n k)), by rw [bys_len]; exact hl, fun W b cap hb hn => ?_, fun W b cap hb hn hL => ?_⟩
    · refine (specFree_calls W h2 hb hn hSA hown e1 e2 e3).mono ?_
      rintro e W' ⟨u, rfl, hu, hB⟩
      exact ⟨u, rfl, hu.strSlice, hB⟩
    · refine (implFree_calls W h2 hb hn hs hIA hall e1 e2 e3 hL).mono ?_
      rintro e W' ⟨u, rfl, hB, hu⟩
      exact ⟨u, rfl, str_owns hu, hB⟩
end Go.Proofs.YtlhdicichdihfaaGreatDoor

/- A tree named anew: the specification's answer and the program's are one. -/
namespace Go.Proofs.YtlhdicichdihfaaGreatDoor
open Go.RowKit

theorem ndRow_get : ∀ (l : List Nd) (i : Nat), i < l.length * 6 → (ndRow l).getD i undef = ndF l i
  | [], i, h => by simp at h
  | n :: l, i, h => by
    have e : ndRow (n :: l) = [.int .i64 n.kind, .int .i64 n.num, .string n.a, .string n.b, .string n.c, .int .i64 n.kids] ++ ndRow l := by
      unfold ndRow
      rw [List.flatMap_cons]
    rw [e]
    by_cases hi : i < 6
    · have h6 : i = 0 ∨ i = 1 ∨ i = 2 ∨ i = 3 ∨ i = 4 ∨ i = 5 := by omega
      rcases h6 with rfl | rfl | rfl | rfl | rfl | rfl <;> rfl
    · have h1 := ndRow_get l (i - 6) (by rw [List.length_cons] at h; omega)
      have h2 : ndF (n :: l) i = ndF l (i - 6) := by
        unfold ndF
        rw [show i / 6 = (i - 6) / 6 + 1 by omega, show i % 6 = (i - 6) % 6 by omega]
        rfl
      rw [h2, ← h1]
      simp only [List.getD]
      rw [List.getElem?_append_right (by simp; omega)]
      rfl

theorem nd_owns {B : Nat} {w : World} {v : Value} {l : List Nd} (h : w.ownsRow B 42 6 v l.length (ndRow l)) : SliceR 42 6 B w v l.length (ndF l) := (sliceR_of_owns h).congr (fun i hi => ndRow_get l i hi)

theorem plain_both (ns : List Nd) (hm : ns.length ≤ 1048576) (hs : Short ns) : ∃ l : List Nd, l.length ≤ 1048576 ∧
    (∀ (W : World) (b cap : Nat), b < W.heap.size → NodesAt W b 0 ns → Calls Tryz.prog 6 #[.slice (some ⟨b, 0, none⟩) ns.length cap] W fun e W' => ∃ u, e = .returned u ∧ SliceR 42 6 W.heap.size W' u l.length (ndF l) ∧ Below W.heap.size W W') ∧
    (∀ (W : World) (b cap : Nat), b < W.heap.size → NodesAt W b 0 ns → Laid W → Calls Tryz.prog 8 #[.slice (some ⟨b, 0, none⟩) ns.length cap] W fun e W' => ∃ u, e = .returned u ∧ SliceR 42 6 W.heap.size W' u l.length (ndF l) ∧ Below W.heap.size W W') := by
  obtain ⟨R, hSA, hIA⟩ := answers ns
  cases R with
  | false =>
    refine ⟨[], Nat.zero_le _, fun W b cap hb hn => ?_, fun W b cap hb hn _ => ?_⟩
    · refine (specPlain_bad W hm hb hn hSA).mono ?_
      rintro e W' ⟨rfl, hB⟩
      exact ⟨_, rfl, ⟨none, 0, rfl, Or.inl rfl⟩, hB⟩
    · refine (implPlain_bad W hm hb hn hs hIA).mono ?_
      rintro e W' ⟨rfl, hB⟩
      exact ⟨_, rfl, ⟨none, 0, rfl, Or.inl rfl⟩, hB⟩
  | true =>
    have hI := hIA
    have hS := hSA
    rcases hI with ⟨_, h⟩ | ⟨_, _, _, h⟩ | ⟨h1, h2, n, k, e1, e2, e3, hR⟩
    · cases h
    · cases h
    have hall : ns.all nodeOkZ = true := by
      have := hR.symm
      simp only [Bool.and_eq_true] at this
      exact this.1
    have hown : ns.all ownOk = true := by
      rcases hS with ⟨_, h⟩ | ⟨_, _, _, h⟩ | ⟨_, _, _, _, _, _, _, h⟩
      · cases h
      · cases h
      · have := h.symm
        simp only [Bool.and_eq_true] at this
        exact this.1
    have hl : (plainOf (wholeW n k)).length ≤ 1048576 := by
      unfold plainOf
      split
      · have h5 := (kidsW_plain n (renZ n [] 0) k 0 [] (stepW n [] ⟨[], [], 0⟩)).1
        have h6 : (wholeW n k).plain.length = (stepW n [] ⟨[], [], 0⟩).plain.length + k.flat.length := h5
        rw [h6]
        rw [e1, List.length_cons] at h2
        simp [stepW]
        omega
      · exact Nat.zero_le _
    refine ⟨plainOf (wholeW n k), hl, fun W b cap hb hn => ?_, fun W b cap hb hn hL => ?_⟩
    · refine (specPlain_calls W h2 hb hn hSA hown e1 e2 e3).mono ?_
      rintro e W' ⟨u, rfl, hB, hu⟩
      exact ⟨u, rfl, nd_owns hu, hB⟩
    · refine (implPlain_calls W h2 hb hn hs hIA hall e1 e2 e3 hL).mono ?_
      rintro e W' ⟨u, rfl, hB, hu⟩
      exact ⟨u, rfl, nd_owns hu, hB⟩
end Go.Proofs.YtlhdicichdihfaaGreatDoor

/- The law of the names that stand free returns true, wherever the table of powers lies as the program lays it. -/
namespace Go.Proofs.YtlhdicichdihfaaGreatDoor
open Go.RowKit

theorem SliceR.inside {t : TypeId} {sz B : Nat} {w : World} {v : Value} {n : Nat} {F : Nat → Value} (h : SliceR t sz B w v n F) : n ≠ 0 → ∀ q, v.ownBlock = some q → q < w.heap.size := fun h0 q e => by
  obtain ⟨g, e1, -, h2⟩ := h.block h0
  rw [e1] at e
  cases e
  exact h2

set_option maxHeartbeats 8000000 in
set_option maxRecDepth 100000 in
theorem freeWalk {v : Value} {ns : List Nd} (w : World) (hL : Laid w) (hv : NodeSlice w v ns) (hs : Short ns) (hm : ns.length ≤ maxLen) :
    Calls Tryz.prog 4 #[v] w fun e w' => e = .returned (.bool true) ∧ Below w.heap.size w w' := by
  have HBo := hid (fun h => free_both ns h hs)
  have HSz := hid (szNodeS_any 1048576 w hv hs hm (by omega) (by omega))
  have HTo := hid (fun (X : World) (hb : Below w.heap.size w X) (h : ns.length ≤ 1048576) => toNodeS_row X (hv.below hb) h)
  have HLa := hid hL
  obtain ⟨ad, cap, rfl, -⟩ := hv
  clear hs hm hL
  obtain ⟨n, hn⟩ : ∃ n, ns.length = n := ⟨_, rfl⟩
  rw [hn] at HSz HTo HBo ⊢
  have HNn := hid hn
  clear hn
  go_enter Tryz.func4, Tryz.ntmps4
  go_wp2_with fail
  refine HSz.out.mono ?_
  rintro e W1 ⟨⟨r, rfl, -, hr⟩, hb1⟩
  have B1 := hid hb1
  clear hb1 HSz
  by_cases hneg : r < 0
  · go_wp2_with fail
    go_ret
    exact ⟨rfl, B1.out⟩
  have HL := hid (hr.resolve_left hneg)
  clear hr
  obtain ⟨l, hll, hS, hI⟩ := HBo.out HL.out
  have HLl := hid hll
  have HS := hid hS
  have HI := hid hI
  clear hll hS hI HBo
  go_wp2_with fail
  refine (HTo.out W1 B1.out HL.out).mono ?_
  rintro e W2 ⟨rfl, hr2, hl2, hb2⟩
  have B2 := hid (B1.out.trans (hb2.mono B1.out.size))
  rw [← HNn.out] at hr2
  have HN2 := hid (And.intro hl2 hr2.nodesAt)
  clear hr2 hl2 hb2
  go_wp2_with fail
  refine (HS.out W2 _ _ HN2.out.1 HN2.out.2).mono ?_
  rintro e W3 ⟨u0, rfl, hu0, hb3⟩
  obtain ⟨ad0, cap0, rfl, -⟩ := id hu0
  have B3 := hid (B2.out.trans (hb3.mono B2.out.size))
  have HU0 := hid (fun X (hX : Below W3.heap.size W3 X) => hu0.below hX)
  have M3 := hid (Held.start W3)
  clear hu0 hb3 HN2 B2 B1 HS
  go_wp2_with fail
  refine (HTo.out W3 B3.out HL.out).mono ?_
  rintro e W4 ⟨rfl, hr4, hl4, hb4⟩
  have M4 := hid (M3.out.slice hb4 hr4)
  rw [← HNn.out] at hr4
  have HN4 := hid (And.intro hl4 hr4.nodesAt)
  have HU4 := hid hr4.inside
  rw [HNn.out] at HU4
  have HB3 := hid (fun X (hX : Below W3.heap.size W3 X) => B3.out.trans (hX.mono B3.out.size))
  clear hr4 hl4 hb4 M3 B3
  go_wp2_with fail
  refine (HI.out W4 _ _ HN4.out.1 HN4.out.2 (HLa.out.stays (HB3.out _ M4.out.below))).mono ?_
  rintro e W5 ⟨u1, rfl, hu1, hb5⟩
  have M5 := hid (M4.out.slice hb5 hu1)
  have HU5 := hid hu1.inside
  obtain ⟨ad1, cap1, rfl, -⟩ := id hu1
  have HN5 := hid (And.intro (Nat.lt_of_lt_of_le HN4.out.1 hb5.size) (HN4.out.2.below hb5 HN4.out.1))
  clear hu1 hb5 M4 HN4
  go_wp2_with fail
  refine (eqStringS_any W5 HLl.out (M5.out.tells _ List.mem_cons_self).strSlice (HU0.out _ M5.out.below)).mono ?_
  rintro e W6 ⟨rfl, hb6⟩
  have M6 := hid (M5.out.keep hb6)
  have HN6 := hid (And.intro (Nat.lt_of_lt_of_le HN5.out.1 hb6.size) (HN5.out.2.below hb6 HN5.out.1))
  clear hb6 M5 HN5
  go_wp2_with fail
  refine (HTo.out W6 (HB3.out _ M6.out.below) HL.out).mono ?_
  rintro e W7 ⟨rfl, hr7, hl7, hb7⟩
  have M7 := hid (M6.out.keep hb7)
  rw [← HNn.out] at hr7
  have HN7 := hid (And.intro hl7 hr7.nodesAt)
  have HN7' := hid (And.intro (Nat.lt_of_lt_of_le HN6.out.1 hb7.size) (HN6.out.2.below hb7 HN6.out.1))
  clear hr7 hl7 hb7 M6 HN6
  go_wp2_with fail
  refine (eqNodeS_calls _ _ _ _ _ _ _ ns _ HN7'.out.1 HN7.out.1 HN7'.out.2 HN7.out.2 (Nat.le_of_eq HNn.out.symm) HL.out).mono ?_
  rintro e W8 ⟨rfl, hb8⟩
  have M8 := hid (M7.out.keep hb8)
  clear hb8 M7 HN7 HN7'
  go_wp2_with fail
  refine (markNodeS_any _ HL.out (M8.out.tells _ (List.mem_cons_of_mem _ List.mem_cons_self))).mono ?_
  rintro e W9 ⟨rfl, hs9, ht9⟩
  have M9 := hid (M8.out.mark [_] HU4.out (Below.refl _ _) ht9 hs9)
  clear M8 hs9 ht9
  have hm0 : ¬ (1 + 6 * (n : Int) < 0) := by omega
  generalize 1 + 6 * (n : Int) = kk at *
  go_wp2_with fail
  refine (eqStringS_any W9 HLl.out (M9.out.tells _ List.mem_cons_self).strSlice (HU0.out _ M9.out.below)).mono ?_
  rintro e W10 ⟨rfl, hb10⟩
  have M10 := hid (M9.out.keep hb10)
  clear M9 hb10
  go_wp2_with fail
  refine (markStringS_any W10 HLl.out (M10.out.tells _ List.mem_cons_self)).mono ?_
  rintro e W11 ⟨rfl, hs11, ht11⟩
  have M11 := hid (M10.out.mark [] HU5.out (Below.refl _ _) ht11 hs11)
  clear M10 hs11 ht11
  have HH : Hid (∀ X, SliceR 9 1 W4.heap.size X (.slice ad1 l.length cap1) l.length strMarks → Calls Tryz.prog 16 #[.slice ad1 l.length cap1, .int .i64 1] X fun e w' => e = .returned (.int .i64 (1 + (l.length : Int))) ∧ Below X.heap.size X w') := fun X h => heldStringS_any X HLl.out h
  have hm1 : ¬ (1 + (l.length : Int) < 0) := by omega
  generalize 1 + (l.length : Int) = mm at *
  have hmm : (mm != mm) = false := by simp
  go_wp2_with fail
  refine (HH.out W11 (M11.out.tells _ List.mem_cons_self)).mono ?_
  rintro e W12 ⟨rfl, hb12⟩
  have M12 := hid (M11.out.keep hb12)
  clear M11 hb12
  go_wp2_with fail
  refine (HTo.out W12 (HB3.out _ M12.out.below) HL.out).mono ?_
  rintro e W13 ⟨rfl, hr13, hl13, hb13⟩
  have M13 := hid (M12.out.keep hb13)
  rw [← HNn.out] at hr13
  have HN13 := hid (And.intro hl13 hr13.nodesAt)
  clear hr13 hl13 hb13 M12
  go_wp2_with fail
  refine (HI.out W13 _ _ HN13.out.1 HN13.out.2 (HLa.out.stays (HB3.out _ M13.out.below))).mono ?_
  rintro e W14 ⟨u2, rfl, hu2, hb14⟩
  have M14 := hid (M13.out.keep hb14)
  obtain ⟨ad2, cap2, rfl, -⟩ := id hu2
  have HU2 := hid hu2.strSlice
  clear hu2 hb14 M13 HN13
  go_wp2_with fail
  refine (eqStringS_any W14 HLl.out HU2.out (HU0.out _ M14.out.below)).mono ?_
  rintro e W15 ⟨rfl, hb15⟩
  have M15 := hid (M14.out.keep hb15)
  clear M14 hb15 HU2
  go_wp2_with fail
  refine (HH.out W15 (M15.out.tells _ List.mem_cons_self)).mono ?_
  rintro e W16 ⟨rfl, hb16⟩
  have M16 := hid (M15.out.keep hb16)
  clear M15 hb16
  go_wp2_with fail
  go_ret
  exact ⟨rfl, HB3.out _ M16.out.below⟩
end Go.Proofs.YtlhdicichdihfaaGreatDoor

/- The law of a tree named anew returns true, wherever the table of powers lies as the program lays it. -/
namespace Go.Proofs.YtlhdicichdihfaaGreatDoor
open Go.RowKit

set_option maxHeartbeats 8000000 in
set_option maxRecDepth 100000 in
theorem plainWalk {v : Value} {ns : List Nd} (w : World) (hL : Laid w) (hv : NodeSlice w v ns) (hs : Short ns) (hm : ns.length ≤ maxLen) :
    Calls Tryz.prog 3 #[v] w fun e w' => e = .returned (.bool true) ∧ Below w.heap.size w w' := by
  have HBo := hid (fun h => plain_both ns h hs)
  have HSz := hid (szNodeS_any 1048576 w hv hs hm (by omega) (by omega))
  have HTo := hid (fun (X : World) (hb : Below w.heap.size w X) (h : ns.length ≤ 1048576) => toNodeS_row X (hv.below hb) h)
  have HLa := hid hL
  obtain ⟨ad, cap, rfl, -⟩ := hv
  clear hs hm hL
  obtain ⟨n, hn⟩ : ∃ n, ns.length = n := ⟨_, rfl⟩
  rw [hn] at HSz HTo HBo ⊢
  have HNn := hid hn
  clear hn
  go_enter Tryz.func3, Tryz.ntmps3
  go_wp2_with fail
  refine HSz.out.mono ?_
  rintro e W1 ⟨⟨r, rfl, -, hr⟩, hb1⟩
  have B1 := hid hb1
  clear hb1 HSz
  by_cases hneg : r < 0
  · go_wp2_with fail
    go_ret
    exact ⟨rfl, B1.out⟩
  have HL := hid (hr.resolve_left hneg)
  clear hr
  obtain ⟨l, hll, hS, hI⟩ := HBo.out HL.out
  have HLl := hid hll
  have HS := hid hS
  have HI := hid hI
  clear hll hS hI HBo
  go_wp2_with fail
  refine (HTo.out W1 B1.out HL.out).mono ?_
  rintro e W2 ⟨rfl, hr2, hl2, hb2⟩
  have B2 := hid (B1.out.trans (hb2.mono B1.out.size))
  rw [← HNn.out] at hr2
  have HN2 := hid (And.intro hl2 hr2.nodesAt)
  clear hr2 hl2 hb2
  go_wp2_with fail
  refine (HS.out W2 _ _ HN2.out.1 HN2.out.2).mono ?_
  rintro e W3 ⟨u0, rfl, hu0, hb3⟩
  obtain ⟨ad0, cap0, rfl, -⟩ := id hu0
  have B3 := hid (B2.out.trans (hb3.mono B2.out.size))
  have HU0 := hid (fun X (hX : Below W3.heap.size W3 X) => hu0.below hX)
  have M3 := hid (Held.start W3)
  clear hu0 hb3 HN2 B2 B1 HS
  go_wp2_with fail
  refine (HTo.out W3 B3.out HL.out).mono ?_
  rintro e W4 ⟨rfl, hr4, hl4, hb4⟩
  have M4 := hid (M3.out.slice hb4 hr4)
  rw [← HNn.out] at hr4
  have HN4 := hid (And.intro hl4 hr4.nodesAt)
  have HU4 := hid hr4.inside
  rw [HNn.out] at HU4
  have HB3 := hid (fun X (hX : Below W3.heap.size W3 X) => B3.out.trans (hX.mono B3.out.size))
  clear hr4 hl4 hb4 M3 B3
  go_wp2_with fail
  refine (HI.out W4 _ _ HN4.out.1 HN4.out.2 (HLa.out.stays (HB3.out _ M4.out.below))).mono ?_
  rintro e W5 ⟨u1, rfl, hu1, hb5⟩
  have M5 := hid (M4.out.slice hb5 hu1)
  have HU5 := hid hu1.inside
  obtain ⟨ad1, cap1, rfl, -⟩ := id hu1
  have HN5 := hid (And.intro (Nat.lt_of_lt_of_le HN4.out.1 hb5.size) (HN4.out.2.below hb5 HN4.out.1))
  clear hu1 hb5 M4 HN4
  go_wp2_with fail
  refine (eqNodeS_any W5 HLl.out (M5.out.tells _ List.mem_cons_self) (HU0.out _ M5.out.below)).mono ?_
  rintro e W6 ⟨rfl, hb6⟩
  have M6 := hid (M5.out.keep hb6)
  have HN6 := hid (And.intro (Nat.lt_of_lt_of_le HN5.out.1 hb6.size) (HN5.out.2.below hb6 HN5.out.1))
  clear hb6 M5 HN5
  go_wp2_with fail
  refine (HTo.out W6 (HB3.out _ M6.out.below) HL.out).mono ?_
  rintro e W7 ⟨rfl, hr7, hl7, hb7⟩
  have M7 := hid (M6.out.keep hb7)
  rw [← HNn.out] at hr7
  have HN7 := hid (And.intro hl7 hr7.nodesAt)
  have HN7' := hid (And.intro (Nat.lt_of_lt_of_le HN6.out.1 hb7.size) (HN6.out.2.below hb7 HN6.out.1))
  clear hr7 hl7 hb7 M6 HN6
  go_wp2_with fail
  refine (eqNodeS_calls _ _ _ _ _ _ _ ns _ HN7'.out.1 HN7.out.1 HN7'.out.2 HN7.out.2 (Nat.le_of_eq HNn.out.symm) HL.out).mono ?_
  rintro e W8 ⟨rfl, hb8⟩
  have M8 := hid (M7.out.keep hb8)
  clear hb8 M7 HN7 HN7'
  go_wp2_with fail
  refine (markNodeS_any _ HL.out (M8.out.tells _ (List.mem_cons_of_mem _ List.mem_cons_self))).mono ?_
  rintro e W9 ⟨rfl, hs9, ht9⟩
  have M9 := hid (M8.out.mark [_] HU4.out (Below.refl _ _) ht9 hs9)
  clear M8 hs9 ht9
  have hm0 : ¬ (1 + 6 * (n : Int) < 0) := by omega
  generalize 1 + 6 * (n : Int) = kk at *
  go_wp2_with fail
  refine (eqNodeS_any W9 HLl.out (M9.out.tells _ List.mem_cons_self) (HU0.out _ M9.out.below)).mono ?_
  rintro e W10 ⟨rfl, hb10⟩
  have M10 := hid (M9.out.keep hb10)
  clear M9 hb10
  go_wp2_with fail
  refine (markNodeS_any W10 HLl.out (M10.out.tells _ List.mem_cons_self)).mono ?_
  rintro e W11 ⟨rfl, hs11, ht11⟩
  have M11 := hid (M10.out.mark [] HU5.out (Below.refl _ _) ht11 hs11)
  clear M10 hs11 ht11
  have HH : Hid (∀ X, SliceR 42 6 W4.heap.size X (.slice ad1 l.length cap1) l.length ndMarks → Calls Tryz.prog 11 #[.slice ad1 l.length cap1, .int .i64 1] X fun e w' => e = .returned (.int .i64 (1 + 6 * (l.length : Int))) ∧ Below X.heap.size X w') := fun X h => heldNodeS_any X HLl.out h
  have hm1 : ¬ (1 + 6 * (l.length : Int) < 0) := by omega
  generalize 1 + 6 * (l.length : Int) = mm at *
  have hmm : (mm != mm) = false := by simp
  go_wp2_with fail
  refine (HH.out W11 (M11.out.tells _ List.mem_cons_self)).mono ?_
  rintro e W12 ⟨rfl, hb12⟩
  have M12 := hid (M11.out.keep hb12)
  clear M11 hb12
  go_wp2_with fail
  refine (HTo.out W12 (HB3.out _ M12.out.below) HL.out).mono ?_
  rintro e W13 ⟨rfl, hr13, hl13, hb13⟩
  have M13 := hid (M12.out.keep hb13)
  rw [← HNn.out] at hr13
  have HN13 := hid (And.intro hl13 hr13.nodesAt)
  clear hr13 hl13 hb13 M12
  go_wp2_with fail
  refine (HI.out W13 _ _ HN13.out.1 HN13.out.2 (HLa.out.stays (HB3.out _ M13.out.below))).mono ?_
  rintro e W14 ⟨u2, rfl, hu2, hb14⟩
  have M14 := hid (M13.out.keep hb14)
  obtain ⟨ad2, cap2, rfl, -⟩ := id hu2
  have HU2 := hid hu2
  clear hu2 hb14 M13 HN13
  go_wp2_with fail
  refine (eqNodeS_any W14 HLl.out HU2.out (HU0.out _ M14.out.below)).mono ?_
  rintro e W15 ⟨rfl, hb15⟩
  have M15 := hid (M14.out.keep hb15)
  clear M14 hb15 HU2
  go_wp2_with fail
  refine (HH.out W15 (M15.out.tells _ List.mem_cons_self)).mono ?_
  rintro e W16 ⟨rfl, hb16⟩
  have M16 := hid (M15.out.keep hb16)
  clear M15 hb16
  go_wp2_with fail
  go_ret
  exact ⟨rfl, HB3.out _ M16.out.below⟩
end Go.Proofs.YtlhdicichdihfaaGreatDoor

/- At every list of nodes the program names a tree anew as the specification; the card. -/
namespace Go.Proofs.YtlhdicichdihfaaGreatDoor.fnExactTreePlain
open Go.ChangeShapes Go.WideShapes Go.ChangeAt Go.RowKit

theorem own : ownKnob Tryz.prog.godebug = none := by kernel_rfl
theorem laidOut : laidOutB Tryz.prog = true := by kernel_rfl
theorem tPows : (Tryz.prog.globals[0]?).map (·.type) = some 163 := by kernel_rfl
theorem cPows : Tryz.prog.cellsOf 163 = 20 := by kernel_rfl
theorem cUint : Tryz.prog.cellsOf 102 = 1 := by kernel_rfl
theorem pows_data : (Rows.laid_internal_strconv_uint64pow10 : DataW Unit) = Lib.tabData .u64 Lib.pow10Tab := by kernel_rfl

theorem of_laid {W : World} (h : laidMetH Tryz.prog Rows.fnExactTreePlainRow.laid W) : Laid W := by
  rw [MakeChecks.laidMetH_plain _ _ _ (by kernel_rfl)] at h
  obtain ⟨ps, ⟨g0, t0, cs0, f0, p0, q0, hg0, ht0, hv0, hd0, ⟨g1, t1, cs1, f1, p1, q1, hg1, ht1, hv1, hd1, ⟨g2, t2, cs2, f2, p2, q2, hg2, ht2, hv2, hd2, _⟩, _⟩, _⟩, _⟩ := h
  obtain rfl := Option.some.inj (gPows.symm.trans hg2)
  obtain rfl := Option.some.inj (tPows.symm.trans ht2)
  refine ⟨?_⟩
  rw [pows_data] at hd2
  have := Lib.cells_of_tab Tryz.underlying163 Tryz.underlying102 cUint cPows hd2
  unfold Lib.TabIs
  rw [hv2, ← this]

set_option maxRecDepth 100000 in
theorem contract (H : Type) (enc : TypeId × Value → H) (W : World) (base : Nat) (args : Array Value) (ds gs : List (DataW H)) (before : List MemPlace)
    (hval0 : ∀ (j : Nat) t v, Tryz.f3.params[j]? = some t → args[j]? = some v → Value.okWide Tryz.prog W .any base t v)
    (hW : DataW.Whole enc Tryz.prog Tryz.f3.params.toList Rows.fnExactTreePlainSpec.vars false W args.toList ds gs before) (hL : laidMetH Tryz.prog Rows.fnExactTreePlainRow.laid W) :
    Calls Tryz.prog 3 args W fun e W' => ∃ v, e = .returned v ∧ Rows.fnExactTreePlainSpec.post enc Tryz.prog Tryz.f3 false true false false W args v W' := by
  have hval : ∀ (j : Nat) t v, Tryz.f3.params[j]? = some t → args[j]? = some v → Value.okWide Tryz.prog W .any base t v := hval0
  have hW' := hW
  obtain ⟨p, q, hA0, hV0, rfl, hfz, hnd⟩ := hW
  have hA : DataW.TrodAll enc Tryz.prog W 0 (fun _ => true) true Tryz.f3.params.toList args.toList ds p := hA0
  rw [Tryz.params3] at hA hval
  obtain ⟨v0, vs0, d0, ds0, p0, q0, hargs, rfl, rfl, h0, r0⟩ := trodAll_cons hA
  obtain ⟨rfl, rfl, rfl⟩ := trodAll_nil r0
  obtain rfl : args = #[v0] := by cases args; simp_all
  obtain ⟨rfl, rfl⟩ := trodVars_none hV0
  have hLa := of_laid hL
  clear hA0 hval0
  simp only [List.append_nil] at hW'
  have hlt : ∀ y ∈ p0, y.block < W.heap.size := fun y hy => hW'.lt y (by simp [hy])
  have h0k := h0
  obtain ⟨fuel0, hf⟩ := h0
  obtain ⟨a0, len, cap, rfl⟩ := okWide_slice Tryz.underlying22 (hval 0 22 v0 rfl rfl)
  obtain ⟨ns, hN, hS, hM⟩ := open_nodes (by simpa [Value.cells] using hf)
  refine (plainWalk W hLa hN hS hM).mono fun e W' ⟨he, hgr⟩ => ?_
  subst he
  refine ⟨_, rfl, _, _, _, [], p0, [], hW', ?_, ?_, rfl, hgr.frame _, fun h => by cases h⟩
  · exact trodAll_cons_mk (shut_bool Tryz.underlying4 _) trodAll_mk0
  · exact trodAll_mk1 (Below.trod laidOut (by kernel_rfl) (of_decide_eq_true (by kernel_rfl)) h0k hgr hlt)

theorem laid_met (os : Os) : laidMet Tryz.prog Rows.fnExactTreePlainRow.laid ((World.doorLaid Tryz.prog 400 os).forCall (fun _ _ => 0) ⟨#[], #[.slice none 0 0], []⟩).memory :=
  laidMet_of_run' 8 (by kernel_rfl) (by kernel_rfl)
set_option maxRecDepth 100000 in
theorem lifted (os : Os) (started : os.Started) (H : Type) (enc : TypeId × Value → H) (F : Stop.Interp) :
    ReturnsInHanded {} Tryz.checked os 3 .any ((OpenSpec.ofChange Rows.fnExactTreePlainSpec).preRow enc Tryz.prog Tryz.f3 Rows.fnExactTreePlainRow.domain false Rows.fnExactTreePlainRow.laid) (((OpenSpec.ofChange Rows.fnExactTreePlainSpec).at F).post enc Tryz.prog Tryz.f3 false true false false) := by
  refine returnsInHanded_of_row (C := Tryz.checked) (s := OpenSpec.ofChange Rows.fnExactTreePlainSpec) own started (by kernel_rfl) Tryz.func3
    (witness_row_at (enc := enc) (C := Tryz.checked) false (World.doorLaid Tryz.prog 400 os) #[.slice none 0 0] rfl (by kernel_rfl) (by kernel_rfl) (by kernel_rfl)
      (OpenSpec.preRow_of_cond 8 (show DataW.whole enc Tryz.prog ((World.doorLaid Tryz.prog 400 os).forCall (fun _ _ => 0) ⟨#[], #[.slice none 0 0], []⟩).memory Tryz.f3.params.toList Rows.fnExactTreePlainSpec.vars false #[.slice none 0 0].toList 8 = some ([.nil], [], []) by kernel_rfl) (by kernel_rfl) (fun k hk => by cases hk) (by kernel_rfl) (laid_met os))) ?_
  intro W base args ds gs before hval hW _ _ _ hL _ _
  exact contract H enc W base args ds gs before hval hW hL

theorem said : Rows.FnExactTreePlainSaid :=
  OpenClaim.holds_of_cond 3 Tryz.f3 rfl rfl rfl rfl rfl rfl rfl ⟨rfl, rfl, rfl, rfl, rfl⟩ rfl rfl rfl rfl rfl (by kernel_rfl) Tryz.func3 (by kernel_rfl)
    (of_decide_eq_true (by kernel_rfl)) (by unfold Func.isWrapper; first | (rw [if_pos (by decide +kernel)]; kernel_rfl) | (rw [if_neg (by decide +kernel)]; exact ⟨rfl, rfl⟩))
    (fun os started H enc _ F => by rw [OpenClaim.pre_eq_preRow]; exact lifted os started H enc F)

theorem plain (f : FuncId) (fn : Func) (hf : Tryz.pinned.checked.prog.funcNamed "loop.example/handrail/laws.FnExactTreePlain" = some f) (hfn : Tryz.pinned.checked.prog.funcs[f]? = some fn) :
    false = Tryz.pinned.checked.prog.looks [] ∧ ∀ (j : Nat) t, fn.params[j]? = some t → Tryz.pinned.checked.prog.wantsStandIn t = false := by
  obtain rfl : f = 3 := Option.some.inj ((show Tryz.prog.funcNamed "loop.example/handrail/laws.FnExactTreePlain" = some 3 by kernel_rfl).symm.trans hf) |>.symm
  obtain rfl : fn = Tryz.f3 := (Option.some.inj (Tryz.func3.symm.trans hfn)).symm
  refine ⟨by kernel_rfl, fun j t ht => ?_⟩
  rw [Tryz.params3] at ht
  obtain rfl : t = 22 := by simpa using Array.mem_of_getElem? ht
  exact (show Tryz.prog.wantsStandIn 22 = false by kernel_rfl)

theorem proved : Rows.FnExactTreePlainCardSaid :=
  Claim7.holds_tied_plain_at .later [] _ _ _ _ said (fun _ h => by cases h) (by kernel_rfl) (fun _ h => by cases h) fnExactTreePlain_row_tie rfl ⟨rfl, rfl⟩ (by kernel_rfl) rfl plain (by kernel_rfl)
#print axioms proved
end Go.Proofs.YtlhdicichdihfaaGreatDoor.fnExactTreePlain
