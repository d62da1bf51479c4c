/- The specification's check of code, whole. -/
import Derived.Test.YtfmkgppkgmjpfaaDoorCheckStepB
import Derived.Test.YtfmkgppkgmjpfaaDoorCheckStepC
import Derived.Test.YtfmkgppkgmjpfaaDoorCheckStepD
import Derived.Test.YtfmkgppkgmjpfaaDoorInsSpec
namespace Go.Proofs.YtfmkgppkgmjpfaaDoor
open Go.RowKit

theorem ok_op {i : In} (h : i.ok = true) : 0 ≤ i.op ∧ i.op ≤ 25 := by
  unfold In.ok insOkZ at h
  split at h
  · cases h
  · rename_i hn
    have h0 : ¬ manyZ i.op < 0 := fun e => hn (Or.inl e)
    unfold manyZ at h0
    repeat' split at h0
    all_goals omega

theorem step_calls {W0 : World} {Mb bc oc cc ge gs gp ce cs cp : Nat} {is : List In} {T : List Sq} {w : List Nat} {vw : Value} {W : World} (h : Ck W0 Mb (.slice (some ⟨bc, oc, none⟩) is.length cc) ge gs gp ce cs cp is.length T w vw false W) (hbc : bc < W0.heap.size) (hin : InsAt W0 bc oc is) (hall : ∀ i ∈ is, i.ok = true) (k : Nat) (hk : k < is.length) (hp : 1 ≤ (tg T k).p) :
    Calls Tryd.prog 23 #[.pointer (some ⟨Mb, 0, none⟩), .int .i64 (k : Int)] W fun e W' => e = .returned (.tuple #[]) ∧ StC W0 Mb (.slice (some ⟨bc, oc, none⟩) is.length cc) ge gs gp ce cs cp is.length (stepZ is T w k) W' := by
  have ho := ok_op (all_ok hall hk)
  rcases ops_cases (is.getD k default).op with hz | hz
  · omega
  rcases hz with ho0 | ho1 | ho2 | ho3 | ho4 | ho5 | ho6 | ho7 | ho8 | ho9 | ho10 | ho11 | ho12 | ho13 | ho14 | ho15 | ho16 | ho17 | ho18 | ho19 | ho20 | ho21 | ho22 | ho23 | ho24 | ho25
  · exact step_0 h hbc hin hall k hk hp ho0
  · exact step_1 h hbc hin hall k hk hp ho1
  · exact step_2 h hbc hin hall k hk hp ho2
  · exact step_3 h hbc hin hall k hk hp ho3
  · exact step_4 h hbc hin hall k hk hp ho4
  · exact step_5 h hbc hin hall k hk hp ho5
  · exact step_6 h hbc hin hall k hk hp ho6
  · exact step_7 h hbc hin hall k hk hp ho7
  · exact step_8 h hbc hin hall k hk hp ho8
  · exact step_9 h hbc hin hall k hk hp ho9
  · exact step_10 h hbc hin hall k hk hp ho10
  · exact step_11 h hbc hin hall k hk hp ho11
  · exact step_12 h hbc hin hall k hk hp ho12
  · exact step_13 h hbc hin hall k hk hp ho13
  · exact step_14 h hbc hin hall k hk hp ho14
  · exact step_15 h hbc hin hall k hk hp ho15
  · exact step_16 h hbc hin hall k hk hp ho16
  · exact step_17 h hbc hin hall k hk hp ho17
  · exact step_18 h hbc hin hall k hk hp ho18
  · exact step_19 h hbc hin hall k hk hp ho19
  · exact step_20 h hbc hin hall k hk hp ho20
  · exact step_21 h hbc hin hall k hk hp ho21
  · exact step_22 h hbc hin hall k hk hp ho22
  · exact step_23 h hbc hin hall k hk hp ho23
  · exact step_24 h hbc hin hall k hk hp ho24
  · exact step_25 h hbc hin hall k hk hp ho25

/-- Two slices lie in blocks of their own. -/
def Ap (a b : Value) : Prop := ∀ g, a.ownBlock = some g → b.ownBlock ≠ some g

theorem Ap.symm {a b : Value} (h : Ap a b) : Ap b a := fun g h1 h2 => h g h2 h1

structure Own3 (B : Nat) (W : World) (a b c : Value) (na nb nc : Nat) (xs ys zs : List Value) : Prop where
  ra : W.ownsRow B 3 1 a na xs
  rb : W.ownsRow B 3 1 b nb ys
  rc : W.ownsRow B 3 1 c nc zs
  ab : Ap a b
  ac : Ap a c
  bc : Ap b c

theorem Own3.turn {B : Nat} {W : World} {a b c : Value} {na nb nc : Nat} {xs ys zs : List Value} (h : Own3 B W a b c na nb nc xs ys zs) : Own3 B W b c a nb nc na ys zs xs := ⟨h.rb, h.rc, h.ra, h.bc, h.ab.symm, h.ac.symm⟩

theorem Own3.app {B : Nat} {W W1 W' : World} {a b c a' : Value} {na nb nc : Nat} {xs ys zs : List Value} {x : Value} (h : Own3 B W a b c na nb nc xs ys zs) (hb : Below W.heap.size W W1) (ho : W'.ownsRow B 3 1 a' (na + 1) (xs ++ [x])) (hg : W1.grownBy W' a.ownBlock) (ha : a'.ownBlock = a.ownBlock ∨ a'.ownBlock = some W1.heap.size) : Own3 B W' a' b c (na + 1) nb nc (xs ++ [x]) ys zs := by
  have lt : ∀ {v : Value} {n : Nat} {l : List Value}, W.ownsRow B 3 1 v n l → ∀ g, v.ownBlock = some g → g < W.heap.size := fun {v n l} hr g hg => by
    obtain ⟨-, cur, hc⟩ := ck_type hr hg
    exact heap_lt hc
  have keep : ∀ {v : Value} {n : Nat} {l : List Value}, W.ownsRow B 3 1 v n l → Ap a v → W'.ownsRow B 3 1 v n l := fun {v n l} hr hap => ck_same hr (fun g hv => (hg.block g (Nat.lt_of_lt_of_le (lt hr g hv) hb.size) (fun e => hap g e.symm hv)).trans (hb.block g (lt hr g hv)))
  have ap : ∀ {v : Value} {n : Nat} {l : List Value}, W.ownsRow B 3 1 v n l → Ap a v → Ap a' v := fun {v n l} hr hap g h1 h2 => by
    rcases ha with e | e
    · exact hap g (e ▸ h1) h2
    · rw [e] at h1
      have := Option.some.inj h1
      have := lt hr g h2
      have := hb.size
      omega
  exact ⟨ho, keep h.rb h.ab, keep h.rc h.ac, ap h.rb h.ab, ap h.rc h.ac, h.bc⟩

theorem Own3.set {B : Nat} {W : World} {a b c : Value} {na nb nc : Nat} {xs ys zs : List Value} (h : Own3 B W a b c na nb nc xs ys zs) {Mb i : Nat} {c0 : Array Value} (hb : W.heap[Mb]? = some (.cells c0 38)) (v : Value) : Own3 B (W.setCell ⟨Mb, i, none⟩ v) a b c na nb nc xs ys zs := by
  have keep : ∀ {v' : Value} {n : Nat} {l : List Value}, W.ownsRow B 3 1 v' n l → (W.setCell ⟨Mb, i, none⟩ v).ownsRow B 3 1 v' n l := fun {v' n l} hr => ck_same hr (fun g hv => Below.heap_setCell W ⟨Mb, i, none⟩ _ g (fun e => by
    have e' : g = Mb := e
    subst e'
    obtain ⟨-, cur, hc⟩ := ck_type hr hv
    rw [hb] at hc
    cases hc))
  exact ⟨keep h.ra, keep h.rb, keep h.rc, h.ab, h.ac, h.bc⟩

/-- The check while its rows are made. -/
structure Bd (W0 : World) (Mb : Nat) (vc a b c : Value) (na nb nc : Nat) (bad : Bool) (W : World) : Prop where
  blk : W.heap[Mb]? = some (.cells #[vc, a, b, c, .slice none 0 0, .bool bad] 38)
  rows : Own3 W0.heap.size W a b c na nb nc (List.replicate na (.int .i64 (-1))) (List.replicate nb (.int .i64 (-1))) (List.replicate nc (.int .i64 0))
  mb : W0.heap.size ≤ Mb
  bel : Below W0.heap.size W0 W

theorem Bd.below {W0 : World} {Mb : Nat} {vc a b c : Value} {na nb nc : Nat} {bad : Bool} {W W' : World} (h : Bd W0 Mb vc a b c na nb nc bad W) (hb : Below W.heap.size W W') : Bd W0 Mb vc a b c na nb nc bad W' :=
  ⟨(hb.block _ (heap_lt h.blk)).trans h.blk, ⟨kept_owns h.rows.ra hb, kept_owns h.rows.rb hb, kept_owns h.rows.rc hb, h.rows.ab, h.rows.ac, h.rows.bc⟩, h.mb, h.bel.trans (hb.mono h.bel.size)⟩

theorem Bd.flag {W0 : World} {Mb : Nat} {vc a b c : Value} {na nb nc : Nat} {bad : Bool} {W : World} (h : Bd W0 Mb vc a b c na nb nc bad W) (x : Bool) : Bd W0 Mb vc a b c na nb nc x (W.setCell ⟨Mb, 5, none⟩ (.bool x)) :=
  ⟨by simp [World.setCell, Array.getElem?_modify, h.blk], h.rows.set h.blk _, h.mb, ⟨h.bel.os, h.bel.tape, h.bel.output, by simpa [World.setCell] using h.bel.size, fun q hq => (Below.heap_setCell W ⟨Mb, 5, none⟩ _ q (by have := h.mb; dsimp only; omega)).trans (h.bel.block q hq)⟩⟩

theorem grown_bel {W0 W W1 W' : World} {B : Nat} {v : Value} {n : Nat} {xs : List Value} {Mb i : Nat} {u : Value} (h : Below W0.heap.size W0 W) (hr : W.ownsRow W0.heap.size 3 B v n xs) (hb : Below W.heap.size W W1) (hg : W1.grownBy W' v.ownBlock) (hm : W0.heap.size ≤ Mb) : Below W0.heap.size W0 (W'.setCell ⟨Mb, i, none⟩ u) :=
  ⟨hg.os.trans (hb.os.trans h.os), hg.tape.trans (hb.tape.trans h.tape), hg.output.trans (hb.output.trans h.output), by have := h.size; have := hb.size; have := hg.size; simp [World.setCell]; omega, fun q hq => by
    refine (Below.heap_setCell W' ⟨Mb, i, none⟩ _ q (by dsimp only; omega)).trans ((hg.block q (by have := h.size; have := hb.size; omega) (fun e => ?_)).trans ((hb.block q (by have := h.size; omega)).trans (h.block q hq)))
    have := (ck_type hr e.symm).1
    omega⟩

theorem grown_blk {W W1 W' : World} {B : Nat} {v : Value} {n : Nat} {xs : List Value} {Mb : Nat} {c0 : Array Value} (hr : W.ownsRow B 3 1 v n xs) (hb : Below W.heap.size W W1) (hg : W1.grownBy W' v.ownBlock) (hm : W.heap[Mb]? = some (.cells c0 38)) : W'.heap[Mb]? = some (.cells c0 38) :=
  (hg.block Mb (Nat.lt_of_lt_of_le (heap_lt hm) hb.size) (fun e => by
    obtain ⟨-, cur, hc⟩ := ck_type hr e.symm
    rw [hm] at hc
    cases hc)).trans ((hb.block Mb (heap_lt hm)).trans hm)

theorem rep_more (n : Nat) (v : Value) : List.replicate (n + 1) v = List.replicate n v ++ [v] := List.replicate_succ'

theorem Bd.app1 {W0 : World} {Mb : Nat} {vc a b c a' : Value} {na nb nc : Nat} {bad : Bool} {W W1 W' : World} (h : Bd W0 Mb vc a b c na nb nc bad W) (hb : Below W.heap.size W W1) (ho : W'.ownsRow W0.heap.size 3 1 a' (na + 1) (List.replicate na (.int .i64 (-1)) ++ [.int .i64 (-1)])) (hg : W1.grownBy W' a.ownBlock) (ha : a'.ownBlock = a.ownBlock ∨ a'.ownBlock = some W1.heap.size) : Bd W0 Mb vc a' b c (na + 1) nb nc bad (W'.setCell ⟨Mb, 1, none⟩ a') := by
  have hk := grown_blk h.rows.ra hb hg h.blk
  have hO := (h.rows.app hb ho hg ha).set (i := 1) hk a'
  rw [← rep_more] at hO
  exact ⟨by simp [World.setCell, Array.getElem?_modify, hk], hO, h.mb, grown_bel h.bel h.rows.ra hb hg h.mb⟩

theorem Bd.app2 {W0 : World} {Mb : Nat} {vc a b c b' : Value} {na nb nc : Nat} {bad : Bool} {W W1 W' : World} (h : Bd W0 Mb vc a b c na nb nc bad W) (hb : Below W.heap.size W W1) (ho : W'.ownsRow W0.heap.size 3 1 b' (nb + 1) (List.replicate nb (.int .i64 (-1)) ++ [.int .i64 (-1)])) (hg : W1.grownBy W' b.ownBlock) (ha : b'.ownBlock = b.ownBlock ∨ b'.ownBlock = some W1.heap.size) : Bd W0 Mb vc a b' c na (nb + 1) nc bad (W'.setCell ⟨Mb, 2, none⟩ b') := by
  have hk := grown_blk h.rows.rb hb hg h.blk
  have hO := ((h.rows.turn.app hb ho hg ha).turn.turn).set (i := 2) hk b'
  rw [← rep_more] at hO
  exact ⟨by simp [World.setCell, Array.getElem?_modify, hk], hO, h.mb, grown_bel h.bel h.rows.rb hb hg h.mb⟩

theorem Bd.app3 {W0 : World} {Mb : Nat} {vc a b c c' : Value} {na nb nc : Nat} {bad : Bool} {W W1 W' : World} (h : Bd W0 Mb vc a b c na nb nc bad W) (hb : Below W.heap.size W W1) (ho : W'.ownsRow W0.heap.size 3 1 c' (nc + 1) (List.replicate nc (.int .i64 0) ++ [.int .i64 0])) (hg : W1.grownBy W' c.ownBlock) (ha : c'.ownBlock = c.ownBlock ∨ c'.ownBlock = some W1.heap.size) : Bd W0 Mb vc a b c' na nb (nc + 1) bad (W'.setCell ⟨Mb, 3, none⟩ c') := by
  have hk := grown_blk h.rows.rc hb hg h.blk
  have hO := ((h.rows.turn.turn.app hb ho hg ha).turn).set (i := 3) hk c'
  rw [← rep_more] at hO
  exact ⟨by simp [World.setCell, Array.getElem?_modify, hk], hO, h.mb, grown_bel h.bel h.rows.rc hb hg h.mb⟩

/-- Behind the making of rows: the check at its beginning. -/
theorem Bd.start {W0 : World} {Mb : Nat} {vc a b c : Value} {N : Nat} {W : World} (h : Bd W0 Mb vc a b c N N N false W) (h0 : 0 < N) (hN : N ≤ 1500) : ∃ ge gs gp ce cs cp, a = .slice (some ⟨ge, 0, none⟩) N ce ∧ b = .slice (some ⟨gs, 0, none⟩) N cs ∧ c = .slice (some ⟨gp, 0, none⟩) N cp ∧ Ck W0 Mb vc ge gs gp ce cs cp N (List.replicate N ⟨0, 0, 0⟩) [] (.slice none 0 0) false W := by
  have form : ∀ {v : Value} {xs : List Value}, W.ownsRow W0.heap.size 3 1 v N xs → ∃ g c, v = .slice (some ⟨g, 0, none⟩) N c := fun {v xs} hr => by
    obtain ⟨-, ⟨-, e⟩ | ⟨g, cap, cur, rfl, -⟩⟩ := hr
    · omega
    · exact ⟨g, cap, rfl⟩
  obtain ⟨ge, ce, rfl⟩ := form h.rows.ra
  obtain ⟨gs, cs, rfl⟩ := form h.rows.rb
  obtain ⟨gp, cp, rfl⟩ := form h.rows.rc
  have rep : ∀ f : Sq → Int, rowI f (List.replicate N ⟨0, 0, 0⟩) = List.replicate N (.int .i64 (f ⟨0, 0, 0⟩)) := fun f => by
    unfold rowI
    rw [List.map_replicate]
  have fr := free_le (List.replicate N (⟨0, 0, 0⟩ : Sq))
  rw [List.length_replicate] at fr
  refine ⟨ge, gs, gp, ce, cs, cp, rfl, rfl, rfl, h.blk, ?_, ?_, ?_, World.ownsRow_nil _ _ _ _, ⟨fun e => h.rows.ab ge rfl (by rw [e]; rfl), fun e => h.rows.ac ge rfl (by rw [e]; rfl), fun e => h.rows.bc gs rfl (by rw [e]; rfl), fun e => (by cases e), fun e => (by cases e), fun e => (by cases e)⟩, List.length_replicate, hN, fun s hs => ?_, by simpa using fr, h.mb, h.bel⟩
  · rw [rep]
    exact h.rows.ra
  · rw [rep]
    exact h.rows.rb
  · rw [rep]
    exact h.rows.rc
  · rw [List.eq_of_mem_replicate hs]
    exact Or.inl ⟨rfl, rfl, rfl⟩
end Go.Proofs.YtfmkgppkgmjpfaaDoor
