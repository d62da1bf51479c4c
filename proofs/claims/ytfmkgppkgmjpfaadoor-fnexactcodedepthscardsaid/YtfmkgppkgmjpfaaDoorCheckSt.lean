/- What the specification's check of code keeps in memory; a place is come to. -/
import Derived.Test.YtfmkgppkgmjpfaaDoorValidPure
import Derived.Test.YtfmkgppkgmjpfaaDoorOwnRow
import Derived.Laws.OwnMore
import Derived.Maps.AppendAt
namespace Go.Proofs.YtfmkgppkgmjpfaaDoor
open Go.RowKit

theorem ck_type {W : World} {B : Nat} {e : TypeId} {sz : Nat} {v : Value} {n : Nat} {xs : List Value} (h : W.ownsRow B e sz v n xs) {g : Nat} (hg : v.ownBlock = some g) : B ≤ g ∧ ∃ cur, W.heap[g]? = some (.cells cur e) := by
  obtain ⟨-, ⟨rfl, -⟩ | ⟨g', cap, cur, rfl, hB, hc, -⟩⟩ := h
  · cases hg
  · cases hg
    exact ⟨hB, cur, hc⟩

theorem ck_slice {W : World} {B : Nat} {e : TypeId} {sz : Nat} {v : Value} {n : Nat} {xs : List Value} (h : W.ownsRow B e sz v n xs) : ∃ ad c, v = .slice ad n c := by
  obtain ⟨-, ⟨rfl, rfl⟩ | ⟨g', cap, cur, rfl, -⟩⟩ := h
  · exact ⟨_, _, rfl⟩
  · exact ⟨_, _, rfl⟩

theorem ck_same {W W' : World} {B : Nat} {e : TypeId} {sz : Nat} {v : Value} {n : Nat} {xs : List Value} (h : W.ownsRow B e sz v n xs) (he : ∀ g, v.ownBlock = some g → W'.heap[g]? = W.heap[g]?) : W'.ownsRow B e sz v n xs := by
  obtain ⟨h1, h2 | ⟨g', cap, cur, rfl, hB, hc, r⟩⟩ := h
  · exact ⟨h1, Or.inl h2⟩
  · exact ⟨h1, Or.inr ⟨g', cap, cur, rfl, hB, (he g' rfl).trans hc, r⟩⟩

theorem ck_take {W : World} {B : Nat} {e : TypeId} {ad : Option Addr} {n c : Nat} {xs : List Value} (h : W.ownsRow B e 1 (.slice ad n c) n xs) (hn : 0 < n) : W.ownsRow B e 1 (.slice ad (n - 1) c) (n - 1) (xs.take (n - 1)) := by
  obtain ⟨h1, ⟨-, h2⟩ | ⟨g', cap, cur, e1, hB, hc, r1, r2, r3, r4⟩⟩ := h
  · omega
  · cases e1
    refine ⟨by rw [List.length_take]; omega, Or.inr ⟨g', c, cur, rfl, hB, hc, by omega, r2, r3, ?_⟩⟩
    rw [← r4, List.take_take]
    congr 1
    omega

def envV (s : Sq) : Int := if s.p = 0 then -1 else s.n
def stkV (s : Sq) : Int := if s.p = 0 then -1 else s.v
def parV (s : Sq) : Int := if s.p = 0 then 0 else s.p - 1

def rowI (f : Sq → Int) (T : List Sq) : List Value := T.map (fun s => Value.int .i64 (f s))
def rowN (w : List Nat) : List Value := w.map (fun (k : Nat) => Value.int .i64 (k : Int))

theorem rowI_get {f : Sq → Int} {T : List Sq} {k : Nat} (hk : k < T.length) : (rowI f T)[k]? = some (.int .i64 (f (tg T k))) := by
  unfold rowI tg
  rw [List.getElem?_map, List.getElem?_eq_getElem hk, List.getD_eq_getElem?_getD, List.getElem?_eq_getElem hk]
  rfl

theorem rowI_set (f : Sq → Int) (T : List Sq) (k : Nat) (s : Sq) : rowI f (T.set k s) = (rowI f T).set k (.int .i64 (f s)) := by
  unfold rowI
  rw [List.map_set]

theorem tg_mem {T : List Sq} {k : Nat} (hk : k < T.length) : tg T k ∈ T := by
  unfold tg
  rw [List.getD_eq_getElem?_getD, List.getElem?_eq_getElem hk]
  exact List.getElem_mem _

/-- The check, as it lies. -/
structure Ck (W0 : World) (Mb : Nat) (vc : Value) (ge gs gp ce cs cp N : Nat) (T : List Sq) (w : List Nat) (vw : Value) (bad : Bool) (W : World) : Prop where
  blk : W.heap[Mb]? = some (.cells #[vc, .slice (some ⟨ge, 0, none⟩) N ce, .slice (some ⟨gs, 0, none⟩) N cs, .slice (some ⟨gp, 0, none⟩) N cp, vw, .bool bad] 38)
  er : W.ownsRow W0.heap.size 3 1 (.slice (some ⟨ge, 0, none⟩) N ce) N (rowI envV T)
  sr : W.ownsRow W0.heap.size 3 1 (.slice (some ⟨gs, 0, none⟩) N cs) N (rowI stkV T)
  pr : W.ownsRow W0.heap.size 3 1 (.slice (some ⟨gp, 0, none⟩) N cp) N (rowI parV T)
  wr : W.ownsRow W0.heap.size 3 1 vw w.length (rowN w)
  ne : ge ≠ gs ∧ ge ≠ gp ∧ gs ≠ gp ∧ vw.ownBlock ≠ some ge ∧ vw.ownBlock ≠ some gs ∧ vw.ownBlock ≠ some gp
  len : T.length = N
  nl : N ≤ 1500
  sane : ∀ s ∈ T, SaneS s
  room : w.length + free T ≤ N
  mb : W0.heap.size ≤ Mb
  bel : Below W0.heap.size W0 W

/-- The check's flag is written. -/
theorem Ck.flag {W0 : World} {Mb : Nat} {vc : Value} {ge gs gp ce cs cp N : Nat} {T : List Sq} {w : List Nat} {vw : Value} {bad : Bool} {W : World} (h : Ck W0 Mb vc ge gs gp ce cs cp N T w vw bad W) (b : Bool) :
    Ck W0 Mb vc ge gs gp ce cs cp N T w vw b (W.setCell ⟨Mb, 5, none⟩ (.bool b)) := by
  have ho : ∀ q, q ≠ Mb → (W.setCell ⟨Mb, 5, none⟩ (.bool b)).heap[q]? = W.heap[q]? := fun q hq => Below.heap_setCell W ⟨Mb, 5, none⟩ _ q hq
  have hn : ∀ {v : Value} {n : Nat} {xs : List Value}, W.ownsRow W0.heap.size 3 1 v n xs → (W.setCell ⟨Mb, 5, none⟩ (.bool b)).ownsRow W0.heap.size 3 1 v n xs := fun {v n xs} hr => ck_same hr (fun g hg => ho g (fun e => by
    subst e
    obtain ⟨-, cur, hc⟩ := ck_type hr hg
    rw [h.blk] at hc
    cases hc))
  refine ⟨by simp [World.setCell, Array.getElem?_modify, h.blk], hn h.er, hn h.sr, hn h.pr, hn h.wr, h.ne, h.len, h.nl, h.sane, h.room, h.mb, ?_⟩
  exact ⟨h.bel.os, h.bel.tape, h.bel.output, by simpa [World.setCell] using h.bel.size, fun q hq => (ho q (by have := h.mb; omega)).trans (h.bel.block q hq)⟩

theorem Ck.cells {W0 : World} {Mb : Nat} {vc : Value} {ge gs gp ce cs cp N : Nat} {T : List Sq} {w : List Nat} {vw : Value} {bad : Bool} {W : World} (h : Ck W0 Mb vc ge gs gp ce cs cp N T w vw bad W) {k : Nat} (hk : k < N) :
    W.cell? ⟨ge, k, none⟩ = some (.int .i64 (envV (tg T k))) ∧ W.cell? ⟨gs, k, none⟩ = some (.int .i64 (stkV (tg T k))) ∧ W.cell? ⟨gp, k, none⟩ = some (.int .i64 (parV (tg T k))) ∧ W.frozen? ⟨ge, k, none⟩ = false ∧ W.frozen? ⟨gs, k, none⟩ = false ∧ W.frozen? ⟨gp, k, none⟩ = false := by
  have hl := h.len
  refine ⟨?_, ?_, ?_, World.ownsRow.frozenAt h.er k, World.ownsRow.frozenAt h.sr k, World.ownsRow.frozenAt h.pr k⟩
  · rw [World.ownsRow.cellAt h.er k (by omega)]
    exact rowI_get (by omega)
  · rw [World.ownsRow.cellAt h.sr k (by omega)]
    exact rowI_get (by omega)
  · rw [World.ownsRow.cellAt h.pr k (by omega)]
    exact rowI_get (by omega)

/-- Three stores, one a row. -/
def noted (W : World) (ge gs gp k : Nat) (a b c : Int) : World := ((W.setCell ⟨ge, k, none⟩ (.int .i64 a)).setCell ⟨gs, k, none⟩ (.int .i64 b)).setCell ⟨gp, k, none⟩ (.int .i64 c)

/-- A place is noted, not yet in the work. -/
theorem Ck.note {W0 : World} {Mb : Nat} {vc : Value} {ge gs gp ce cs cp N : Nat} {T : List Sq} {w : List Nat} {vw : Value} {bad : Bool} {W : World} (h : Ck W0 Mb vc ge gs gp ce cs cp N T w vw bad W) {k : Nat} (hk : k < N) (h0 : (tg T k).p = 0) {s : Sq} (hs : SaneS s) (hp : s.p ≠ 0) :
    Ck W0 Mb vc ge gs gp ce cs cp N (T.set k s) w vw bad (noted W ge gs gp k s.n s.v (s.p - 1)) ∧ (w.length + 1) + free (T.set k s) ≤ N := by
  have hf := free_set T k (by rw [h.len]; exact hk) h0 s hp
  have hr := h.room
  obtain ⟨n1, n2, n3, n4, n5, n6⟩ := h.ne
  have hne : ∀ {v : Value} {n : Nat} {xs : List Value}, W.ownsRow W0.heap.size 3 1 v n xs → ∀ g, v.ownBlock = some g → g ≠ Mb := fun {v n xs} hr g hg e => by
    subst e
    obtain ⟨-, cur, hc⟩ := ck_type hr hg
    rw [h.blk] at hc
    cases hc
  have m1 := hne h.er ge rfl
  have m2 := hne h.sr gs rfl
  have m3 := hne h.pr gp rfl
  have b1 := (ck_type h.er (g := ge) rfl).1
  have b2 := (ck_type h.sr (g := gs) rfl).1
  have b3 := (ck_type h.pr (g := gp) rfl).1
  have ho : ∀ q, q ≠ ge → q ≠ gs → q ≠ gp → (noted W ge gs gp k s.n s.v (s.p - 1)).heap[q]? = W.heap[q]? := fun q q1 q2 q3 => by
    unfold noted
    rw [Below.heap_setCell _ ⟨gp, k, none⟩ _ q q3, Below.heap_setCell _ ⟨gs, k, none⟩ _ q q2, Below.heap_setCell _ ⟨ge, k, none⟩ _ q q1]
  have e1 : envV s = s.n := if_neg hp
  have e2 : stkV s = s.v := if_neg hp
  have e3 : parV s = s.p - 1 := if_neg hp
  refine ⟨⟨(ho Mb (Ne.symm m1) (Ne.symm m2) (Ne.symm m3)).trans h.blk, ?_, ?_, ?_, ?_, h.ne, by rw [List.length_set]; exact h.len, h.nl, fun s' hs' => ?_, by omega, h.mb, ?_⟩, by omega⟩
  · have s1 := (World.ownsRow.stored h.er k (.int .i64 s.n)).1
    rw [rowI_set, e1]
    refine ck_same s1 (fun g hg => ?_)
    have hg' : g = ge := by cases hg; rfl
    subst hg'
    unfold noted
    rw [Below.heap_setCell _ ⟨gp, k, none⟩ _ g n2, Below.heap_setCell _ ⟨gs, k, none⟩ _ g n1]
  · have s0 : (W.setCell ⟨ge, k, none⟩ (.int .i64 s.n)).ownsRow W0.heap.size 3 1 (.slice (some ⟨gs, 0, none⟩) N cs) N (rowI stkV T) := ck_same h.sr (fun g hg => by
      have hg' : g = gs := by cases hg; rfl
      subst hg'
      exact Below.heap_setCell W ⟨ge, k, none⟩ _ g (Ne.symm n1))
    have s1 := (World.ownsRow.stored s0 k (.int .i64 s.v)).1
    rw [rowI_set, e2]
    refine ck_same s1 (fun g hg => ?_)
    have hg' : g = gs := by cases hg; rfl
    subst hg'
    unfold noted
    rw [Below.heap_setCell _ ⟨gp, k, none⟩ _ g n3]
  · have s0 : ((W.setCell ⟨ge, k, none⟩ (.int .i64 s.n)).setCell ⟨gs, k, none⟩ (.int .i64 s.v)).ownsRow W0.heap.size 3 1 (.slice (some ⟨gp, 0, none⟩) N cp) N (rowI parV T) := ck_same h.pr (fun g hg => by
      have hg' : g = gp := by cases hg; rfl
      subst hg'
      rw [Below.heap_setCell _ ⟨gs, k, none⟩ _ g (Ne.symm n3), Below.heap_setCell _ ⟨ge, k, none⟩ _ g (Ne.symm n2)])
    have s1 := (World.ownsRow.stored s0 k (.int .i64 (s.p - 1))).1
    rw [rowI_set, e3]
    exact s1
  · exact ck_same h.wr (fun g hg => ho g (fun e => by subst e; exact n4 hg) (fun e => by subst e; exact n5 hg) (fun e => by subst e; exact n6 hg))
  · rcases List.mem_or_eq_of_mem_set hs' with h1 | rfl
    · exact h.sane s' h1
    · exact hs
  · exact ⟨h.bel.os, h.bel.tape, h.bel.output, by simpa [noted, World.setCell] using h.bel.size, fun q hq => (ho q (by omega) (by omega) (by omega)).trans (h.bel.block q hq)⟩

/-- A place more in the work. -/
theorem Ck.push {W0 : World} {Mb : Nat} {vc : Value} {ge gs gp ce cs cp N : Nat} {T : List Sq} {w : List Nat} {vw vw' : Value} {bad : Bool} {W W1 W' : World} (h : Ck W0 Mb vc ge gs gp ce cs cp N T w vw bad W) (hb : Below W.heap.size W W1) (k : Nat) (hroom : (w.length + 1) + free T ≤ N)
    (ho : W'.ownsRow W0.heap.size 3 1 vw' (w.length + 1) (rowN w ++ [.int .i64 (k : Int)])) (hg : W1.grownBy W' vw.ownBlock) (ha : vw'.ownBlock = vw.ownBlock ∨ vw'.ownBlock = some W1.heap.size) :
    Ck W0 Mb vc ge gs gp ce cs cp N T (w ++ [k]) vw' bad (W'.setCell ⟨Mb, 4, none⟩ vw') := by
  obtain ⟨n1, n2, n3, n4, n5, n6⟩ := h.ne
  have k1 : ∀ q, q < W.heap.size → vw.ownBlock ≠ some q → W'.heap[q]? = W.heap[q]? := fun q hq hn => (hg.block q (Nat.lt_of_lt_of_le hq hb.size) (Ne.symm hn)).trans (hb.block q hq)
  have lt : ∀ {v : Value} {n : Nat} {xs : List Value}, W.ownsRow W0.heap.size 3 1 v n xs → ∀ g, v.ownBlock = some g → g < W.heap.size ∧ g ≠ Mb := fun {v n xs} hr g hg => by
    obtain ⟨-, cur, hc⟩ := ck_type hr hg
    refine ⟨heap_lt hc, fun e => ?_⟩
    subst e
    rw [h.blk] at hc
    cases hc
  have ho4 : ∀ q, q ≠ Mb → (W'.setCell ⟨Mb, 4, none⟩ vw').heap[q]? = W'.heap[q]? := fun q hq => Below.heap_setCell W' ⟨Mb, 4, none⟩ _ q hq
  have hmw : vw.ownBlock ≠ some Mb := fun e => (lt h.wr Mb e).2 rfl
  have hblk' := (k1 Mb (heap_lt h.blk) hmw).trans h.blk
  have e3 : rowN (w ++ [k]) = rowN w ++ [.int .i64 (k : Int)] := by unfold rowN; rw [List.map_append]; rfl
  have l1 := lt h.er ge rfl
  have l2 := lt h.sr gs rfl
  have l3 := lt h.pr gp rfl
  have q1 : ∀ g, g < W.heap.size → vw'.ownBlock = some g → vw.ownBlock = some g := fun g hg e => by
    rcases ha with e1 | e1
    · rw [← e1]; exact e
    · rw [e1] at e
      have := Option.some.inj e
      have := hb.size
      omega
  refine ⟨by simp [World.setCell, Array.getElem?_modify, hblk'], ?_, ?_, ?_, ?_, ⟨n1, n2, n3, fun e => n4 (q1 _ l1.1 e), fun e => n5 (q1 _ l2.1 e), fun e => n6 (q1 _ l3.1 e)⟩, h.len, h.nl, h.sane, by rw [List.length_append, List.length_singleton]; exact hroom, h.mb, ?_⟩
  · refine ck_same h.er (fun g hg => ?_)
    have hg' : g = ge := by cases hg; rfl
    subst hg'
    exact (ho4 g l1.2).trans (k1 g l1.1 n4)
  · refine ck_same h.sr (fun g hg => ?_)
    have hg' : g = gs := by cases hg; rfl
    subst hg'
    exact (ho4 g l2.2).trans (k1 g l2.1 n5)
  · refine ck_same h.pr (fun g hg => ?_)
    have hg' : g = gp := by cases hg; rfl
    subst hg'
    exact (ho4 g l3.2).trans (k1 g l3.1 n6)
  · rw [e3, List.length_append]
    refine ck_same ho (fun g hg => ho4 g (fun e => ?_))
    subst e
    obtain ⟨-, cur, hc⟩ := ck_type ho hg
    rw [hblk'] at hc
    cases hc
  · refine ⟨hg.os.trans (hb.os.trans h.bel.os), hg.tape.trans (hb.tape.trans h.bel.tape), hg.output.trans (hb.output.trans h.bel.output), by have := h.bel.size; have := hb.size; have := hg.size; simp [World.setCell]; omega, fun q hq => ?_⟩
    refine (ho4 q (by have := h.mb; omega)).trans ((k1 q (by have := h.bel.size; omega) (fun e => ?_)).trans (h.bel.block q hq))
    have := (ck_type h.wr e).1
    omega

theorem Ck.below {W0 : World} {Mb : Nat} {vc : Value} {ge gs gp ce cs cp N : Nat} {T : List Sq} {w : List Nat} {vw : Value} {bad : Bool} {W W' : World} (h : Ck W0 Mb vc ge gs gp ce cs cp N T w vw bad W) (hb : Below W.heap.size W W') : Ck W0 Mb vc ge gs gp ce cs cp N T w vw bad W' :=
  ⟨(hb.block _ (heap_lt h.blk)).trans h.blk, kept_owns h.er hb, kept_owns h.sr hb, kept_owns h.pr hb, kept_owns h.wr hb, h.ne, h.len, h.nl, h.sane, h.room, h.mb, h.bel.trans (hb.mono h.bel.size)⟩

/-- What the check's functions leave as it was: all but its own two kinds of blocks. -/
structure Cz (W W' : World) : Prop where
  size : W.heap.size ≤ W'.heap.size
  block : ∀ (q : Nat) (c : Array Value) (t : TypeId), W.heap[q]? = some (Obj.cells c t) → t ≠ 3 → t ≠ 38 → W'.heap[q]? = W.heap[q]?

theorem Cz.of_below {W W' : World} (h : Below W.heap.size W W') : Cz W W' := ⟨h.size, fun q _ _ hq _ _ => h.block q (heap_lt hq)⟩
theorem Cz.refl (W : World) : Cz W W := Cz.of_below (Below.refl _ _)
theorem Cz.trans {W W' W'' : World} (h : Cz W W') (h' : Cz W' W'') : Cz W W'' :=
  ⟨Nat.le_trans h.size h'.size, fun q c t hq h1 h2 => by
    have e := h.block q c t hq h1 h2
    exact (h'.block q c t (e.trans hq) h1 h2).trans e⟩

theorem cz_set {W : World} {b i : Nat} {c0 : Array Value} {t0 : TypeId} {v : Value} (hb : W.heap[b]? = some (.cells c0 t0)) (ht : t0 = 3 ∨ t0 = 38) : Cz W (W.setCell ⟨b, i, none⟩ v) :=
  ⟨by simp [World.setCell], fun q c t hq h1 h2 => Below.heap_setCell W ⟨b, i, none⟩ _ q (fun e => by
    have e' : q = b := e
    subst e'
    rw [hb] at hq
    cases hq
    rcases ht with ht | ht
    · exact h1 ht
    · exact h2 ht)⟩

theorem cz_grown {W W' : World} {B : Nat} {v : Value} {n : Nat} {xs : List Value} (hr : W.ownsRow B 3 1 v n xs) (hg : W.grownBy W' v.ownBlock) : Cz W W' :=
  ⟨hg.size, fun q c t hq h1 _ => hg.block q (heap_lt hq) (fun e => by
    obtain ⟨-, cur, hc⟩ := ck_type hr e.symm
    rw [hq] at hc
    cases hc
    exact h1 rfl)⟩

/-- What comes of coming to a place. -/
def ComeP (W0 : World) (Mb : Nat) (vc : Value) (ge gs gp ce cs cp N : Nat) (T : List Sq) (w : List Nat) (bad : Bool) (e : Int × Sq) (W W' : World) : Prop :=
  ∃ vw' T' w' bad', Ck W0 Mb vc ge gs gp ce cs cp N T' w' vw' bad' W' ∧ Cz W W' ∧ (bad = true → bad' = true) ∧ (bad = false → comeZ N T w e = none → bad' = true) ∧ (bad = false → ∀ x, comeZ N T w e = some x → bad' = false ∧ T' = x.1 ∧ w' = x.2)

theorem info_intC : (Tryd.prog.info? 3).map (fun i => (i.zero, i.size, i.bytes)) = some (some (.int .i64 0), 1, 8) := by kernel_rfl

set_option maxRecDepth 100000 in
set_option maxHeartbeats 4000000 in
/-- Where a place may not be come to. -/
theorem comeOut_calls {Mb N : Nat} {ac : Option Addr} {cc : Nat} {v1 v2 v3 v4 v5 : Value} {W : World} (hb : W.heap[Mb]? = some (.cells #[.slice ac N cc, v1, v2, v3, v4, v5] 38)) (a en st pa : Int) (h : a < 0 ∨ (N : Int) ≤ a ∨ en < 0 ∨ st < 0 ∨ 100 < en ∨ 100 < st) :
    Calls Tryd.prog 22 #[.pointer (some ⟨Mb, 0, none⟩), .int .i64 a, .int .i64 en, .int .i64 st, .int .i64 pa] W fun e W' => e = .returned (.tuple #[]) ∧ W.setCell ⟨Mb, 5, none⟩ (.bool true) = W' := by
  have c0 := cell_of_heap hb 0
  have c5 := cell_of_heap hb 5
  have z5 := frozen_of_heap hb 5
  simp at c0 c5
  clear hb
  by_cases h1 : a < 0
  · clear h
    go_enter Tryd.func22, Tryd.ntmps22
    go_wp2_with fail
    (try simp only [Exit.inBlock, Exit.then])
    refine bodyPost_ret (results_none rfl _ _ _) rfl ?_
    exact ⟨rfl, rfl⟩
  by_cases h2 : (N : Int) ≤ a
  · clear h
    go_enter Tryd.func22, Tryd.ntmps22
    go_wp2_with fail
    (try simp only [Exit.inBlock, Exit.then])
    refine bodyPost_ret (results_none rfl _ _ _) rfl ?_
    exact ⟨rfl, rfl⟩
  by_cases h3 : en < 0
  · clear h
    go_enter Tryd.func22, Tryd.ntmps22
    go_wp2_with fail
    (try simp only [Exit.inBlock, Exit.then])
    refine bodyPost_ret (results_none rfl _ _ _) rfl ?_
    exact ⟨rfl, rfl⟩
  by_cases h4 : st < 0
  · clear h
    go_enter Tryd.func22, Tryd.ntmps22
    go_wp2_with fail
    (try simp only [Exit.inBlock, Exit.then])
    refine bodyPost_ret (results_none rfl _ _ _) rfl ?_
    exact ⟨rfl, rfl⟩
  by_cases h5 : 100 < en
  · clear h
    go_enter Tryd.func22, Tryd.ntmps22
    go_wp2_with fail
    (try simp only [Exit.inBlock, Exit.then])
    refine bodyPost_ret (results_none rfl _ _ _) rfl ?_
    exact ⟨rfl, rfl⟩
  · have h6 : 100 < st := by omega
    clear h
    go_enter Tryd.func22, Tryd.ntmps22
    go_wp2_with fail
    (try simp only [Exit.inBlock, Exit.then])
    refine bodyPost_ret (results_none rfl _ _ _) rfl ?_
    exact ⟨rfl, rfl⟩
end Go.Proofs.YtfmkgppkgmjpfaaDoor
