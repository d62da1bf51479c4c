import Derived.Test.YtfmkgppkgmjpfaaGreatDoorSlmQb6
import Derived.Test.YtfmkgppkgmjpfaaGreatDoorSlmQb1
import Derived.Laws.OwnMore
import Derived.Maps.AppendAt
import Derived.Test.YtfmkgppkgmjpfaaGreatDoorSlmQb7
import Derived.Deep.CutRange
import Derived.Deep.CutBlock
import Derived.OwnWalk
import Derived.BigQuiet
namespace Go.Proofs.YtfmkgppkgmjpfaaGreatDoor
section
open Go.RowKit
theorem z44 {W : World} {B : Nat} {e : TypeId} {sz : Nat} {v : Value} {n : Nat} {xs : List Value} (h : W.ownsRow B e sz v n xs) {g : Nat} (hg : v.ownBlock = some g) : B ≤ g ∧ ∃ cur, W.heap[g]? = some (.cells cur e) := by
 obtain ⟨-, ⟨rfl, -⟩ | ⟨g', cap, cur, rfl, hB, hc, -⟩⟩ := h
 · cases hg
 · cases hg
   exact ⟨hB, cur, hc⟩
theorem ck_slice {W : World} {B : Nat} {e : TypeId} {sz : Nat} {v : Value} {n : Nat} {xs : List Value} (h : W.ownsRow B e sz v n xs) : ∃ ad c, v = .slice ad n c := by
 obtain ⟨-, ⟨rfl, rfl⟩ | ⟨g', cap, cur, rfl, -⟩⟩ := h
 · exact ⟨_, _, rfl⟩
 · exact ⟨_, _, rfl⟩
theorem ck_same {W W' : World} {B : Nat} {e : TypeId} {sz : Nat} {v : Value} {n : Nat} {xs : List Value} (h : W.ownsRow B e sz v n xs) (he : ∀ g, v.ownBlock = some g → W'.heap[g]? = W.heap[g]?) : W'.ownsRow B e sz v n xs := by
 obtain ⟨h1, h2 | ⟨g', cap, cur, rfl, hB, hc, r⟩⟩ := h
 · exact ⟨h1, Or.inl h2⟩
 · exact ⟨h1, Or.inr ⟨g', cap, cur, rfl, hB, (he g' rfl).trans hc, r⟩⟩
theorem ck_take {W : World} {B : Nat} {e : TypeId} {ad : Option Addr} {n c : Nat} {xs : List Value} (h : W.ownsRow B e 1 (.slice ad n c) n xs) (hn : 0 < n) : W.ownsRow B e 1 (.slice ad (n - 1) c) (n - 1) (xs.take (n - 1)) := by
 obtain ⟨h1, ⟨-, h2⟩ | ⟨g', cap, cur, e1, hB, hc, r1, r2, r3, r4⟩⟩ := h
 · omega
 · cases e1
   refine ⟨by rw [List.length_take]; omega, Or.inr ⟨g', c, cur, rfl, hB, hc, by omega, r2, r3, ?_⟩⟩
   rw [← r4, List.take_take]
   congr 1
   omega
def envV (s : Sq) : Int := if s.p = 0 then -1 else s.n
def stkV (s : Sq) : Int := if s.p = 0 then -1 else s.v
def parV (s : Sq) : Int := if s.p = 0 then 0 else s.p - 1
def rowI (f : Sq → Int) (T : List Sq) : List Value := T.map (fun s => Value.int .i64 (f s))
def rowN (w : List Nat) : List Value := w.map (fun (k : Nat) => Value.int .i64 (k : Int))
theorem rowI_get {f : Sq → Int} {T : List Sq} {k : Nat} (hk : k < T.length) : (rowI f T)[k]? = some (.int .i64 (f (tg T k))) := by
 unfold rowI tg
 rw [List.getElem?_map, List.getElem?_eq_getElem hk, List.getD_eq_getElem?_getD, List.getElem?_eq_getElem hk]
 rfl
theorem rowI_set (f : Sq → Int) (T : List Sq) (k : Nat) (s : Sq) : rowI f (T.set k s) = (rowI f T).set k (.int .i64 (f s)) := by
 unfold rowI
 rw [List.map_set]
theorem z50 {T : List Sq} {k : Nat} (hk : k < T.length) : tg T k ∈ T := by
 unfold tg
 rw [List.getD_eq_getElem?_getD, List.getElem?_eq_getElem hk]
 exact List.getElem_mem _

structure Ck (W0 : World) (Mb : Nat) (vc : Value) (ge gs gp ce cs cp N : Nat) (T : List Sq) (w : List Nat) (vw : Value) (bad : Bool) (W : World) : Prop where
 blk : W.heap[Mb]? = some (.cells #[vc, .slice (some ⟨ge, 0, none⟩) N ce, .slice (some ⟨gs, 0, none⟩) N cs, .slice (some ⟨gp, 0, none⟩) N cp, vw, .bool bad] 47)
 er : W.ownsRow W0.heap.size 3 1 (.slice (some ⟨ge, 0, none⟩) N ce) N (rowI envV T)
 sr : W.ownsRow W0.heap.size 3 1 (.slice (some ⟨gs, 0, none⟩) N cs) N (rowI stkV T)
 pr : W.ownsRow W0.heap.size 3 1 (.slice (some ⟨gp, 0, none⟩) N cp) N (rowI parV T)
 wr : W.ownsRow W0.heap.size 3 1 vw w.length (rowN w)
 ne : ge ≠ gs ∧ ge ≠ gp ∧ gs ≠ gp ∧ vw.ownBlock ≠ some ge ∧ vw.ownBlock ≠ some gs ∧ vw.ownBlock ≠ some gp
 len : T.length = N
 nl : N ≤ 1500
 sane : ∀ s ∈ T, SaneS s
 room : w.length + free T ≤ N
 mb : W0.heap.size ≤ Mb
 bel : Below W0.heap.size W0 W
theorem Ck.flag {W0 : World} {Mb : Nat} {vc : Value} {ge gs gp ce cs cp N : Nat} {T : List Sq} {w : List Nat} {vw : Value} {bad : Bool} {W : World} (h : Ck W0 Mb vc ge gs gp ce cs cp N T w vw bad W) (b : Bool) :
   Ck W0 Mb vc ge gs gp ce cs cp N T w vw b (W.setCell ⟨Mb, 5, none⟩ (.bool b)) := by
 have ho : ∀ q, q ≠ Mb → (W.setCell ⟨Mb, 5, none⟩ (.bool b)).heap[q]? = W.heap[q]? := fun q hq => Below.heap_setCell W ⟨Mb, 5, none⟩ _ q hq
 have hn : ∀ {v : Value} {n : Nat} {xs : List Value}, W.ownsRow W0.heap.size 3 1 v n xs → (W.setCell ⟨Mb, 5, none⟩ (.bool b)).ownsRow W0.heap.size 3 1 v n xs := fun {v n xs} hr => ck_same hr (fun g hg => ho g (fun e => by
   subst e
   obtain ⟨-, cur, hc⟩ := z44 hr hg
   rw [h.blk] at hc
   cases hc))
 refine ⟨by simp [World.setCell, Array.getElem?_modify, h.blk], hn h.er, hn h.sr, hn h.pr, hn h.wr, h.ne, h.len, h.nl, h.sane, h.room, h.mb, ?_⟩
 exact ⟨h.bel.os, h.bel.tape, h.bel.output, by simpa [World.setCell] using h.bel.size, fun q hq => (ho q (by have := h.mb; omega)).trans (h.bel.block q hq)⟩
theorem Ck.cells {W0 : World} {Mb : Nat} {vc : Value} {ge gs gp ce cs cp N : Nat} {T : List Sq} {w : List Nat} {vw : Value} {bad : Bool} {W : World} (h : Ck W0 Mb vc ge gs gp ce cs cp N T w vw bad W) {k : Nat} (hk : k < N) :
   W.cell? ⟨ge, k, none⟩ = some (.int .i64 (envV (tg T k))) ∧ W.cell? ⟨gs, k, none⟩ = some (.int .i64 (stkV (tg T k))) ∧ W.cell? ⟨gp, k, none⟩ = some (.int .i64 (parV (tg T k))) ∧ W.frozen? ⟨ge, k, none⟩ = false ∧ W.frozen? ⟨gs, k, none⟩ = false ∧ W.frozen? ⟨gp, k, none⟩ = false := by
 have hl := h.len
 refine ⟨?_, ?_, ?_, World.ownsRow.frozenAt h.er k, World.ownsRow.frozenAt h.sr k, World.ownsRow.frozenAt h.pr k⟩
 · rw [World.ownsRow.cellAt h.er k (by omega)]
   exact rowI_get (by omega)
 · rw [World.ownsRow.cellAt h.sr k (by omega)]
   exact rowI_get (by omega)
 · rw [World.ownsRow.cellAt h.pr k (by omega)]
   exact rowI_get (by omega)
def noted (W : World) (ge gs gp k : Nat) (a b c : Int) : World := ((W.setCell ⟨ge, k, none⟩ (.int .i64 a)).setCell ⟨gs, k, none⟩ (.int .i64 b)).setCell ⟨gp, k, none⟩ (.int .i64 c)
theorem Ck.note {W0 : World} {Mb : Nat} {vc : Value} {ge gs gp ce cs cp N : Nat} {T : List Sq} {w : List Nat} {vw : Value} {bad : Bool} {W : World} (h : Ck W0 Mb vc ge gs gp ce cs cp N T w vw bad W) {k : Nat} (hk : k < N) (h0 : (tg T k).p = 0) {s : Sq} (hs : SaneS s) (hp : s.p ≠ 0) :
   Ck W0 Mb vc ge gs gp ce cs cp N (T.set k s) w vw bad (noted W ge gs gp k s.n s.v (s.p - 1)) ∧ (w.length + 1) + free (T.set k s) ≤ N := by
 have hf := free_set T k (by rw [h.len]; exact hk) h0 s hp
 have hr := h.room
 obtain ⟨n1, n2, n3, n4, n5, n6⟩ := h.ne
 have hne : ∀ {v : Value} {n : Nat} {xs : List Value}, W.ownsRow W0.heap.size 3 1 v n xs → ∀ g, v.ownBlock = some g → g ≠ Mb := fun {v n xs} hr g hg e => by
   subst e
   obtain ⟨-, cur, hc⟩ := z44 hr hg
   rw [h.blk] at hc
   cases hc
 have m1 := hne h.er ge rfl
 have m2 := hne h.sr gs rfl
 have m3 := hne h.pr gp rfl
 have b1 := (z44 h.er (g := ge) rfl).1
 have b2 := (z44 h.sr (g := gs) rfl).1
 have b3 := (z44 h.pr (g := gp) rfl).1
 have ho : ∀ q, q ≠ ge → q ≠ gs → q ≠ gp → (noted W ge gs gp k s.n s.v (s.p - 1)).heap[q]? = W.heap[q]? := fun q q1 q2 q3 => by
   unfold noted
   rw [Below.heap_setCell _ ⟨gp, k, none⟩ _ q q3, Below.heap_setCell _ ⟨gs, k, none⟩ _ q q2, Below.heap_setCell _ ⟨ge, k, none⟩ _ q q1]
 have e1 : envV s = s.n := if_neg hp
 have e2 : stkV s = s.v := if_neg hp
 have e3 : parV s = s.p - 1 := if_neg hp
 refine ⟨⟨(ho Mb (Ne.symm m1) (Ne.symm m2) (Ne.symm m3)).trans h.blk, ?_, ?_, ?_, ?_, h.ne, by rw [List.length_set]; exact h.len, h.nl, fun s' hs' => ?_, by omega, h.mb, ?_⟩, by omega⟩
 · have s1 := (World.ownsRow.stored h.er k (.int .i64 s.n)).1
   rw [rowI_set, e1]
   refine ck_same s1 (fun g hg => ?_)
   have hg' : g = ge := by cases hg; rfl
   subst hg'
   unfold noted
   rw [Below.heap_setCell _ ⟨gp, k, none⟩ _ g n2, Below.heap_setCell _ ⟨gs, k, none⟩ _ g n1]
 · have s0 : (W.setCell ⟨ge, k, none⟩ (.int .i64 s.n)).ownsRow W0.heap.size 3 1 (.slice (some ⟨gs, 0, none⟩) N cs) N (rowI stkV T) := ck_same h.sr (fun g hg => by
     have hg' : g = gs := by cases hg; rfl
     subst hg'
     exact Below.heap_setCell W ⟨ge, k, none⟩ _ g (Ne.symm n1))
   have s1 := (World.ownsRow.stored s0 k (.int .i64 s.v)).1
   rw [rowI_set, e2]
   refine ck_same s1 (fun g hg => ?_)
   have hg' : g = gs := by cases hg; rfl
   subst hg'
   unfold noted
   rw [Below.heap_setCell _ ⟨gp, k, none⟩ _ g n3]
 · have s0 : ((W.setCell ⟨ge, k, none⟩ (.int .i64 s.n)).setCell ⟨gs, k, none⟩ (.int .i64 s.v)).ownsRow W0.heap.size 3 1 (.slice (some ⟨gp, 0, none⟩) N cp) N (rowI parV T) := ck_same h.pr (fun g hg => by
     have hg' : g = gp := by cases hg; rfl
     subst hg'
     rw [Below.heap_setCell _ ⟨gs, k, none⟩ _ g (Ne.symm n3), Below.heap_setCell _ ⟨ge, k, none⟩ _ g (Ne.symm n2)])
   have s1 := (World.ownsRow.stored s0 k (.int .i64 (s.p - 1))).1
   rw [rowI_set, e3]
   exact s1
 · exact ck_same h.wr (fun g hg => ho g (fun e => by subst e; exact n4 hg) (fun e => by subst e; exact n5 hg) (fun e => by subst e; exact n6 hg))
 · rcases List.mem_or_eq_of_mem_set hs' with h1 | rfl
   · exact h.sane s' h1
   · exact hs
 · exact ⟨h.bel.os, h.bel.tape, h.bel.output, by simpa [noted, World.setCell] using h.bel.size, fun q hq => (ho q (by omega) (by omega) (by omega)).trans (h.bel.block q hq)⟩
theorem Ck.push {W0 : World} {Mb : Nat} {vc : Value} {ge gs gp ce cs cp N : Nat} {T : List Sq} {w : List Nat} {vw vw' : Value} {bad : Bool} {W W1 W' : World} (h : Ck W0 Mb vc ge gs gp ce cs cp N T w vw bad W) (hb : Below W.heap.size W W1) (k : Nat) (hroom : (w.length + 1) + free T ≤ N)
   (ho : W'.ownsRow W0.heap.size 3 1 vw' (w.length + 1) (rowN w ++ [.int .i64 (k : Int)])) (hg : W1.grownBy W' vw.ownBlock) (ha : vw'.ownBlock = vw.ownBlock ∨ vw'.ownBlock = some W1.heap.size) :
   Ck W0 Mb vc ge gs gp ce cs cp N T (w ++ [k]) vw' bad (W'.setCell ⟨Mb, 4, none⟩ vw') := by
 obtain ⟨n1, n2, n3, n4, n5, n6⟩ := h.ne
 have k1 : ∀ q, q < W.heap.size → vw.ownBlock ≠ some q → W'.heap[q]? = W.heap[q]? := fun q hq hn => (hg.block q (Nat.lt_of_lt_of_le hq hb.size) (Ne.symm hn)).trans (hb.block q hq)
 have lt : ∀ {v : Value} {n : Nat} {xs : List Value}, W.ownsRow W0.heap.size 3 1 v n xs → ∀ g, v.ownBlock = some g → g < W.heap.size ∧ g ≠ Mb := fun {v n xs} hr g hg => by
   obtain ⟨-, cur, hc⟩ := z44 hr hg
   refine ⟨z26 hc, fun e => ?_⟩
   subst e
   rw [h.blk] at hc
   cases hc
 have ho4 : ∀ q, q ≠ Mb → (W'.setCell ⟨Mb, 4, none⟩ vw').heap[q]? = W'.heap[q]? := fun q hq => Below.heap_setCell W' ⟨Mb, 4, none⟩ _ q hq
 have hmw : vw.ownBlock ≠ some Mb := fun e => (lt h.wr Mb e).2 rfl
 have hblk' := (k1 Mb (z26 h.blk) hmw).trans h.blk
 have e3 : rowN (w ++ [k]) = rowN w ++ [.int .i64 (k : Int)] := by unfold rowN; rw [List.map_append]; rfl
 have l1 := lt h.er ge rfl
 have l2 := lt h.sr gs rfl
 have l3 := lt h.pr gp rfl
 have q1 : ∀ g, g < W.heap.size → vw'.ownBlock = some g → vw.ownBlock = some g := fun g hg e => by
   rcases ha with e1 | e1
   · rw [← e1]; exact e
   · rw [e1] at e
     have := Option.some.inj e
     have := hb.size
     omega
 refine ⟨by simp [World.setCell, Array.getElem?_modify, hblk'], ?_, ?_, ?_, ?_, ⟨n1, n2, n3, fun e => n4 (q1 _ l1.1 e), fun e => n5 (q1 _ l2.1 e), fun e => n6 (q1 _ l3.1 e)⟩, h.len, h.nl, h.sane, by rw [List.length_append, List.length_singleton]; exact hroom, h.mb, ?_⟩
 · refine ck_same h.er (fun g hg => ?_)
   have hg' : g = ge := by cases hg; rfl
   subst hg'
   exact (ho4 g l1.2).trans (k1 g l1.1 n4)
 · refine ck_same h.sr (fun g hg => ?_)
   have hg' : g = gs := by cases hg; rfl
   subst hg'
   exact (ho4 g l2.2).trans (k1 g l2.1 n5)
 · refine ck_same h.pr (fun g hg => ?_)
   have hg' : g = gp := by cases hg; rfl
   subst hg'
   exact (ho4 g l3.2).trans (k1 g l3.1 n6)
 · rw [e3, List.length_append]
   refine ck_same ho (fun g hg => ho4 g (fun e => ?_))
   subst e
   obtain ⟨-, cur, hc⟩ := z44 ho hg
   rw [hblk'] at hc
   cases hc
 · refine ⟨hg.os.trans (hb.os.trans h.bel.os), hg.tape.trans (hb.tape.trans h.bel.tape), hg.output.trans (hb.output.trans h.bel.output), by have := h.bel.size; have := hb.size; have := hg.size; simp [World.setCell]; omega, fun q hq => ?_⟩
   refine (ho4 q (by have := h.mb; omega)).trans ((k1 q (by have := h.bel.size; omega) (fun e => ?_)).trans (h.bel.block q hq))
   have := (z44 h.wr e).1
   omega
theorem Ck.below {W0 : World} {Mb : Nat} {vc : Value} {ge gs gp ce cs cp N : Nat} {T : List Sq} {w : List Nat} {vw : Value} {bad : Bool} {W W' : World} (h : Ck W0 Mb vc ge gs gp ce cs cp N T w vw bad W) (hb : Below W.heap.size W W') : Ck W0 Mb vc ge gs gp ce cs cp N T w vw bad W' :=
 ⟨(hb.block _ (z26 h.blk)).trans h.blk, z58 h.er hb, z58 h.sr hb, z58 h.pr hb, z58 h.wr hb, h.ne, h.len, h.nl, h.sane, h.room, h.mb, h.bel.trans (hb.mono h.bel.size)⟩

structure Cz (W W' : World) : Prop where
 size : W.heap.size ≤ W'.heap.size
 block : ∀ (q : Nat) (c : Array Value) (t : TypeId), W.heap[q]? = some (Obj.cells c t) → t ≠ 3 → t ≠ 47 → W'.heap[q]? = W.heap[q]?
theorem Cz.of_below {W W' : World} (h : Below W.heap.size W W') : Cz W W' := ⟨h.size, fun q _ _ hq _ _ => h.block q (z26 hq)⟩
theorem Cz.trans {W W' W'' : World} (h : Cz W W') (h' : Cz W' W'') : Cz W W'' :=
 ⟨Nat.le_trans h.size h'.size, fun q c t hq h1 h2 => by
   have e := h.block q c t hq h1 h2
   exact (h'.block q c t (e.trans hq) h1 h2).trans e⟩
theorem cz_set {W : World} {b i : Nat} {c0 : Array Value} {t0 : TypeId} {v : Value} (hb : W.heap[b]? = some (.cells c0 t0)) (ht : t0 = 3 ∨ t0 = 47) : Cz W (W.setCell ⟨b, i, none⟩ v) :=
 ⟨by simp [World.setCell], fun q c t hq h1 h2 => Below.heap_setCell W ⟨b, i, none⟩ _ q (fun e => by
   have e' : q = b := e
   subst e'
   rw [hb] at hq
   cases hq
   rcases ht with ht | ht
   · exact h1 ht
   · exact h2 ht)⟩
theorem cz_grown {W W' : World} {B : Nat} {v : Value} {n : Nat} {xs : List Value} (hr : W.ownsRow B 3 1 v n xs) (hg : W.grownBy W' v.ownBlock) : Cz W W' :=
 ⟨hg.size, fun q c t hq h1 _ => hg.block q (z26 hq) (fun e => by
   obtain ⟨-, cur, hc⟩ := z44 hr e.symm
   rw [hq] at hc
   cases hc
   exact h1 rfl)⟩
def ComeP (W0 : World) (Mb : Nat) (vc : Value) (ge gs gp ce cs cp N : Nat) (T : List Sq) (w : List Nat) (bad : Bool) (e : Int × Sq) (W W' : World) : Prop :=
 ∃ vw' T' w' bad', Ck W0 Mb vc ge gs gp ce cs cp N T' w' vw' bad' W' ∧ Cz W W' ∧ (bad = true → bad' = true) ∧ (bad = false → comeZ N T w e = none → bad' = true) ∧ (bad = false → ∀ x, comeZ N T w e = some x → bad' = false ∧ T' = x.1 ∧ w' = x.2)
theorem info_intC : (Tryz.prog.info? 3).map (fun i => (i.zero, i.size, i.bytes)) = some (some (.int .i64 0), 1, 8) := by kernel_rfl
set_option maxRecDepth 100000 in
set_option maxHeartbeats 4000000 in
theorem comeOut_calls {Mb N : Nat} {ac : Option Addr} {cc : Nat} {v1 v2 v3 v4 v5 : Value} {W : World} (hb : W.heap[Mb]? = some (.cells #[.slice ac N cc, v1, v2, v3, v4, v5] 47)) (a en st pa : Int) (h : a < 0 ∨ (N : Int) ≤ a ∨ en < 0 ∨ st < 0 ∨ 100 < en ∨ 100 < st) :
   Calls Tryz.prog 22 #[.pointer (some ⟨Mb, 0, none⟩), .int .i64 a, .int .i64 en, .int .i64 st, .int .i64 pa] W fun e W' => e = .returned (.tuple #[]) ∧ W.setCell ⟨Mb, 5, none⟩ (.bool true) = W' := by
 have c0 := z11 hb 0
 have c5 := z11 hb 5
 have z5 := z13 hb 5
 simp at c0 c5
 clear hb
 by_cases h1 : a < 0
 · clear h
   go_enter Tryz.func22, Tryz.ntmps22
   go_wp2_with fail
   (try simp only [Exit.inBlock, Exit.then])
   refine bodyPost_ret (results_none rfl _ _ _) rfl ?_
   exact ⟨rfl, rfl⟩
 by_cases h2 : (N : Int) ≤ a
 · clear h
   go_enter Tryz.func22, Tryz.ntmps22
   go_wp2_with fail
   (try simp only [Exit.inBlock, Exit.then])
   refine bodyPost_ret (results_none rfl _ _ _) rfl ?_
   exact ⟨rfl, rfl⟩
 by_cases h3 : en < 0
 · clear h
   go_enter Tryz.func22, Tryz.ntmps22
   go_wp2_with fail
   (try simp only [Exit.inBlock, Exit.then])
   refine bodyPost_ret (results_none rfl _ _ _) rfl ?_
   exact ⟨rfl, rfl⟩
 by_cases h4 : st < 0
 · clear h
   go_enter Tryz.func22, Tryz.ntmps22
   go_wp2_with fail
   (try simp only [Exit.inBlock, Exit.then])
   refine bodyPost_ret (results_none rfl _ _ _) rfl ?_
   exact ⟨rfl, rfl⟩
 by_cases h5 : 100 < en
 · clear h
   go_enter Tryz.func22, Tryz.ntmps22
   go_wp2_with fail
   (try simp only [Exit.inBlock, Exit.then])
   refine bodyPost_ret (results_none rfl _ _ _) rfl ?_
   exact ⟨rfl, rfl⟩
 · have h6 : 100 < st := by omega
   clear h
   go_enter Tryz.func22, Tryz.ntmps22
   go_wp2_with fail
   (try simp only [Exit.inBlock, Exit.then])
   refine bodyPost_ret (results_none rfl _ _ _) rfl ?_
   exact ⟨rfl, rfl⟩
end
section
open Go.RowKit
def depF (f : Sq → Int) (T : List Sq) (k i : Nat) : Value := if i < k then .int .i64 (f (tg T i)) else .int .i64 0
theorem info_intD : (Tryz.prog.info? 3).map (fun i => (i.zero, i.size, i.bytes)) = some (some (.int .i64 0), 1, 8) := by kernel_rfl
theorem made_row (n : Nat) (hn : n ≤ 1500) (w : World) : ∃ c : Array Value, c.size = n ∧ (∀ i, i < n → c[i]? = some (.int .i64 0)) ∧
   (Instr.makeSlice 25 (.int .i64 (n : Int)) (.int .i64 (n : Int))).run Tryz.prog w = .ok (.slice (some ⟨w.heap.size, 0, none⟩) n n) (w.alloc (.cells c 3)) := by
 obtain ⟨i0, hi, hz0, hz1, hz2⟩ := info_parts info_intD
 have h := run_make (P := Tryz.prog) w 25 3 i0 _ Tryz.underlying25 hi hz0 .i64 .i64 n n (by omega) (Int.le_refl _) (by rw [hz2]; omega) (by omega)
 rw [hz1] at h
 simp only [Int.toNat_natCast] at h
 refine ⟨_, ?_, fun i hi => ?_, h⟩
 · rw [size_madeCells]
   omega
 · simp [madeCells, Value.cells, hi, Nat.mod_one]

structure Dp (w0 : World) (g gN gV N : Nat) (T : List Sq) (k : Nat) (X : World) : Prop where
 row : X.rowIs g 43 (3 * N) (spF T)
 nm : X.rowIs gN 3 N (depF envV T k)
 vl : X.rowIs gV 3 N (depF stkV T k)
 bel : Below w0.heap.size w0 X
 lo : w0.heap.size ≤ gN ∧ w0.heap.size ≤ gV
 ne : gN ≠ gV ∧ g ≠ gN ∧ g ≠ gV
theorem depF_step {f : Sq → Int} {T : List Sq} {k : Nat} {x : Int} (hx : x = f (tg T k)) (j : Nat) : (if j = k then Value.int .i64 x else depF f T k j) = depF f T (k + 1) j := by
 unfold depF
 by_cases h : j = k
 · subst h
   rw [if_pos rfl, if_pos (by omega), hx]
 · rw [if_neg h]
   by_cases h2 : j < k
   · rw [if_pos h2, if_pos (by omega)]
   · rw [if_neg h2, if_neg (by omega)]
theorem depF_twice {f : Sq → Int} {T : List Sq} {k : Nat} {x y : Int} (hx : x = f (tg T k)) (j : Nat) : (if j = k then Value.int .i64 x else if j = k then Value.int .i64 y else depF f T k j) = depF f T (k + 1) j := by
 by_cases h : j = k
 · rw [if_pos h, ← depF_step hx j, if_pos h]
 · rw [if_neg h, ← depF_step hx j, if_neg h, if_neg h]
def ImplDepthP (w : World) (is : List In) (e : Ending) (w' : World) : Prop :=
 Below w.heap.size w w' ∧ ((validZ is = false ∧ e = .returned (.tuple #[.slice none 0 0, .slice none 0 0, .bool false])) ∨
   (validZ is = true ∧ ∃ T gN gV, WholeV is T ∧ e = .returned (.tuple #[.slice (some ⟨gN, 0, none⟩) is.length is.length, .slice (some ⟨gV, 0, none⟩) is.length is.length, .bool true]) ∧ w.heap.size ≤ gN ∧ w.heap.size ≤ gV ∧ gN ≠ gV ∧ w'.rowIs gN 3 is.length (depF envV T is.length) ∧ w'.rowIs gV 3 is.length (depF stkV T is.length)))
theorem spF_0 (T : List Sq) (k : Nat) : spF T (k * 3) = .int .i64 (tg T k).n := by
 unfold spF
 rw [show k * 3 / 3 = k by omega, show k * 3 % 3 = 0 by omega]
 rfl
theorem spF_1 (T : List Sq) (k : Nat) : spF T (k * 3 + 1) = .int .i64 (tg T k).v := by
 unfold spF
 rw [show (k * 3 + 1) / 3 = k by omega, show (k * 3 + 1) % 3 = 1 by omega]
 rfl
theorem spF_2 (T : List Sq) (k : Nat) : spF T (k * 3 + 2) = .int .i64 (tg T k).p := by
 unfold spF
 rw [show (k * 3 + 2) / 3 = k by omega, show (k * 3 + 2) % 3 = 2 by omega]
 rfl
set_option maxHeartbeats 8000000 in
set_option maxRecDepth 100000 in
theorem implDepths_any {ac : Option Addr} {cc : Nat} {is : List In} (w : World) (hL : LaidE w) (h : InsSlice w (.slice ac is.length cc) is) (hcc : is.length ≤ cc) :
   Calls Tryz.prog 5 #[.slice ac is.length cc] w (ImplDepthP w is) := by
 have HS := hid (spots_any w h hcc)
 have HL := hid hL
 obtain ⟨N, hN⟩ : ∃ N, is.length = N := ⟨_, rfl⟩
 have HN := hid hN
 rw [hN] at HS ⊢
 clear h hL hcc hN
 go_enter Tryz.func5, Tryz.ntmps5
 go_wp2_with fail
 refine HS.out.mono ?_
 rintro e W1 ⟨hb, ⟨hv, pb, rfl⟩ | ⟨hv, T, g, hw, rfl, hrow⟩⟩
 · have HI := hid (isBad_hit pb W1 (HL.out.stays hb))
   have HB := hid hb
   have HV := hid hv
   clear hb hv HS HL
   go_wp2_with fail
   refine HI.out.mono ?_
   rintro e W2 ⟨rfl, hb2⟩
   have HB2 := hid hb2
   clear hb2 HI
   go_wp2_with fail
   go_ret3
   exact ⟨HB.out.trans (HB2.out.mono HB.out.size), Or.inl ⟨HV.out, rfl⟩⟩
 have HI := hid (isBad_nil W1)
 have HB := hid hb
 have HV := hid (And.intro hv hw)
 have HR := hid hrow
 have HN15 : Hid (N ≤ 1500) := by
   show N ≤ 1500
   have hg := HV.out.1
   unfold validZ codeOkZ at hg
   rw [Bool.and_eq_true, Bool.and_eq_true] at hg
   have := of_decide_eq_true hg.1.1
   have := HN.out
   omega
 clear hb hv hw hrow HS HL
 rw [HN.out] at HR ⊢
 go_wp2_with fail
 refine HI.out.mono ?_
 rintro e W2 ⟨rfl, hb2⟩
 have HB2 := hid (HB.out.trans (hb2.mono HB.out.size))
 have HR2 := hid (HR.out.of_block (hb2.block _ HR.out.lt))
 clear hb2 HI HB HR
 go_wp2_with fail
 refine z33 (S := fun _ => True) (by kernel_rfl) rfl rfl ?_
 refine pick_o 0 (.slice ac N cc) trivial ?_
 refine pick_o 1 (.int .i64 (N : Int)) trivial ?_
 refine pick_o 3 (.slice ac N cc) trivial ?_
 refine pick_o 4 (.int .i64 (N : Int)) trivial ?_
 obtain ⟨c1, hs1, hz1, hm1⟩ := made_row N HN15.out W2.drew
 obtain ⟨c2, hs2, hz2, hm2⟩ := made_row N HN15.out ((W2.alloc (.cells c1 3)).drew)
 have hb1 := HB2.out.trans (((Below.refl W2.heap.size W2).drew).mono HB2.out.size)
 have hb2 := hb1.alloc hb1.size (.cells c1 3)
 have hb3 := hb2.alloc hb2.size (.cells c2 3)
 have t2 := two_new W2.drew (.cells c1 3) (.cells c2 3)
 have HX : Hid (((W2.drew.alloc (.cells c1 3)).alloc (.cells c2 3)).rowIs W2.heap.size 3 N (fun _ => .int .i64 0) ∧ ((W2.drew.alloc (.cells c1 3)).alloc (.cells c2 3)).rowIs (W2.heap.size + 1) 3 N (fun _ => .int .i64 0)) := ⟨⟨c1, t2.1, hs1, hz1⟩, ⟨c2, t2.2, hs2, hz2⟩⟩
 have HR3 := hid (((HR2.out.drew).alloc (.cells c1 3)).alloc (.cells c2 3))
 have HB3 := hid hb3
 have HLt : Hid (g < W2.heap.size ∧ w.heap.size ≤ W2.heap.size) := ⟨HR2.out.lt, HB2.out.size⟩
 clear hb1 hb2 hb3 t2 hs1 hz1 hs2 hz2
 refine pick_fork (i := 2) (j := 5) (by kernel_rfl) ?_ ?_
 · refine ⟨_, .slice (some ⟨W2.heap.size, 0, none⟩) N N, (W2.drew.alloc (.cells c1 3)), rfl, rfl, by simp [go_sem]; rw [hm1]; rfl, trivial, ?_⟩
   refine z15 (by simp [go_sem]; exact rfl) ?_
   refine pick_o 6 (.slice (some ⟨W2.heap.size, 0, none⟩) N N) trivial ?_
   refine z29 (i := 5) (v := .slice (some ⟨W2.heap.size + 1, 0, none⟩) N N) (w1 := ((W2.drew.alloc (.cells c1 3)).alloc (.cells c2 3))) rfl (by kernel_rfl) rfl rfl (by simp [go_sem]; rw [hm2]; simp; rfl) trivial (by simp [go_sem]; exact rfl) ?_
   refine z29 (i := 7) (v := .slice (some ⟨W2.heap.size + 1, 0, none⟩) N N) (w1 := ((W2.drew.alloc (.cells c1 3)).alloc (.cells c2 3))) rfl (by kernel_rfl) rfl rfl (by simp [go_sem]) trivial (by simp [go_sem]; exact rfl) ?_
   refine z32 (by kernel_rfl) ?_
   have HDp : Hid (Dp w g (W2.heap.size) (W2.heap.size + 1) N T 0 ((W2.drew.alloc (.cells c1 3)).alloc (.cells c2 3))) := ⟨HR3.out, HX.out.1.congr (fun i _ => rfl), HX.out.2.congr (fun i _ => rfl), HB3.out, ⟨by have := HLt.out; omega, by have := HLt.out; omega⟩, ⟨by omega, by have := HLt.out; omega, by have := HLt.out; omega⟩⟩
   obtain ⟨X, hX⟩ : ∃ X, ((W2.drew.alloc (.cells c1 3)).alloc (.cells c2 3)) = X := ⟨_, rfl⟩
   rw [hX] at HDp ⊢
   clear hX HX HR3 HB3 hm1 hm2 HR2 HB2 HLt
   generalize hgV : W2.heap.size + 1 = gV at HDp ⊢
   clear hgV
   generalize W2.heap.size = gN at HDp ⊢
   go_wp2_with fail
   have hd0 := HDp.out
   go_loopw [26] (fun i wr => ∃ k : Nat, k ≤ N ∧ i = .int .i64 k ∧ Hid (Dp w g gN gV N T k wr)) (fun i _ => N - (intOf i).toNat)
   case atStart => exact ⟨0, Nat.zero_le _, rfl, HDp.out⟩
   case round =>
     obtain ⟨k, hk, rfl, HD⟩ := hrel
     clear HDp hd0
     by_cases hkl : (k : Int) < (N : Int)
     · have f0 := HD.out.row.cell (i := k * 3) (by omega)
       have f1 := HD.out.row.cell (i := k * 3 + 1) (by omega)
       have f2 := HD.out.row.cell (i := k * 3 + 2) (by omega)
       rw [spF_0] at f0
       rw [spF_1] at f1
       rw [spF_2] at f2
       have hi0 : (0 : Int) ≤ (k : Int) := by omega
       obtain ⟨s, hs⟩ : ∃ s, tg T k = s := ⟨_, rfl⟩
       rw [hs] at f0 f1 f2
       have HSq := hid hs
       clear hs
       go_wp2_with fail
       clear f0 f1 f2
       have hA := MapKept.heap_alloc wr (.cells #[.int .i64 s.n, .int .i64 s.v, .int .i64 s.p] 43)
       have HDa : Hid (Dp w g gN gV N T k (wr.alloc (.cells #[.int .i64 s.n, .int .i64 s.v, .int .i64 s.p] 43))) := ⟨HD.out.row.alloc _, HD.out.nm.alloc _, HD.out.vl.alloc _, HD.out.bel.alloc HD.out.bel.size _, HD.out.lo, HD.out.ne⟩
       have HNe : Hid (wr.heap.size ≠ gN ∧ wr.heap.size ≠ gV) := ⟨by have := HD.out.nm.lt; omega, by have := HD.out.vl.lt; omega⟩
       generalize wr.alloc (.cells #[.int .i64 s.n, .int .i64 s.v, .int .i64 s.p] 43) = Y at hA HDa ⊢
       generalize wr.heap.size = b at hA HNe ⊢
       have HBk := hid hA.1
       have e0 := z11 hA.1 0
       have e1 := z11 hA.1 1
       simp at e0 e1
       clear hA HD
       refine z33 (S := fun w' => w'.cell? ⟨b, 0, none⟩ = some (.int .i64 s.n) ∧ w'.cell? ⟨b, 1, none⟩ = some (.int .i64 s.v)) (by kernel_rfl) rfl rfl ?_
       have hS0 : (Y.drew).cell? ⟨b, 0, none⟩ = some (.int .i64 s.n) ∧ (Y.drew).cell? ⟨b, 1, none⟩ = some (.int .i64 s.v) := ⟨e0, e1⟩
       refine pick_o 0 (.slice (some ⟨gN, 0, none⟩) N N) hS0 ?_
       refine pick_o 1 (.int .i64 (k : Int)) hS0 ?_
       refine pick_o 2 (.slice (some ⟨gV, 0, none⟩) N N) hS0 ?_
       refine pick_o 3 (.int .i64 (k : Int)) hS0 ?_
       refine pick_o 4 (.pointer (some ⟨b, 0, none⟩)) hS0 ?_
       refine pick_o (hy := fun w' h => by simp [go_sem, h.1]) 5 (.int .i64 s.n) hS0 ?_
       refine pick_o 6 (.pointer (some ⟨b, 1, none⟩)) hS0 ?_
       refine pick_o (hy := fun w' h => by simp [go_sem, h.2]) 7 (.int .i64 s.v) hS0 ?_
       refine pick_o (hy := fun w' h => by simp [go_sem, hi0, hkl]) 8 (.pointer (some ⟨gN, k, none⟩)) hS0 ?_
       have hn0 := HDa.out.nm.cell (i := k) (by omega)
       have hn1 := HDa.out.nm.frozen k
       have HY1 := hid (HDa.out.nm.drew.set k (.int .i64 s.n))
       have q0 : ((Y.drew).setCell ⟨gN, k, none⟩ (.int .i64 s.n)).cell? ⟨b, 0, none⟩ = some (.int .i64 s.n) ∧ ((Y.drew).setCell ⟨gN, k, none⟩ (.int .i64 s.n)).cell? ⟨b, 1, none⟩ = some (.int .i64 s.v) := by
         have hb := Below.heap_setCell Y.drew ⟨gN, k, none⟩ (.int .i64 s.n) b HNe.out.1
         exact ⟨by rw [← e0]; unfold World.cell?; simp only [hb]; rfl, by rw [← e1]; unfold World.cell?; simp only [hb]; rfl⟩
       refine z40 (i := 9) (w1 := (Y.drew).setCell ⟨gN, k, none⟩ (.int .i64 s.n)) (by exact rfl) rfl (by kernel_rfl) rfl rfl (by simp [go_sem, hn0, hn1]; try rfl) q0 ?_
       refine z29 (i := 10) (v := .pointer (some ⟨gV, k, none⟩)) (w1 := (Y.drew).setCell ⟨gN, k, none⟩ (.int .i64 s.n)) rfl (by kernel_rfl) rfl rfl (by simp [go_sem, hi0, hkl]) q0 (by simp [go_sem]; exact rfl) ?_
       have HV1 := hid (HDa.out.vl.drew.setOther (a := ⟨gN, k, none⟩) (Ne.symm HDa.out.ne.1) (.int .i64 s.n))
       have hv0 : (Y.setCell ⟨gN, k, none⟩ (.int .i64 s.n)).cell? ⟨gV, k, none⟩ = some _ := HV1.out.cell (i := k) (by omega)
       have hv1 : Y.frozen? ⟨gV, k, none⟩ = false := HDa.out.vl.frozen k
       have q1 : (((Y.drew).setCell ⟨gN, k, none⟩ (.int .i64 s.n)).setCell ⟨gV, k, none⟩ (.int .i64 s.v)).cell? ⟨b, 0, none⟩ = some (.int .i64 s.n) ∧ (((Y.drew).setCell ⟨gN, k, none⟩ (.int .i64 s.n)).setCell ⟨gV, k, none⟩ (.int .i64 s.v)).cell? ⟨b, 1, none⟩ = some (.int .i64 s.v) := by
         have hb := Below.heap_setCell ((Y.drew).setCell ⟨gN, k, none⟩ (.int .i64 s.n)) ⟨gV, k, none⟩ (.int .i64 s.v) b HNe.out.2
         refine ⟨?_, ?_⟩
         · rw [← q0.1]
           unfold World.cell?
           simp only [hb]
         · rw [← q0.2]
           unfold World.cell?
           simp only [hb]
       refine z40 (i := 11) (w1 := ((Y.drew).setCell ⟨gN, k, none⟩ (.int .i64 s.n)).setCell ⟨gV, k, none⟩ (.int .i64 s.v)) (by exact rfl) rfl (by kernel_rfl) rfl rfl (by simp [go_sem, hv0, hv1]; try rfl) q1 ?_
       refine z32 (by kernel_rfl) ?_
       have HZb : Hid ((((Y.drew).setCell ⟨gN, k, none⟩ (.int .i64 s.n)).setCell ⟨gV, k, none⟩ (.int .i64 s.v)).heap[b]? = _) := (Below.heap_setCell _ ⟨gV, k, none⟩ _ b HNe.out.2).trans ((Below.heap_setCell Y.drew ⟨gN, k, none⟩ _ b HNe.out.1).trans HBk.out)
       have HZn := hid (HY1.out.setOther (a := ⟨gV, k, none⟩) HDa.out.ne.1 (.int .i64 s.v))
       have HZv := hid (HV1.out.set k (.int .i64 s.v))
       have HZg := hid ((HDa.out.row.drew.setOther (a := ⟨gN, k, none⟩) HDa.out.ne.2.1 (.int .i64 s.n)).setOther (a := ⟨gV, k, none⟩) HDa.out.ne.2.2 (.int .i64 s.v))
       have HZl := hid (And.intro HDa.out.lo HDa.out.ne)
       have HZw := hid (z53 (z53 HDa.out.bel.drew ⟨gN, k, none⟩ (.int .i64 s.n) HDa.out.lo.1) ⟨gV, k, none⟩ (.int .i64 s.v) HDa.out.lo.2)
       generalize ((Y.drew).setCell ⟨gN, k, none⟩ (.int .i64 s.n)).setCell ⟨gV, k, none⟩ (.int .i64 s.v) = Z at HZb HZn HZv HZg HZw ⊢
       clear q0 q1 hv0 hv1 HV1 HY1 hn0 hn1 hS0 e0 e1 HDa HBk HNe
       have e2 := z11 HZb.out 2
       simp at e2
       by_cases hp : s.p = 0
       · rw [hp] at e2
         have z0 := HZn.out.cell (i := k) (by omega)
         have z1 := HZn.out.frozen k
         have z2 := (HZv.out.setOther (a := ⟨gN, k, none⟩) (Ne.symm HZl.out.2.1) (.int .i64 (-1))).cell (i := k) (by omega)
         have z3 := HZv.out.frozen k
         go_wp2_with fail
         rw [z69 (n := N) (by omega) (by have := HN15.out; omega)]
         refine ⟨⟨k + 1, by omega, rfl, ?_⟩, by simp only [intOf, Int.toNat_natCast]; omega⟩
         show Dp _ _ _ _ _ _ _ _
         have hl := HZl.out
         exact ⟨(HZg.out.setOther (a := ⟨gN, k, none⟩) hl.2.2.1 _).setOther (a := ⟨gV, k, none⟩) hl.2.2.2 _,
           ((HZn.out.set k _).setOther (a := ⟨gV, k, none⟩) hl.2.1 _).congr (fun j _ => depF_twice (f := envV) (by rw [HSq.out]; unfold envV; rw [if_pos hp]) j),
           ((HZv.out.setOther (a := ⟨gN, k, none⟩) (Ne.symm hl.2.1) _).set k _).congr (fun j _ => depF_twice (f := stkV) (by rw [HSq.out]; unfold stkV; rw [if_pos hp]) j),
           z53 (z53 HZw.out ⟨gN, k, none⟩ _ hl.1.1) ⟨gV, k, none⟩ _ hl.1.2, hl.1, hl.2⟩
       · have hp2 : (s.p == 0) = false := by simpa using hp
         go_wp2_with fail
         rw [z69 (n := N) (by omega) (by have := HN15.out; omega)]
         refine ⟨⟨k + 1, by omega, rfl, ?_⟩, by simp only [intOf, Int.toNat_natCast]; omega⟩
         show Dp _ _ _ _ _ _ _ _
         have hl := HZl.out
         exact ⟨HZg.out, HZn.out.congr (fun j _ => depF_step (f := envV) (by rw [HSq.out]; unfold envV; rw [if_neg hp]) j), HZv.out.congr (fun j _ => depF_step (f := stkV) (by rw [HSq.out]; unfold stkV; rw [if_neg hp]) j), HZw.out, hl.1, hl.2⟩
     · go_wp2_with fail
       go_ret3
       obtain rfl : k = N := by omega
       exact ⟨HD.out.bel, Or.inr ⟨HV.out.1, T, gN, gV, HV.out.2, by rw [HN.out]; rfl, HD.out.lo.1, HD.out.lo.2, HD.out.ne.1, by rw [HN.out]; exact HD.out.nm, by rw [HN.out]; exact HD.out.vl⟩⟩
 · refine ⟨_, .slice (some ⟨W2.heap.size, 0, none⟩) N N, (W2.drew.alloc (.cells c1 3)), rfl, rfl, by simp [go_sem]; rw [hm1]; rfl, trivial, ?_⟩
   refine z15 (by simp [go_sem]; exact rfl) ?_
   refine z29 (i := 2) (v := .slice (some ⟨W2.heap.size + 1, 0, none⟩) N N) (w1 := ((W2.drew.alloc (.cells c1 3)).alloc (.cells c2 3))) rfl (by kernel_rfl) rfl rfl (by simp [go_sem]; rw [hm2]; simp; rfl) trivial (by simp [go_sem]; exact rfl) ?_
   refine z29 (i := 6) (v := .slice (some ⟨W2.heap.size + 1, 0, none⟩) N N) (w1 := ((W2.drew.alloc (.cells c1 3)).alloc (.cells c2 3))) rfl (by kernel_rfl) rfl rfl (by simp [go_sem]) trivial (by simp [go_sem]; exact rfl) ?_
   refine z29 (i := 7) (v := .slice (some ⟨W2.heap.size, 0, none⟩) N N) (w1 := ((W2.drew.alloc (.cells c1 3)).alloc (.cells c2 3))) rfl (by kernel_rfl) rfl rfl (by simp [go_sem]) trivial (by simp [go_sem]; exact rfl) ?_
   refine z32 (by kernel_rfl) ?_
   have HDp : Hid (Dp w g (W2.heap.size + 1) (W2.heap.size) N T 0 ((W2.drew.alloc (.cells c1 3)).alloc (.cells c2 3))) := ⟨HR3.out, HX.out.2.congr (fun i _ => rfl), HX.out.1.congr (fun i _ => rfl), HB3.out, ⟨by have := HLt.out; omega, by have := HLt.out; omega⟩, ⟨by omega, by have := HLt.out; omega, by have := HLt.out; omega⟩⟩
   obtain ⟨X, hX⟩ : ∃ X, ((W2.drew.alloc (.cells c1 3)).alloc (.cells c2 3)) = X := ⟨_, rfl⟩
   rw [hX] at HDp ⊢
   clear hX HX HR3 HB3 hm1 hm2 HR2 HB2 HLt
   generalize hgN : W2.heap.size + 1 = gN at HDp ⊢
   clear hgN
   generalize W2.heap.size = gV at HDp ⊢
   go_wp2_with fail
   have hd0 := HDp.out
   go_loopw [26] (fun i wr => ∃ k : Nat, k ≤ N ∧ i = .int .i64 k ∧ Hid (Dp w g gN gV N T k wr)) (fun i _ => N - (intOf i).toNat)
   case atStart => exact ⟨0, Nat.zero_le _, rfl, HDp.out⟩
   case round =>
     obtain ⟨k, hk, rfl, HD⟩ := hrel
     clear HDp hd0
     by_cases hkl : (k : Int) < (N : Int)
     · have f0 := HD.out.row.cell (i := k * 3) (by omega)
       have f1 := HD.out.row.cell (i := k * 3 + 1) (by omega)
       have f2 := HD.out.row.cell (i := k * 3 + 2) (by omega)
       rw [spF_0] at f0
       rw [spF_1] at f1
       rw [spF_2] at f2
       have hi0 : (0 : Int) ≤ (k : Int) := by omega
       obtain ⟨s, hs⟩ : ∃ s, tg T k = s := ⟨_, rfl⟩
       rw [hs] at f0 f1 f2
       have HSq := hid hs
       clear hs
       go_wp2_with fail
       clear f0 f1 f2
       have hA := MapKept.heap_alloc wr (.cells #[.int .i64 s.n, .int .i64 s.v, .int .i64 s.p] 43)
       have HDa : Hid (Dp w g gN gV N T k (wr.alloc (.cells #[.int .i64 s.n, .int .i64 s.v, .int .i64 s.p] 43))) := ⟨HD.out.row.alloc _, HD.out.nm.alloc _, HD.out.vl.alloc _, HD.out.bel.alloc HD.out.bel.size _, HD.out.lo, HD.out.ne⟩
       have HNe : Hid (wr.heap.size ≠ gN ∧ wr.heap.size ≠ gV) := ⟨by have := HD.out.nm.lt; omega, by have := HD.out.vl.lt; omega⟩
       generalize wr.alloc (.cells #[.int .i64 s.n, .int .i64 s.v, .int .i64 s.p] 43) = Y at hA HDa ⊢
       generalize wr.heap.size = b at hA HNe ⊢
       have HBk := hid hA.1
       have e0 := z11 hA.1 0
       have e1 := z11 hA.1 1
       simp at e0 e1
       clear hA HD
       refine z33 (S := fun w' => w'.cell? ⟨b, 0, none⟩ = some (.int .i64 s.n) ∧ w'.cell? ⟨b, 1, none⟩ = some (.int .i64 s.v)) (by kernel_rfl) rfl rfl ?_
       have hS0 : (Y.drew).cell? ⟨b, 0, none⟩ = some (.int .i64 s.n) ∧ (Y.drew).cell? ⟨b, 1, none⟩ = some (.int .i64 s.v) := ⟨e0, e1⟩
       refine pick_o 0 (.slice (some ⟨gN, 0, none⟩) N N) hS0 ?_
       refine pick_o 1 (.int .i64 (k : Int)) hS0 ?_
       refine pick_o 2 (.slice (some ⟨gV, 0, none⟩) N N) hS0 ?_
       refine pick_o 3 (.int .i64 (k : Int)) hS0 ?_
       refine pick_o 4 (.pointer (some ⟨b, 0, none⟩)) hS0 ?_
       refine pick_o (hy := fun w' h => by simp [go_sem, h.1]) 5 (.int .i64 s.n) hS0 ?_
       refine pick_o 6 (.pointer (some ⟨b, 1, none⟩)) hS0 ?_
       refine pick_o (hy := fun w' h => by simp [go_sem, h.2]) 7 (.int .i64 s.v) hS0 ?_
       refine pick_o (hy := fun w' h => by simp [go_sem, hi0, hkl]) 8 (.pointer (some ⟨gN, k, none⟩)) hS0 ?_
       have hn0 := HDa.out.nm.cell (i := k) (by omega)
       have hn1 := HDa.out.nm.frozen k
       have HY1 := hid (HDa.out.nm.drew.set k (.int .i64 s.n))
       have q0 : ((Y.drew).setCell ⟨gN, k, none⟩ (.int .i64 s.n)).cell? ⟨b, 0, none⟩ = some (.int .i64 s.n) ∧ ((Y.drew).setCell ⟨gN, k, none⟩ (.int .i64 s.n)).cell? ⟨b, 1, none⟩ = some (.int .i64 s.v) := by
         have hb := Below.heap_setCell Y.drew ⟨gN, k, none⟩ (.int .i64 s.n) b HNe.out.1
         exact ⟨by rw [← e0]; unfold World.cell?; simp only [hb]; rfl, by rw [← e1]; unfold World.cell?; simp only [hb]; rfl⟩
       refine z40 (i := 9) (w1 := (Y.drew).setCell ⟨gN, k, none⟩ (.int .i64 s.n)) (by exact rfl) rfl (by kernel_rfl) rfl rfl (by simp [go_sem, hn0, hn1]; try rfl) q0 ?_
       refine z29 (i := 10) (v := .pointer (some ⟨gV, k, none⟩)) (w1 := (Y.drew).setCell ⟨gN, k, none⟩ (.int .i64 s.n)) rfl (by kernel_rfl) rfl rfl (by simp [go_sem, hi0, hkl]) q0 (by simp [go_sem]; exact rfl) ?_
       have HV1 := hid (HDa.out.vl.drew.setOther (a := ⟨gN, k, none⟩) (Ne.symm HDa.out.ne.1) (.int .i64 s.n))
       have hv0 : (Y.setCell ⟨gN, k, none⟩ (.int .i64 s.n)).cell? ⟨gV, k, none⟩ = some _ := HV1.out.cell (i := k) (by omega)
       have hv1 : Y.frozen? ⟨gV, k, none⟩ = false := HDa.out.vl.frozen k
       have q1 : (((Y.drew).setCell ⟨gN, k, none⟩ (.int .i64 s.n)).setCell ⟨gV, k, none⟩ (.int .i64 s.v)).cell? ⟨b, 0, none⟩ = some (.int .i64 s.n) ∧ (((Y.drew).setCell ⟨gN, k, none⟩ (.int .i64 s.n)).setCell ⟨gV, k, none⟩ (.int .i64 s.v)).cell? ⟨b, 1, none⟩ = some (.int .i64 s.v) := by
         have hb := Below.heap_setCell ((Y.drew).setCell ⟨gN, k, none⟩ (.int .i64 s.n)) ⟨gV, k, none⟩ (.int .i64 s.v) b HNe.out.2
         refine ⟨?_, ?_⟩
         · rw [← q0.1]
           unfold World.cell?
           simp only [hb]
         · rw [← q0.2]
           unfold World.cell?
           simp only [hb]
       refine z40 (i := 11) (w1 := ((Y.drew).setCell ⟨gN, k, none⟩ (.int .i64 s.n)).setCell ⟨gV, k, none⟩ (.int .i64 s.v)) (by exact rfl) rfl (by kernel_rfl) rfl rfl (by simp [go_sem, hv0, hv1]; try rfl) q1 ?_
       refine z32 (by kernel_rfl) ?_
       have HZb : Hid ((((Y.drew).setCell ⟨gN, k, none⟩ (.int .i64 s.n)).setCell ⟨gV, k, none⟩ (.int .i64 s.v)).heap[b]? = _) := (Below.heap_setCell _ ⟨gV, k, none⟩ _ b HNe.out.2).trans ((Below.heap_setCell Y.drew ⟨gN, k, none⟩ _ b HNe.out.1).trans HBk.out)
       have HZn := hid (HY1.out.setOther (a := ⟨gV, k, none⟩) HDa.out.ne.1 (.int .i64 s.v))
       have HZv := hid (HV1.out.set k (.int .i64 s.v))
       have HZg := hid ((HDa.out.row.drew.setOther (a := ⟨gN, k, none⟩) HDa.out.ne.2.1 (.int .i64 s.n)).setOther (a := ⟨gV, k, none⟩) HDa.out.ne.2.2 (.int .i64 s.v))
       have HZl := hid (And.intro HDa.out.lo HDa.out.ne)
       have HZw := hid (z53 (z53 HDa.out.bel.drew ⟨gN, k, none⟩ (.int .i64 s.n) HDa.out.lo.1) ⟨gV, k, none⟩ (.int .i64 s.v) HDa.out.lo.2)
       generalize ((Y.drew).setCell ⟨gN, k, none⟩ (.int .i64 s.n)).setCell ⟨gV, k, none⟩ (.int .i64 s.v) = Z at HZb HZn HZv HZg HZw ⊢
       clear q0 q1 hv0 hv1 HV1 HY1 hn0 hn1 hS0 e0 e1 HDa HBk HNe
       have e2 := z11 HZb.out 2
       simp at e2
       by_cases hp : s.p = 0
       · rw [hp] at e2
         have z0 := HZn.out.cell (i := k) (by omega)
         have z1 := HZn.out.frozen k
         have z2 := (HZv.out.setOther (a := ⟨gN, k, none⟩) (Ne.symm HZl.out.2.1) (.int .i64 (-1))).cell (i := k) (by omega)
         have z3 := HZv.out.frozen k
         go_wp2_with fail
         rw [z69 (n := N) (by omega) (by have := HN15.out; omega)]
         refine ⟨⟨k + 1, by omega, rfl, ?_⟩, by simp only [intOf, Int.toNat_natCast]; omega⟩
         show Dp _ _ _ _ _ _ _ _
         have hl := HZl.out
         exact ⟨(HZg.out.setOther (a := ⟨gN, k, none⟩) hl.2.2.1 _).setOther (a := ⟨gV, k, none⟩) hl.2.2.2 _,
           ((HZn.out.set k _).setOther (a := ⟨gV, k, none⟩) hl.2.1 _).congr (fun j _ => depF_twice (f := envV) (by rw [HSq.out]; unfold envV; rw [if_pos hp]) j),
           ((HZv.out.setOther (a := ⟨gN, k, none⟩) (Ne.symm hl.2.1) _).set k _).congr (fun j _ => depF_twice (f := stkV) (by rw [HSq.out]; unfold stkV; rw [if_pos hp]) j),
           z53 (z53 HZw.out ⟨gN, k, none⟩ _ hl.1.1) ⟨gV, k, none⟩ _ hl.1.2, hl.1, hl.2⟩
       · have hp2 : (s.p == 0) = false := by simpa using hp
         go_wp2_with fail
         rw [z69 (n := N) (by omega) (by have := HN15.out; omega)]
         refine ⟨⟨k + 1, by omega, rfl, ?_⟩, by simp only [intOf, Int.toNat_natCast]; omega⟩
         show Dp _ _ _ _ _ _ _ _
         have hl := HZl.out
         exact ⟨HZg.out, HZn.out.congr (fun j _ => depF_step (f := envV) (by rw [HSq.out]; unfold envV; rw [if_neg hp]) j), HZv.out.congr (fun j _ => depF_step (f := stkV) (by rw [HSq.out]; unfold stkV; rw [if_neg hp]) j), HZw.out, hl.1, hl.2⟩
     · go_wp2_with fail
       go_ret3
       obtain rfl : k = N := by omega
       exact ⟨HD.out.bel, Or.inr ⟨HV.out.1, T, gN, gV, HV.out.2, by rw [HN.out]; rfl, HD.out.lo.1, HD.out.lo.2, HD.out.ne.1, by rw [HN.out]; exact HD.out.nm, by rw [HN.out]; exact HD.out.vl⟩⟩
end
section
open Go.RowKit
theorem cell_single (w : World) (n : Nat) (hn : n = w.heap.size) (a : Value) (t : TypeId) : ∀ j u, [a][j]? = some u → (w.alloc (.cells #[a] t)).cell? ((⟨n, 0, none⟩ : Addr).add j) = some u := by
 subst hn
 intro j u hu
 cases j with
 | zero =>
   simp at hu
   subst hu
   exact z11 (MapKept.heap_alloc w (.cells #[a] t)).1 0
 | succ j => simp at hu
set_option maxRecDepth 100000 in
set_option maxHeartbeats 8000000 in
theorem come_calls {W0 : World} {Mb : Nat} {ac : Option Addr} {cc ge gs gp ce cs cp N : Nat} {T : List Sq} {w : List Nat} {vw : Value} {bad : Bool} {W : World} (h : Ck W0 Mb (.slice ac N cc) ge gs gp ce cs cp N T w vw bad W) (a en st pa : Int) (hpa : 0 ≤ pa ∧ pa ≤ 2) :
   Calls Tryz.prog 22 #[.pointer (some ⟨Mb, 0, none⟩), .int .i64 a, .int .i64 en, .int .i64 st, .int .i64 pa] W fun e W' => e = .returned (.tuple #[]) ∧ ComeP W0 Mb (.slice ac N cc) ge gs gp ce cs cp N T w bad (a, ⟨en, st, pa + 1⟩) W W' := by
 by_cases hout : a < 0 ∨ (N : Int) ≤ a ∨ en < 0 ∨ st < 0 ∨ 100 < en ∨ 100 < st
 · refine (comeOut_calls h.blk a en st pa hout).mono ?_
   rintro e W' ⟨rfl, rfl⟩
   refine ⟨rfl, vw, T, w, true, h.flag true, cz_set h.blk (Or.inr rfl), fun _ => rfl, fun _ _ => rfl, fun _ x hx => ?_⟩
   unfold comeZ at hx
   rw [if_pos hout] at hx
   cases hx
 have hz : comeZ N T w (a, ⟨en, st, pa + 1⟩) = if tg T a.toNat = ⟨en, st, pa + 1⟩ then some (T, w) else if (tg T a.toNat).p ≠ 0 then none else some (T.set a.toNat ⟨en, st, pa + 1⟩, w ++ [a.toNat]) := by
   unfold comeZ
   rw [if_neg hout]
 obtain ⟨k, rfl⟩ : ∃ k : Nat, a = (k : Int) := ⟨a.toNat, by omega⟩
 rw [Int.toNat_natCast] at hz
 have hk : k < N := by omega
 have hs := h.sane _ (z50 (show k < T.length by rw [h.len]; exact hk))
 obtain ⟨c1, c2, c3, z1, z2, z3⟩ := h.cells hk
 have e0 := z11 h.blk 0
 have e1 := z11 h.blk 1
 have e2 := z11 h.blk 2
 have e3 := z11 h.blk 3
 have e4 := z11 h.blk 4
 have e5 := z11 h.blk 5
 have ez := z13 h.blk 5
 simp at e0 e1 e2 e3 e4 e5
 have q1 : ¬ (k : Int) < 0 := by omega
 have q2 : (k : Int) < (N : Int) := by omega
 have q3 : ¬ en < 0 := by omega
 have q4 : ¬ st < 0 := by omega
 have q5 : ¬ 100 < en := by omega
 have q6 : ¬ 100 < st := by omega
 have q0 : (0 : Int) ≤ (k : Int) := by omega
 have HH := hid h
 have HZ := hid hz
 have HQ : Hid (0 ≤ en ∧ 0 ≤ st ∧ en ≤ 100 ∧ st ≤ 100 ∧ 0 ≤ pa ∧ pa ≤ 2) := ⟨by omega, by omega, by omega, by omega, by omega, by omega⟩
 have HK := hid hk
 by_cases hp : (tg T k).p = 0
 · have v1 : envV (tg T k) = -1 := if_pos hp
   rw [v1] at c1
   have hpn : (⟨en, st, pa + 1⟩ : Sq).p ≠ 0 := by dsimp only; omega
   have hN := h.note hk hp (s := ⟨en, st, pa + 1⟩) (Or.inr ⟨by dsimp only; omega, by dsimp only; omega, by dsimp only; omega, by dsimp only; omega, by dsimp only; omega, by dsimp only; omega⟩) hpn
   have HP := hid hp
   have n0 := h.ne
   have m1 : Mb ≠ ge := fun e => by
     subst e
     obtain ⟨-, cur, hc⟩ := z44 h.er (g := Mb) rfl
     rw [h.blk] at hc
     cases hc
   have m2 : Mb ≠ gs := fun e => by
     subst e
     obtain ⟨-, cur, hc⟩ := z44 h.sr (g := Mb) rfl
     rw [h.blk] at hc
     cases hc
   have m3 : Mb ≠ gp := fun e => by
     subst e
     obtain ⟨-, cur, hc⟩ := z44 h.pr (g := Mb) rfl
     rw [h.blk] at hc
     cases hc
   have n1 : ge ≠ gs := n0.1
   have n2 : ge ≠ gp := n0.2.1
   have n3 : gs ≠ gp := n0.2.2.1
   dsimp only at hN
   rw [Int.add_sub_cancel] at hN
   unfold noted at hN
   obtain ⟨Y, hY⟩ : ∃ Y, ((W.setCell ⟨ge, k, none⟩ (.int .i64 en)).setCell ⟨gs, k, none⟩ (.int .i64 st)).setCell ⟨gp, k, none⟩ (.int .i64 pa) = Y := ⟨_, rfl⟩
   rw [hY] at hN
   have HN := hid hN
   have HCz : Hid (Cz W Y) := by
     show Cz W Y
     rw [← hY]
     obtain ⟨-, cu1, hu1⟩ := z44 h.er (g := ge) rfl
     obtain ⟨-, cu2, hu2⟩ := z44 h.sr (g := gs) rfl
     obtain ⟨-, cu3, hu3⟩ := z44 h.pr (g := gp) rfl
     exact ((cz_set hu1 (Or.inl rfl)).trans (cz_set ((Below.heap_setCell W ⟨ge, k, none⟩ _ gs (Ne.symm n1)).trans hu2) (Or.inl rfl))).trans (cz_set (((Below.heap_setCell _ ⟨gs, k, none⟩ _ gp (Ne.symm n3)).trans (Below.heap_setCell W ⟨ge, k, none⟩ _ gp (Ne.symm n2))).trans hu3) (Or.inl rfl))
   have HY := hid hY
   clear h hz hout hs hpa hk v1 hpn hN hY n0 hp
   have m1' := Ne.symm m1
   have m2' := Ne.symm m2
   have m3' := Ne.symm m3
   have n1' := Ne.symm n1
   have n2' := Ne.symm n2
   have n3' := Ne.symm n3
   go_enter Tryz.func22, Tryz.ntmps22
   go_upto_region 7 with fail
   rw [HY.out]
   clear e0 e1 e2 e3 e4 e5 ez c1 c2 c3 z1 z2 z3 HY
   have e4 := z11 HN.out.1.blk 4
   simp at e4
   obtain ⟨i0, hi, hz0, hz1, hz2⟩ := info_parts info_intC
   have HLw : Hid (w.length ≤ 1500 ∧ W0.heap.size ≤ Y.heap.size) := by
     have h1 := HN.out.1.room
     have h2 := HN.out.1.nl
     exact ⟨by omega, HN.out.1.bel.size⟩
   go_wp2_with (first
     | (at_builtin; refine wpList_append_own_at _ rfl _ _ 25 rfl W0.heap.size 3 i0 (.int .i64 0) 1 8 Tryz.underlying25 hi hz0 hz1 hz2 rfl (by decide) _ _ _ rfl (HN.out.1.wr.alloc _) ⟨_, 0, none⟩ 1 1 [.int .i64 (k : Int)] rfl rfl (cell_single _ _ rfl _ _) (fun u hu => by simp only [List.mem_singleton] at hu; subst hu; rfl) (by have := HLw.out; unfold maxLen; omega) (by have := HLw.out; omega) (by have := HLw.out; simp; omega) ?_
        intro v' w3 hown3 hgrow3 hnil3 hat3
        obtain ⟨av', cv', rfl⟩ := ck_slice hown3
        have HX := hid (HN.out.1.push (Below.alloc (Below.refl _ _) (Nat.le_refl _) _) k (by have := HN.out.2; omega) hown3 hgrow3 hat3)
        have hbk := (hgrow3.block Mb (by have := z26 HN.out.1.blk; simp; omega) (fun e => by
          obtain ⟨-, cur, hc⟩ := z44 HN.out.1.wr e.symm
          rw [HN.out.1.blk] at hc
          cases hc)).trans ((MapKept.heap_alloc Y (.cells #[.int .i64 (k : Int)] 3)).2 _ (z26 HN.out.1.blk))
        have hbk2 := hbk.trans HN.out.1.blk
        have HZ4 := hid (((HCz.out.trans (Cz.of_below ((Below.refl _ _).alloc (Nat.le_refl _) (.cells #[.int .i64 (k : Int)] 3)))).trans (cz_grown (HN.out.1.wr.alloc _) hgrow3)).trans (cz_set (i := 4) (v := .slice av' (w.length + 1) cv') hbk2 (Or.inr rfl)))
        have f4 := z11 hbk2 4
        have g4 := z13 hbk2 4
        simp at f4
        clear hown3 hgrow3 hnil3 hat3 hbk hbk2))
   (try simp only [Exit.inBlock, Exit.then])
   refine bodyPost_end (results_none rfl _ _ _) rfl ?_
   refine ⟨rfl, _, _, _, _, HX.out, HZ4.out, fun hb => hb, fun _ hc => ?_, fun hb x hx => ?_⟩
   · rw [HZ.out, if_neg (fun e => by have := HP.out; rw [e] at this; dsimp only at this; have := HQ.out; omega), if_neg (fun e => e HP.out)] at hc
     cases hc
   · rw [HZ.out, if_neg (fun e => by have := HP.out; rw [e] at this; dsimp only at this; have := HQ.out; omega), if_neg (fun e => e HP.out)] at hx
     cases hx
     exact ⟨hb, rfl, rfl⟩
 · have hs' : 1 ≤ (tg T k).p ∧ (tg T k).p ≤ 3 ∧ 0 ≤ (tg T k).n := by rcases hs with hs | hs <;> omega
   have v1 : envV (tg T k) = (tg T k).n := if_neg hp
   have v2 : stkV (tg T k) = (tg T k).v := if_neg hp
   have v3 : parV (tg T k) = (tg T k).p - 1 := if_neg hp
   rw [v1] at c1
   rw [v2] at c2
   rw [v3] at c3
   obtain ⟨⟨x, y, z⟩, hx⟩ : ∃ s, tg T k = s := ⟨_, rfl⟩
   rw [hx] at c1 c2 c3 hp hs' hz
   dsimp only at c1 c2 c3 hp hs'
   have HX0 := hid hs'
   have x0 : 0 ≤ x := hs'.2.2
   have HZ := hid hz
   have FIN : Hid (∀ b : Bool, (bad = true → b = true) → (bad = false → (b = false ↔ (x = en ∧ y = st ∧ z - 1 = pa))) → ComeP W0 Mb (.slice ac N cc) ge gs gp ce cs cp N T w bad ((k : Int), ⟨en, st, pa + 1⟩) W (W.setCell ⟨Mb, 5, none⟩ (.bool b))) := fun b h1 h2 => by
     refine ⟨vw, T, w, b, HH.out.flag b, cz_set HH.out.blk (Or.inr rfl), h1, fun hb hc => ?_, fun hb r hr => ?_⟩
     · rw [HZ.out] at hc
       cases b with
       | true => rfl
       | false =>
         obtain ⟨a1, a2, a3⟩ := (h2 hb).1 rfl
         rw [if_pos (by rw [a1, a2, ← a3, Int.sub_add_cancel])] at hc
         cases hc
     · rw [HZ.out] at hr
       by_cases e : (⟨x, y, z⟩ : Sq) = ⟨en, st, pa + 1⟩
       · rw [if_pos e] at hr
         cases hr
         cases e
         exact ⟨(h2 hb).2 ⟨rfl, rfl, by omega⟩, rfl, rfl⟩
       · rw [if_neg e, if_pos (by dsimp only; have := HX0.out; omega)] at hr
         cases hr
   clear h hz hout hs hpa hk v1 v2 v3 hp hs' hx HH HZ e4
   by_cases hbad : bad = true
   · subst hbad
     go_enter Tryz.func22, Tryz.ntmps22
     go_wp2_with fail
     (try simp only [Exit.inBlock, Exit.then])
     refine bodyPost_ret (results_none rfl _ _ _) rfl ?_
     exact ⟨rfl, FIN.out true (fun _ => rfl) (fun h => by cases h)⟩
   have hbad' : bad = false := by simpa using hbad
   subst hbad'
   clear hbad
   by_cases d1 : x = en
   case neg =>
     have d1' : (x != en) = true := by simp [d1]
     go_enter Tryz.func22, Tryz.ntmps22
     go_wp2_with fail
     (try simp only [Exit.inBlock, Exit.then])
     refine bodyPost_ret (results_none rfl _ _ _) rfl ?_
     exact ⟨rfl, FIN.out true (fun _ => rfl) (fun _ => ⟨fun h => (by cases h), fun h => absurd h.1 d1⟩)⟩
   by_cases d2 : y = st
   case neg =>
     have d1' : (x != en) = false := by simp [d1]
     have d2' : (y != st) = true := by simp [d2]
     have D1 := hid d1
     clear d1
     go_enter Tryz.func22, Tryz.ntmps22
     go_wp2_with fail
     (try simp only [Exit.inBlock, Exit.then])
     refine bodyPost_ret (results_none rfl _ _ _) rfl ?_
     exact ⟨rfl, FIN.out true (fun _ => rfl) (fun _ => ⟨fun h => (by cases h), fun h => absurd h.2.1 d2⟩)⟩
   have d1' : (x != en) = false := by simp [d1]
   have d2' : (y != st) = false := by simp [d2]
   have D1 := hid d1
   have D2 := hid d2
   clear d1 d2
   by_cases d3 : z - 1 = pa
   case neg =>
     have d3' : (z - 1 != pa) = true := by simp [d3]
     go_enter Tryz.func22, Tryz.ntmps22
     go_wp2_with fail
     (try simp only [Exit.inBlock, Exit.then])
     refine bodyPost_ret (results_none rfl _ _ _) rfl ?_
     exact ⟨rfl, FIN.out true (fun _ => rfl) (fun _ => ⟨fun h => (by cases h), fun h => absurd h.2.2 d3⟩)⟩
   · have d3' : (z - 1 != pa) = false := by simp [d3]
     have D3 := hid d3
     clear d3
     go_enter Tryz.func22, Tryz.ntmps22
     go_wp2_with fail
     (try simp only [Exit.inBlock, Exit.then])
     refine bodyPost_ret (results_none rfl _ _ _) rfl ?_
     exact ⟨rfl, FIN.out false (fun h => by cases h) (fun _ => ⟨fun _ => ⟨D1.out, D2.out, D3.out⟩, fun _ => rfl⟩)⟩
end
section
open Go.RowKit
def rz (N : Nat) (r : Option (List Sq × List Nat)) (es : List (Int × Sq)) : Option (List Sq × List Nat) := es.foldl (fun r e => r.bind fun x => comeZ N x.1 x.2 e) r
theorem rz_none (N : Nat) : ∀ es, rz N none es = none
 | [] => rfl
 | _ :: r => rz_none N r
theorem rz_comes (N : Nat) : ∀ (es : List (Int × Sq)) (T : List Sq) (w : List Nat), rz N (some (T, w)) es = comesZ N T w es
 | [], _, _ => rfl
 | e :: r, T, w => by
   show rz N ((some (T, w)).bind fun x => comeZ N x.1 x.2 e) r = _
   rw [Option.bind_some, comesZ]
   cases h : comeZ N T w e with
   | none => exact rz_none N r
   | some x => exact rz_comes N r x.1 x.2
def StC (W0 : World) (Mb : Nat) (vc : Value) (ge gs gp ce cs cp N : Nat) (r : Option (List Sq × List Nat)) (W : World) : Prop :=
 ∃ vw T w bad, Ck W0 Mb vc ge gs gp ce cs cp N T w vw bad W ∧ (r = none → bad = true) ∧ ∀ x, r = some x → bad = false ∧ T = x.1 ∧ w = x.2
theorem StC.of {W0 : World} {Mb : Nat} {vc : Value} {ge gs gp ce cs cp N : Nat} {T : List Sq} {w : List Nat} {vw : Value} {W : World} (h : Ck W0 Mb vc ge gs gp ce cs cp N T w vw false W) : StC W0 Mb vc ge gs gp ce cs cp N (some (T, w)) W :=
 ⟨vw, T, w, false, h, fun e => (by cases e), fun x e => (by cases e; exact ⟨rfl, rfl, rfl⟩)⟩
theorem StC.flagged {W0 : World} {Mb : Nat} {vc : Value} {ge gs gp ce cs cp N : Nat} {r : Option (List Sq × List Nat)} {W : World} (h : StC W0 Mb vc ge gs gp ce cs cp N r W) : StC W0 Mb vc ge gs gp ce cs cp N none (W.setCell ⟨Mb, 5, none⟩ (.bool true)) := by
 obtain ⟨vw, T, w, bad, hc, -, -⟩ := h
 exact ⟨vw, T, w, true, hc.flag true, fun _ => rfl, fun x e => (by cases e)⟩
theorem StC.blk {W0 : World} {Mb : Nat} {vc : Value} {ge gs gp ce cs cp N : Nat} {r : Option (List Sq × List Nat)} {W : World} (h : StC W0 Mb vc ge gs gp ce cs cp N r W) : ∃ v1 v2 v3 v4 b, W.heap[Mb]? = some (.cells #[vc, v1, v2, v3, v4, .bool b] 47) := by
 obtain ⟨vw, T, w, bad, hc, -, -⟩ := h
 exact ⟨_, _, _, _, _, hc.blk⟩
theorem StC.bel {W0 : World} {Mb : Nat} {vc : Value} {ge gs gp ce cs cp N : Nat} {r : Option (List Sq × List Nat)} {W : World} (h : StC W0 Mb vc ge gs gp ce cs cp N r W) : Below W0.heap.size W0 W := by
 obtain ⟨vw, T, w, bad, hc, -, -⟩ := h
 exact hc.bel
theorem z38 {W0 : World} {Mb : Nat} {ac : Option Addr} {cc ge gs gp ce cs cp N : Nat} {r : Option (List Sq × List Nat)} {W : World} (h : StC W0 Mb (.slice ac N cc) ge gs gp ce cs cp N r W) (a en st pa : Int) (h0 : 0 ≤ pa) (h1 : pa ≤ 2) :
   Calls Tryz.prog 22 #[.pointer (some ⟨Mb, 0, none⟩), .int .i64 a, .int .i64 en, .int .i64 st, .int .i64 pa] W fun e W' => e = .returned (.tuple #[]) ∧ StC W0 Mb (.slice ac N cc) ge gs gp ce cs cp N (r.bind fun x => comeZ N x.1 x.2 (a, ⟨en, st, pa + 1⟩)) W' ∧ Cz W W' := by
 obtain ⟨vw, T, w, bad, hc, k1, k2⟩ := h
 refine (come_calls hc a en st pa ⟨h0, h1⟩).mono ?_
 rintro e W' ⟨rfl, vw', T', w', bad', hc', hz, r1, r2, r3⟩
 refine ⟨rfl, ⟨vw', T', w', bad', hc', fun hn => ?_, fun x hx => ?_⟩, hz⟩
 · cases r with
   | none => exact r1 (k1 rfl)
   | some x =>
     obtain ⟨g1, g2, g3⟩ := k2 x rfl
     rw [Option.bind_some, ← g2, ← g3] at hn
     exact r2 g1 hn
 · cases r with
   | none => cases hx
   | some y =>
     obtain ⟨g1, g2, g3⟩ := k2 y rfl
     rw [Option.bind_some, ← g2, ← g3] at hx
     exact r3 g1 x hx
def tabZ (cs : List In) (r : Option (List Sq × List Nat)) (a x : Int) : Option (List Sq × List Nat) :=
 if tableZ cs a = true then rz cs.length r (((cs.getD a.toNat default).a, ⟨x + 1, 0, 2⟩) :: (clausesZ cs a).map (fun c => (c.b, (⟨x + 2, 0, 2⟩ : Sq)))) else none
end
section
open Go.RowKit
theorem rz_app (N : Nat) (r : Option (List Sq × List Nat)) (a b : List (Int × Sq)) : rz N r (a ++ b) = rz N (rz N r a) b := by
 unfold rz
 rw [List.foldl_append]
theorem clauses_len {is : List In} {k B : Nat} (hB : (is.getD k default).b = (B : Int)) (hk : k + B < is.length) : (clausesZ is (k : Int)).length = B := by
 unfold clausesZ
 rw [Int.toNat_natCast, hB, Int.toNat_natCast, List.length_take, List.length_drop]
 omega
theorem clauses_next {is : List In} {k B j : Nat} (hB : (is.getD k default).b = (B : Int)) (hk : k + B < is.length) (hj : j < B) : (clausesZ is (k : Int)).take (j + 1) = (clausesZ is (k : Int)).take j ++ [is.getD (k + (j + 1)) default] := by
 have hl := clauses_len hB hk
 have e : (clausesZ is (k : Int))[j]? = some (is.getD (k + (j + 1)) default) := by
   unfold clausesZ
   rw [Int.toNat_natCast, hB, Int.toNat_natCast, List.getElem?_take_of_lt hj, List.getElem?_drop, List.getD_eq_getElem?_getD, show k + 1 + j = k + (j + 1) by omega, List.getElem?_eq_getElem (by omega)]
   rfl
 rw [List.take_add_one, e]
 rfl
theorem StC.below {W0 : World} {Mb : Nat} {vc : Value} {ge gs gp ce cs cp N : Nat} {r : Option (List Sq × List Nat)} {W W' : World} (h : StC W0 Mb vc ge gs gp ce cs cp N r W) (hb : Below W.heap.size W W') : StC W0 Mb vc ge gs gp ce cs cp N r W' := by
 obtain ⟨vw, T, w, bad, hc, h1, h2⟩ := h
 exact ⟨vw, T, w, bad, hc.below hb, h1, h2⟩
def TabP (W0 : World) (Mb : Nat) (vc : Value) (ge gs gp ce cs cp N : Nat) (r : Option (List Sq × List Nat)) (W : World) (e : Ending) (W' : World) : Prop := e = .returned (.tuple #[]) ∧ StC W0 Mb vc ge gs gp ce cs cp N r W' ∧ Cz W W'
theorem StC.bad {W0 : World} {Mb : Nat} {vc : Value} {ge gs gp ce cs cp N : Nat} {r : Option (List Sq × List Nat)} {W : World} (h : StC W0 Mb vc ge gs gp ce cs cp N r W) : StC W0 Mb vc ge gs gp ce cs cp N none (W.setCell ⟨Mb, 5, none⟩ (.bool true)) ∧ Cz W (W.setCell ⟨Mb, 5, none⟩ (.bool true)) := by
 obtain ⟨v1, v2, v3, v4, b, hb⟩ := h.blk
 exact ⟨h.flagged, cz_set hb (Or.inr rfl)⟩
set_option maxRecDepth 100000 in
set_option maxHeartbeats 8000000 in
theorem table_st {W0 : World} {Mb bc oc cc ge gs gp ce cs cp : Nat} {is : List In} {r : Option (List Sq × List Nat)} {W : World} (h : StC W0 Mb (.slice (some ⟨bc, oc, none⟩) is.length cc) ge gs gp ce cs cp is.length r W) (hbc : bc < W0.heap.size) (hin : InsAt W0 bc oc is) (hall : ∀ i ∈ is, i.ok = true) (a x : Int) (ha : 0 ≤ a) (hx0 : 0 ≤ x) (hx1 : x ≤ 100) :
   Calls Tryz.prog 43 #[.pointer (some ⟨Mb, 0, none⟩), .int .i64 a, .int .i64 x] W (TabP W0 Mb (.slice (some ⟨bc, oc, none⟩) is.length cc) ge gs gp ce cs cp is.length (tabZ is r a x) W) := by
 have hN : is.length ≤ 1500 := by
   obtain ⟨vw, T, w, bad, hc, -, -⟩ := h
   exact hc.nl
 obtain ⟨v1, v2, v3, v4, b0, hblk⟩ := h.blk
 have e0 := z11 hblk 0
 simp at e0
 have hbl := z26 hblk
 have hinW := hin.below h.bel hbc
 have hbcW : bc < W.heap.size := Nat.lt_of_lt_of_le hbc h.bel.size
 have HH := hid h
 have HF := hid (And.intro hbc (And.intro hin hall))
 have HN := hid hN
 have HXb := hid (And.intro hx0 hx1)
 have q0 : decide (a < 0) = false := decide_eq_false (by omega)
 have p0 : ∀ y : Later W.heap.size W, y.w.cell? ⟨Mb, 0, none⟩ = _ := fun y => y.cell hbl e0
 have FIN : Hid (∀ W1, Below W.heap.size W W1 → tableZ is a = false → TabP W0 Mb (.slice (some ⟨bc, oc, none⟩) is.length cc) ge gs gp ce cs cp is.length (tabZ is r a x) W (.returned (.tuple #[])) (W1.setCell ⟨Mb, 5, none⟩ (.bool true))) := fun W1 hb hf => by
   rw [tabZ, hf]
   have := (HH.out.below hb).bad
   exact ⟨rfl, this.1, (Cz.of_below hb).trans this.2⟩
 have FL : Hid (∀ W1, Below W.heap.size W W1 → (∃ b, W1.cell? ⟨Mb, 5, none⟩ = some (.bool b)) ∧ W1.frozen? ⟨Mb, 5, none⟩ = false) := fun W1 hb => by
   obtain ⟨v1, v2, v3, v4, b0, hblk⟩ := (HH.out.below hb).blk
   have e5 := z11 hblk 5
   simp at e5
   exact ⟨⟨b0, e5⟩, z13 hblk 5⟩
 by_cases t1 : (is.length : Int) ≤ a
 · have HT : Hid (tableZ is a = false) := by
     show _ = _
     unfold tableZ
     rw [decide_eq_false (by omega)]
     rfl
   have t1d : decide ((is.length : Int) ≤ a) = true := decide_eq_true t1
   clear h hblk hin hall hbc hinW hN ha hx0 hx1 e0 hbcW
   go_enter Tryz.func43, Tryz.ntmps43
   go_wp2_with fail
   refine z30 W.heap.size (by kernel_rfl) (by kernel_rfl) ?_
   repeat (go_big_quiet_step (fail))
   refine wpQuiet_nil ?_
   rintro w5 ⟨y, rfl⟩
   have HY := hid y.h
   generalize y.w = W1 at *
   obtain ⟨⟨b5, e5⟩, z5⟩ := FL.out W1 HY.out
   go_wp2_with fail
   (try simp only [Exit.inBlock, Exit.then])
   refine bodyPost_ret (results_none rfl _ _ _) rfl ?_
   exact FIN.out W1 HY.out HT.out
 obtain ⟨k, rfl⟩ : ∃ k : Nat, a = (k : Int) := ⟨a.toNat, by omega⟩
 have hk : k < is.length := by omega
 have hok := z41 hall hk
 have c0 := hinW k hk 0 (by omega)
 have c1 := hinW k hk 1 (by omega)
 have c2 := hinW k hk 2 (by omega)
 obtain ⟨i, hi⟩ : ∃ i, is.getD k default = i := ⟨_, rfl⟩
 rw [hi] at c0 c1 c2 hok
 obtain ⟨op, a1, b1, c1v⟩ := i
 simp only [In.cell, Nat.add_zero] at c0 c1 c2
 have p1 : ∀ y : Later W.heap.size W, y.w.cell? ⟨bc, oc + k * 4, none⟩ = _ := fun y => y.cell hbcW c0
 have p2 : ∀ y : Later W.heap.size W, y.w.cell? ⟨bc, oc + k * 4 + 2, none⟩ = _ := fun y => y.cell hbcW c2
 have HI := hid hi
 have HOk := hid hok
 have HTb : Hid (tableZ is (k : Int) = (decide ((k : Int) < (is.length : Int)) && (decide (op = 24) && (decide (b1 ≤ 4) && (decide (b1 < (is.length : Int) - k) && (clausesZ is k).all (fun i => decide (i.op = 25))))))) := by
   show _ = _
   unfold tableZ
   rw [Int.toNat_natCast, hi]
 have q1 : (0 : Int) ≤ (k : Int) := by omega
 have t1' : ¬ (is.length : Int) ≤ (k : Int) := t1
 clear h hblk hin hall hbc hinW hN ha hx0 hx1 e0 hbcW c0 c1 c2 hi hok t1
 have t1 : (k : Int) < (is.length : Int) := by omega
 have t1d : decide ((is.length : Int) ≤ (k : Int)) = false := decide_eq_false t1'
 have t1n : decide (is.length ≤ k) = false := decide_eq_false (by omega)
 clear t1'
 by_cases t2 : op = 24
 case neg =>
   have HT : Hid (tableZ is (k : Int) = false) := by
     show _ = _
     rw [HTb.out, decide_eq_false t2]
     simp
   have t2' : (op != 24) = true := by simp [t2]
   clear t2
   go_enter Tryz.func43, Tryz.ntmps43
   go_wp2_with fail
   refine z30 W.heap.size (by kernel_rfl) (by kernel_rfl) ?_
   repeat (go_big_quiet_step (fail))
   refine wpQuiet_nil ?_
   rintro w5 ⟨y, rfl⟩
   have HY := hid y.h
   generalize y.w = W1 at *
   obtain ⟨⟨b5, e5⟩, z5⟩ := FL.out W1 HY.out
   go_wp2_with fail
   (try simp only [Exit.inBlock, Exit.then])
   refine bodyPost_ret (results_none rfl _ _ _) rfl ?_
   exact FIN.out W1 HY.out HT.out
 subst t2
 have t2' : ((24 : Int) != 24) = false := rfl
 have hb1 : 0 ≤ b1 ∧ b1 ≤ 65535 := by
   have := ok_nums HOk.out (by dsimp only; decide) (by dsimp only; decide) (by dsimp only; decide)
   exact ⟨this.2.2.1, this.2.2.2.1⟩
 have HB1 := hid hb1
 clear hb1
 by_cases t3 : 4 < b1
 · have t3d : decide (4 < b1) = true := decide_eq_true t3
   have HT : Hid (tableZ is (k : Int) = false) := by
     show _ = _
     rw [HTb.out, decide_eq_false (show ¬ b1 ≤ 4 by omega)]
     simp
   go_enter Tryz.func43, Tryz.ntmps43
   go_wp2_with fail
   refine z30 W.heap.size (by kernel_rfl) (by kernel_rfl) ?_
   repeat (go_big_quiet_step (fail))
   refine wpQuiet_nil ?_
   rintro w5 ⟨y, rfl⟩
   have HY := hid y.h
   generalize y.w = W1 at *
   obtain ⟨⟨b5, e5⟩, z5⟩ := FL.out W1 HY.out
   go_wp2_with fail
   (try simp only [Exit.inBlock, Exit.then])
   refine bodyPost_ret (results_none rfl _ _ _) rfl ?_
   exact FIN.out W1 HY.out HT.out
 have t3d : decide (4 < b1) = false := decide_eq_false t3
 have hw : wrap64 ((k : Int) + b1) = (k : Int) + b1 := by
   rw [wrap64]
   have := HB1.out
   have := HN.out
   omega
 by_cases t4 : (is.length : Int) ≤ (k : Int) + b1
 · have t4d : decide ((is.length : Int) ≤ (k : Int) + b1) = true := decide_eq_true t4
   have HT : Hid (tableZ is (k : Int) = false) := by
     show _ = _
     rw [HTb.out, decide_eq_false (show ¬ b1 < (is.length : Int) - k by omega)]
     simp
   go_enter Tryz.func43, Tryz.ntmps43
   go_wp2_with fail
   refine z30 W.heap.size (by kernel_rfl) (by kernel_rfl) ?_
   repeat (go_big_quiet_step (fail))
   refine wpQuiet_nil ?_
   rintro w5 ⟨y, rfl⟩
   have HY := hid y.h
   generalize y.w = W1 at *
   obtain ⟨⟨b5, e5⟩, z5⟩ := FL.out W1 HY.out
   go_wp2_with fail
   (try simp only [Exit.inBlock, Exit.then])
   refine bodyPost_ret (results_none rfl _ _ _) rfl ?_
   exact FIN.out W1 HY.out HT.out
 have t4d : decide ((is.length : Int) ≤ (k : Int) + b1) = false := decide_eq_false t4
 obtain ⟨B, hBz⟩ : ∃ B : Nat, b1 = (B : Int) := ⟨b1.toNat, by have := HB1.out; omega⟩
 have HBk : Hid (b1 = (B : Int) ∧ k + B < is.length ∧ B ≤ 4) := ⟨hBz, by omega, by omega⟩
 clear hBz t3 t4
 go_enter Tryz.func43, Tryz.ntmps43
 go_wp2_with fail
 refine z30 W.heap.size (by kernel_rfl) (by kernel_rfl) ?_
 repeat (go_big_quiet_step (fail))
 refine wpQuiet_nil ?_
 rintro w5 ⟨y, rfl⟩
 have HY := hid y.h
 generalize y.w = W1 at *
 have HS1 := hid (HH.out.below HY.out)
 have HC1 := hid (Cz.of_below HY.out)
 have hinW := HF.out.2.1.below HS1.out.bel HF.out.1
 have hk : k < is.length := by have := HBk.out; omega
 have c1 := hinW k hk 1 (by omega)
 rw [HI.out] at c1
 simp only [In.cell] at c1
 obtain ⟨v1, v2, v3, v4, b0, hblk⟩ := HS1.out.blk
 have e0 := z11 hblk 0
 simp at e0
 have w1 : wrap64 (x + 1) = x + 1 := by rw [wrap64]; have := HXb.out; omega
 have w2 : wrap64 (x + 2) = x + 2 := by rw [wrap64]; have := HXb.out; omega
 clear p0 p1 p2 hbl hinW hblk HY
 go_wp2_with fail
 refine (z38 HS1.out a1 (x + 1) 0 1 (by decide) (by decide)).mono ?_
 rintro e W2 ⟨rfl, hs2, hc2⟩
 have HS2 := hid hs2
 have HC2 := hid (HC1.out.trans hc2)
 clear hs2 hc2 HS1 HC1 e0 c1 w1
 go_wp2_with fail
 have HL : Hid (∀ j, j < B → (clausesZ is (k : Int)).take (j + 1) = (clausesZ is (k : Int)).take j ++ [is.getD (k + (j + 1)) default]) := fun j hj => clauses_next (by rw [HI.out]; exact HBk.out.1) HBk.out.2.1 hj
 have HLl : Hid ((clausesZ is (k : Int)).length = B) := clauses_len (by rw [HI.out]; exact HBk.out.1) HBk.out.2.1
 go_loopw [6] (fun i wr => ∃ (j : Nat) (ji : Int), i = .int .i64 ji ∧ Hid (ji = (j : Int) + 1 ∧ j ≤ B) ∧ Hid (StC W0 Mb (.slice (some ⟨bc, oc, none⟩) is.length cc) ge gs gp ce cs cp is.length (rz is.length r ((a1, ⟨x + 1, 0, 2⟩) :: ((clausesZ is (k : Int)).take j).map (fun c => (c.b, (⟨x + 2, 0, 2⟩ : Sq))))) wr) ∧ Hid (Cz W wr) ∧ Hid (∀ c ∈ (clausesZ is (k : Int)).take j, c.op = 25)) (fun i _ => B + 1 - (intOf i).toNat)
 case atStart => exact ⟨0, 1, rfl, ⟨by omega, Nat.zero_le _⟩, HS2, HC2, fun c hc => absurd hc (by simp)⟩
 case round =>
   obtain ⟨j, ji, rfl, HJ, HSr, HCr, HAr⟩ := hrel
   have hinW := HF.out.2.1.below HSr.out.bel HF.out.1
   have c2 := hinW k hk 2 (by omega)
   rw [HI.out] at c2
   simp only [In.cell] at c2
   obtain ⟨v1, v2, v3, v4, b0, hblk⟩ := HSr.out.blk
   have e0 := z11 hblk 0
   have e5 := z11 hblk 5
   have z5 := z13 hblk 5
   simp at e0 e5
   by_cases hle : ji ≤ b1
   · have hj : j < B := by have := HJ.out; have := HBk.out; omega
     have hkj : k + (j + 1) < is.length := by have := HBk.out; omega
     have f0 := hinW (k + (j + 1)) hkj 0 (by omega)
     have f2 := hinW (k + (j + 1)) hkj 2 (by omega)
     have hnx := HL.out j hj
     have hmem : is.getD (k + (j + 1)) default ∈ clausesZ is (k : Int) := by
       have h1 : is.getD (k + (j + 1)) default ∈ (clausesZ is (k : Int)).take (j + 1) := by rw [hnx]; simp
       exact List.mem_of_mem_take h1
     obtain ⟨⟨fop, fa, fb, fc⟩, hf⟩ : ∃ i, is.getD (k + (j + 1)) default = i := ⟨_, rfl⟩
     rw [hf] at f0 f2 hnx hmem
     simp only [In.cell, Nat.add_zero] at f0 f2
     obtain ⟨kj, hkjz⟩ : ∃ kj : Nat, k + (j + 1) = kj := ⟨_, rfl⟩
     rw [hkjz] at f0 f2 hkj
     have w3 : wrap64 ((k : Int) + ji) = (kj : Int) := by rw [wrap64]; have := HJ.out; have := HN.out; omega
     have kj0 : (0 : Int) ≤ (kj : Int) := by omega
     have kj1 : (kj : Int) < (is.length : Int) := by omega
     have w4 : wrap64 (ji + 1) = ji + 1 := by rw [wrap64]; have := HJ.out; have := HBk.out; omega
     have hst : B + 1 - (intOf (.int .i64 (ji + 1))).toNat < B + 1 - (intOf (.int .i64 ji)).toNat := by
       simp only [intOf]
       have := HJ.out
       omega
     have HNx := hid hnx
     have HMm := hid hmem
     have HSt := hid hst
     clear hnx hmem hf hkjz hinW hblk hj hst
     by_cases hop : fop = 25
     case neg =>
       have hop' : (fop != 25) = true := by simp [hop]
       have HT : Hid (tableZ is (k : Int) = false) := by
         show _ = _
         rw [HTb.out]
         have : (clausesZ is (k : Int)).all (fun i => decide (i.op = 25)) = false := by
           rw [Bool.eq_false_iff]
           intro he
           exact hop (of_decide_eq_true (List.all_eq_true.1 he _ HMm.out))
         rw [this]
         simp
       clear hop
       go_wp2_with fail
       (try simp only [Exit.inBlock, Exit.then])
       refine bodyPost_ret (results_none rfl _ _ _) rfl ?_
       rw [tabZ, HT.out]
       exact ⟨rfl, HSr.out.bad.1, HCr.out.trans HSr.out.bad.2⟩
     subst hop
     go_wp2_with fail
     refine (z38 HSr.out fb (x + 2) 0 1 (by decide) (by decide)).mono ?_
     rintro e W5 ⟨rfl, hs5, hc5⟩
     have HS5 := hid hs5
     have HC5 := hid (HCr.out.trans hc5)
     clear hs5 hc5 e0 e5 z5 c2 f0 f2
     go_wp2_with fail
     rw [w4]
     refine ⟨⟨j + 1, ji + 1, rfl, ⟨by have := HJ.out; omega, by have := HJ.out; have := HBk.out; omega⟩, ?_, HC5, fun c hc => ?_⟩, HSt.out⟩
     · show StC _ _ _ _ _ _ _ _ _ _ _ _
       rw [HNx.out, List.map_append, ← List.cons_append, rz_app]
       exact HS5.out
     · rw [HNx.out, List.mem_append, List.mem_singleton] at hc
       rcases hc with hc | rfl
       · exact HAr.out c hc
       · rfl
   · have hjB : j = B := by have := HJ.out; have := HBk.out; omega
     have HT : Hid (tableZ is (k : Int) = true) := by
       show _ = _
       rw [HTb.out]
       have h1 := HBk.out
       have h2 : (clausesZ is (k : Int)).all (fun i => decide (i.op = 25)) = true := List.all_eq_true.2 (fun c hc => decide_eq_true (HAr.out c (by rw [hjB, List.take_of_length_le (by rw [HLl.out]; exact Nat.le_refl _)]; exact hc)))
       rw [h2, decide_eq_true (show (k : Int) < (is.length : Int) by omega), decide_eq_true (show b1 ≤ 4 by omega), decide_eq_true (show b1 < (is.length : Int) - k by omega)]
       rfl
     have HSf : Hid (StC W0 Mb (.slice (some ⟨bc, oc, none⟩) is.length cc) ge gs gp ce cs cp is.length (tabZ is r (k : Int) x) wr) := by
       show StC _ _ _ _ _ _ _ _ _ _ _ _
       have := HSr.out
       rw [hjB, List.take_of_length_le (by rw [HLl.out]; exact Nat.le_refl _)] at this
       rw [tabZ, if_pos HT.out, Int.toNat_natCast, HI.out]
       exact this
     clear hjB hinW hblk
     go_wp2_with fail
     (try simp only [Exit.inBlock, Exit.then])
     refine bodyPost_end (results_none rfl _ _ _) rfl ?_
     exact ⟨rfl, HSf.out, HCr.out⟩
end
section
open Go.RowKit
def stepZ (cs : List In) (T : List Sq) (w : List Nat) (k : Nat) : Option (List Sq × List Nat) := if needsZ cs (cs.getD k default) (tg T k) = true then rz cs.length (some (T, w)) (exitsZ cs k (cs.getD k default) (tg T k)) else none
end
section
open Go.RowKit
set_option maxRecDepth 100000 in
theorem pops_0 (W : World) : Calls Tryz.prog 42 #[.int .i64 0] W fun e W' => e = .returned (.int .i64 1) ∧ W = W' := by
 go_enter Tryz.func42, Tryz.ntmps42
 go_wp2_with fail
 go_ret
 exact ⟨rfl, rfl⟩
set_option maxRecDepth 100000 in
theorem pops_1 (W : World) : Calls Tryz.prog 42 #[.int .i64 1] W fun e W' => e = .returned (.int .i64 0) ∧ W = W' := by
 go_enter Tryz.func42, Tryz.ntmps42
 go_wp2_with fail
 go_ret
 exact ⟨rfl, rfl⟩
set_option maxRecDepth 100000 in
theorem pops_2 (W : World) : Calls Tryz.prog 42 #[.int .i64 2] W fun e W' => e = .returned (.int .i64 0) ∧ W = W' := by
 go_enter Tryz.func42, Tryz.ntmps42
 go_wp2_with fail
 go_ret
 exact ⟨rfl, rfl⟩
set_option maxRecDepth 100000 in
theorem pops_3 (W : World) : Calls Tryz.prog 42 #[.int .i64 3] W fun e W' => e = .returned (.int .i64 0) ∧ W = W' := by
 go_enter Tryz.func42, Tryz.ntmps42
 go_wp2_with fail
 go_ret
 exact ⟨rfl, rfl⟩
set_option maxRecDepth 100000 in
theorem pops_4 (W : World) : Calls Tryz.prog 42 #[.int .i64 4] W fun e W' => e = .returned (.int .i64 0) ∧ W = W' := by
 go_enter Tryz.func42, Tryz.ntmps42
 go_wp2_with fail
 go_ret
 exact ⟨rfl, rfl⟩
set_option maxRecDepth 100000 in
theorem pops_5 (W : World) : Calls Tryz.prog 42 #[.int .i64 5] W fun e W' => e = .returned (.int .i64 0) ∧ W = W' := by
 go_enter Tryz.func42, Tryz.ntmps42
 go_wp2_with fail
 go_ret
 exact ⟨rfl, rfl⟩
set_option maxRecDepth 100000 in
theorem pops_6 (W : World) : Calls Tryz.prog 42 #[.int .i64 6] W fun e W' => e = .returned (.int .i64 0) ∧ W = W' := by
 go_enter Tryz.func42, Tryz.ntmps42
 go_wp2_with fail
 go_ret
 exact ⟨rfl, rfl⟩
set_option maxRecDepth 100000 in
theorem pops_7 (W : World) : Calls Tryz.prog 42 #[.int .i64 7] W fun e W' => e = .returned (.int .i64 0) ∧ W = W' := by
 go_enter Tryz.func42, Tryz.ntmps42
 go_wp2_with fail
 go_ret
 exact ⟨rfl, rfl⟩
set_option maxRecDepth 100000 in
theorem pops_8 (W : World) : Calls Tryz.prog 42 #[.int .i64 8] W fun e W' => e = .returned (.int .i64 2) ∧ W = W' := by
 go_enter Tryz.func42, Tryz.ntmps42
 go_wp2_with fail
 go_ret
 exact ⟨rfl, rfl⟩
set_option maxRecDepth 100000 in
set_option maxHeartbeats 4000000 in
theorem step_0 {W0 : World} {Mb bc oc cc ge gs gp ce cs cp : Nat} {is : List In} {T : List Sq} {w : List Nat} {vw : Value} {W : World} (h : Ck W0 Mb (.slice (some ⟨bc, oc, none⟩) is.length cc) ge gs gp ce cs cp is.length T w vw false W) (hbc : bc < W0.heap.size) (hin : InsAt W0 bc oc is) (hall : ∀ i ∈ is, i.ok = true) (k : Nat) (hk : k < is.length) (hp : 1 ≤ (tg T k).p) (ho : (is.getD k default).op = 0) :
   Calls Tryz.prog 23 #[.pointer (some ⟨Mb, 0, none⟩), .int .i64 (k : Int)] W fun e W' => e = .returned (.tuple #[]) ∧ StC W0 Mb (.slice (some ⟨bc, oc, none⟩) is.length cc) ge gs gp ce cs cp is.length (stepZ is T w k) W' := by
 obtain ⟨i, hi⟩ : ∃ i, is.getD k default = i := ⟨_, rfl⟩
 have hok := z41 hall hk
 rw [hi] at hok ho
 obtain ⟨op, a, b, c⟩ := i
 dsimp only at ho
 subst ho
 have HA := h.below ((Below.refl W.heap.size W).alloc (Nat.le_refl _) (.cells #[.int .i64 0, .int .i64 a, .int .i64 b, .int .i64 c] 31))
 have hV1 := (MapKept.heap_alloc W (.cells #[.int .i64 0, .int .i64 a, .int .i64 b, .int .i64 c] 31)).1
 have hcell := h.cells (k := k) hk
 have hinW := hin.below h.bel hbc
 have c0 := hinW k hk 0 (by omega)
 have c1 := hinW k hk 1 (by omega)
 have c2 := hinW k hk 2 (by omega)
 have c3 := hinW k hk 3 (by omega)
 rw [hi] at c0 c1 c2 c3
 simp only [In.cell, Nat.add_zero] at c0 c1 c2 c3
 have hpz : ¬ (tg T k).p = 0 := by omega
 have hsane := h.sane _ (z50 (show k < T.length by rw [h.len]; exact hk))
 have u1 : envV (tg T k) = (tg T k).n := if_neg hpz
 have u2 : stkV (tg T k) = (tg T k).v := if_neg hpz
 have u3 : parV (tg T k) = (tg T k).p - 1 := if_neg hpz
 rw [u1, u2, u3] at hcell
 obtain ⟨⟨x, y, p⟩, hx⟩ : ∃ s, tg T k = s := ⟨_, rfl⟩
 rw [hx] at hcell hp hsane
 unfold SaneS at hsane
 obtain ⟨z, hz⟩ : ∃ z, p - 1 = z := ⟨_, rfl⟩
 dsimp only at hcell hp hsane
 rw [hz] at hcell
 obtain ⟨d1, d2, d3, -, -, -⟩ := hcell
 have HB : Hid (0 ≤ x ∧ x ≤ 100 ∧ 0 ≤ y ∧ y ≤ 100 ∧ 0 ≤ z ∧ z ≤ 2 ∧ p = z + 1 ∧ k < is.length ∧ is.length ≤ 1500) := by
   have := h.nl
   rcases hsane with hs | hs
   · omega
   · exact ⟨by omega, by omega, by omega, by omega, by omega, by omega, by omega, hk, by omega⟩
 have hp1 : p = z + 1 := HB.out.2.2.2.2.2.2.1
 have HI := hid hi
 have HX : Hid (tg T k = ⟨x, y, z + 1⟩) := by show _ = _; rw [hx, hp1]
 have HOk := hid hok
 have HF := hid (And.intro hbc (And.intro hin hall))
 have e0 := z11 h.blk 0
 have e1 := z11 h.blk 1
 have e2 := z11 h.blk 2
 have e3 := z11 h.blk 3
 simp at e0 e1 e2 e3
 obtain ⟨V, hV⟩ : ∃ V, W.alloc (.cells #[.int .i64 0, .int .i64 a, .int .i64 b, .int .i64 c] 31) = V := ⟨_, rfl⟩
 rw [hV] at HA hV1
 have HA' := hid HA
 have HV := hid hV
 have HV1 := hid hV1
 have HS0 := hid (StC.of HA)
 have q0 : (0 : Int) ≤ (k : Int) := by omega
 have q1 : (k : Int) < (is.length : Int) := by omega
 have w1 : wrap64 ((k : Int) + 1) = (k : Int) + 1 := by rw [wrap64]; have := HB.out; omega
 have w2 : wrap64 (x + 1) = x + 1 := by rw [wrap64]; have := HB.out; omega
 have w3 : wrap64 (x + 2) = x + 2 := by rw [wrap64]; have := HB.out; omega
 have w4 : wrap64 (y + 1) = y + 1 := by rw [wrap64]; have := HB.out; omega
 have w5 : wrap64 (y - 1) = y - 1 := by rw [wrap64]; have := HB.out; omega
 have w6 : wrap64 (x - 1) = x - 1 := by rw [wrap64]; have := HB.out; omega
 have HPo := hid (pops_0 V)
 clear h hin hall hbc hinW hk hp hi hok hpz hsane u1 u2 u3 hx hz hp1 hV HA hV1
 go_enter Tryz.func23, Tryz.ntmps23
 go_upto_region 1 with fail
 rw [HV.out]
 clear HV c0 c1 c2 c3 e0 e1 e2 e3 d1 d2 d3
 have hcell := HA'.out.cells (k := k) HB.out.2.2.2.2.2.2.2.1
 rw [HX.out] at hcell
 have u0 : ¬ ((⟨x, y, z + 1⟩ : Sq).p = 0) := by dsimp only; have := HB.out; omega
 rw [show envV ⟨x, y, z + 1⟩ = x from if_neg u0, show stkV ⟨x, y, z + 1⟩ = y from if_neg u0, show parV ⟨x, y, z + 1⟩ = z from (if_neg u0).trans (Int.add_sub_cancel z 1)] at hcell
 obtain ⟨d1, d2, d3, -, -, -⟩ := hcell
 have e1 := z11 HA'.out.blk 1
 have e2 := z11 HA'.out.blk 2
 have e3 := z11 HA'.out.blk 3
 have e5 := z11 HA'.out.blk 5
 have z5 := z13 HA'.out.blk 5
 have i0 := z11 HV1.out 0
 have i1 := z11 HV1.out 1
 have i3 := z11 HV1.out 3
 simp at e1 e2 e3 e5 i0 i1 i3
 clear u0
 go_wp2_with fail
 refine HPo.out.mono ?_
 rintro e _ ⟨rfl, rfl⟩
 clear d1 d2 d3 e1 e2 e3
 by_cases hpop : y < 1
 · have HZ : Hid (stepZ is T w k = none) := by
     show _ = _
     unfold stepZ
     rw [HI.out, HX.out, if_neg (fun e => by simp [needsZ] at e; omega)]
   go_wp2_with fail
   (try simp only [Exit.inBlock, Exit.then])
   refine bodyPost_ret (results_none rfl _ _ _) rfl ?_
   refine ⟨rfl, ?_⟩
   rw [HZ.out]
   exact HS0.out.flagged
 by_cases f1 : y = 1
 case neg =>
   have HZ : Hid (stepZ is T w k = none) := by
     show _ = _
     unfold stepZ
     rw [HI.out, HX.out, if_neg (fun e => by simp [needsZ] at e; omega)]
   have f1n : (y != 1) = true := by simp [f1]
   go_wp2_with fail
   (try simp only [Exit.inBlock, Exit.then])
   refine bodyPost_end (results_none rfl _ _ _) rfl ?_
   refine ⟨rfl, ?_⟩
   rw [HZ.out]
   exact HS0.out.flagged
 by_cases f2 : z = 0
 case neg =>
   have HZ : Hid (stepZ is T w k = none) := by
     show _ = _
     unfold stepZ
     rw [HI.out, HX.out, if_neg (fun e => by simp [needsZ] at e; omega)]
   have f1n : (y != 1) = false := by simp [f1]
   have f2n : (z != 0) = true := by simp [f2]
   clear f1
   go_wp2_with fail
   (try simp only [Exit.inBlock, Exit.then])
   refine bodyPost_end (results_none rfl _ _ _) rfl ?_
   refine ⟨rfl, ?_⟩
   rw [HZ.out]
   exact HS0.out.flagged
 have HZ : Hid (stepZ is T w k = some (T, w)) := by
   show _ = _
   unfold stepZ
   rw [HI.out, HX.out, if_pos (by simp [needsZ]; omega)]
   rfl
 have f1n : (y != 1) = false := by simp [f1]
 have f2n : (z != 0) = false := by simp [f2]
 clear f1 f2
 go_wp2_with fail
 (try simp only [Exit.inBlock, Exit.then])
 refine bodyPost_end (results_none rfl _ _ _) rfl ?_
 refine ⟨rfl, ?_⟩
 rw [HZ.out]
 exact StC.of (HA'.out.flag false)
set_option maxRecDepth 100000 in
set_option maxHeartbeats 4000000 in
theorem step_1 {W0 : World} {Mb bc oc cc ge gs gp ce cs cp : Nat} {is : List In} {T : List Sq} {w : List Nat} {vw : Value} {W : World} (h : Ck W0 Mb (.slice (some ⟨bc, oc, none⟩) is.length cc) ge gs gp ce cs cp is.length T w vw false W) (hbc : bc < W0.heap.size) (hin : InsAt W0 bc oc is) (hall : ∀ i ∈ is, i.ok = true) (k : Nat) (hk : k < is.length) (hp : 1 ≤ (tg T k).p) (ho : (is.getD k default).op = 1) :
   Calls Tryz.prog 23 #[.pointer (some ⟨Mb, 0, none⟩), .int .i64 (k : Int)] W fun e W' => e = .returned (.tuple #[]) ∧ StC W0 Mb (.slice (some ⟨bc, oc, none⟩) is.length cc) ge gs gp ce cs cp is.length (stepZ is T w k) W' := by
 obtain ⟨i, hi⟩ : ∃ i, is.getD k default = i := ⟨_, rfl⟩
 have hok := z41 hall hk
 rw [hi] at hok ho
 obtain ⟨op, a, b, c⟩ := i
 dsimp only at ho
 subst ho
 have HA := h.below ((Below.refl W.heap.size W).alloc (Nat.le_refl _) (.cells #[.int .i64 1, .int .i64 a, .int .i64 b, .int .i64 c] 31))
 have hV1 := (MapKept.heap_alloc W (.cells #[.int .i64 1, .int .i64 a, .int .i64 b, .int .i64 c] 31)).1
 have hcell := h.cells (k := k) hk
 have hinW := hin.below h.bel hbc
 have c0 := hinW k hk 0 (by omega)
 have c1 := hinW k hk 1 (by omega)
 have c2 := hinW k hk 2 (by omega)
 have c3 := hinW k hk 3 (by omega)
 rw [hi] at c0 c1 c2 c3
 simp only [In.cell, Nat.add_zero] at c0 c1 c2 c3
 have hpz : ¬ (tg T k).p = 0 := by omega
 have hsane := h.sane _ (z50 (show k < T.length by rw [h.len]; exact hk))
 have u1 : envV (tg T k) = (tg T k).n := if_neg hpz
 have u2 : stkV (tg T k) = (tg T k).v := if_neg hpz
 have u3 : parV (tg T k) = (tg T k).p - 1 := if_neg hpz
 rw [u1, u2, u3] at hcell
 obtain ⟨⟨x, y, p⟩, hx⟩ : ∃ s, tg T k = s := ⟨_, rfl⟩
 rw [hx] at hcell hp hsane
 unfold SaneS at hsane
 obtain ⟨z, hz⟩ : ∃ z, p - 1 = z := ⟨_, rfl⟩
 dsimp only at hcell hp hsane
 rw [hz] at hcell
 obtain ⟨d1, d2, d3, -, -, -⟩ := hcell
 have HB : Hid (0 ≤ x ∧ x ≤ 100 ∧ 0 ≤ y ∧ y ≤ 100 ∧ 0 ≤ z ∧ z ≤ 2 ∧ p = z + 1 ∧ k < is.length ∧ is.length ≤ 1500) := by
   have := h.nl
   rcases hsane with hs | hs
   · omega
   · exact ⟨by omega, by omega, by omega, by omega, by omega, by omega, by omega, hk, by omega⟩
 have hp1 : p = z + 1 := HB.out.2.2.2.2.2.2.1
 have HI := hid hi
 have HX : Hid (tg T k = ⟨x, y, z + 1⟩) := by show _ = _; rw [hx, hp1]
 have HOk := hid hok
 have HF := hid (And.intro hbc (And.intro hin hall))
 have e0 := z11 h.blk 0
 have e1 := z11 h.blk 1
 have e2 := z11 h.blk 2
 have e3 := z11 h.blk 3
 simp at e0 e1 e2 e3
 obtain ⟨V, hV⟩ : ∃ V, W.alloc (.cells #[.int .i64 1, .int .i64 a, .int .i64 b, .int .i64 c] 31) = V := ⟨_, rfl⟩
 rw [hV] at HA hV1
 have HA' := hid HA
 have HV := hid hV
 have HV1 := hid hV1
 have HS0 := hid (StC.of HA)
 have q0 : (0 : Int) ≤ (k : Int) := by omega
 have q1 : (k : Int) < (is.length : Int) := by omega
 have w1 : wrap64 ((k : Int) + 1) = (k : Int) + 1 := by rw [wrap64]; have := HB.out; omega
 have w2 : wrap64 (x + 1) = x + 1 := by rw [wrap64]; have := HB.out; omega
 have w3 : wrap64 (x + 2) = x + 2 := by rw [wrap64]; have := HB.out; omega
 have w4 : wrap64 (y + 1) = y + 1 := by rw [wrap64]; have := HB.out; omega
 have w5 : wrap64 (y - 1) = y - 1 := by rw [wrap64]; have := HB.out; omega
 have w6 : wrap64 (x - 1) = x - 1 := by rw [wrap64]; have := HB.out; omega
 have HPo := hid (pops_1 V)
 clear h hin hall hbc hinW hk hp hi hok hpz hsane u1 u2 u3 hx hz hp1 hV HA hV1
 go_enter Tryz.func23, Tryz.ntmps23
 go_upto_region 1 with fail
 rw [HV.out]
 clear HV c0 c1 c2 c3 e0 e1 e2 e3 d1 d2 d3
 have hcell := HA'.out.cells (k := k) HB.out.2.2.2.2.2.2.2.1
 rw [HX.out] at hcell
 have u0 : ¬ ((⟨x, y, z + 1⟩ : Sq).p = 0) := by dsimp only; have := HB.out; omega
 rw [show envV ⟨x, y, z + 1⟩ = x from if_neg u0, show stkV ⟨x, y, z + 1⟩ = y from if_neg u0, show parV ⟨x, y, z + 1⟩ = z from (if_neg u0).trans (Int.add_sub_cancel z 1)] at hcell
 obtain ⟨d1, d2, d3, -, -, -⟩ := hcell
 have e1 := z11 HA'.out.blk 1
 have e2 := z11 HA'.out.blk 2
 have e3 := z11 HA'.out.blk 3
 have e5 := z11 HA'.out.blk 5
 have z5 := z13 HA'.out.blk 5
 have i0 := z11 HV1.out 0
 have i1 := z11 HV1.out 1
 have i3 := z11 HV1.out 3
 simp at e1 e2 e3 e5 i0 i1 i3
 clear u0
 go_wp2_with fail
 refine HPo.out.mono ?_
 rintro e _ ⟨rfl, rfl⟩
 clear d1 d2 d3 e1 e2 e3
 have hy0 : ¬ y < 0 := by have := HB.out; omega
 have HZ : Hid (stepZ is T w k = rz is.length (some (T, w)) [((k : Int) + 1, (⟨x, y + 1, z + 1⟩ : Sq))]) := by
   show _ = _
   unfold stepZ
   rw [HI.out, HX.out, if_pos (by simp [needsZ])]
   simp [exitsZ, Sq.more]
 go_wp2_with fail
 refine (z38 HS0.out ((k : Int) + 1) (x) (y + 1) (z) HB.out.2.2.2.2.1 HB.out.2.2.2.2.2.1).mono ?_
 rintro e V2 ⟨rfl, hs1, hc1⟩
 have HS1 := hid hs1
 clear hs1 hc1 HS0
 go_wp2_with fail
 (try simp only [Exit.inBlock, Exit.then])
 refine bodyPost_end (results_none rfl _ _ _) rfl ?_
 refine ⟨rfl, ?_⟩
 rw [HZ.out]
 exact HS1.out
set_option maxRecDepth 100000 in
set_option maxHeartbeats 4000000 in
theorem step_2 {W0 : World} {Mb bc oc cc ge gs gp ce cs cp : Nat} {is : List In} {T : List Sq} {w : List Nat} {vw : Value} {W : World} (h : Ck W0 Mb (.slice (some ⟨bc, oc, none⟩) is.length cc) ge gs gp ce cs cp is.length T w vw false W) (hbc : bc < W0.heap.size) (hin : InsAt W0 bc oc is) (hall : ∀ i ∈ is, i.ok = true) (k : Nat) (hk : k < is.length) (hp : 1 ≤ (tg T k).p) (ho : (is.getD k default).op = 2) :
   Calls Tryz.prog 23 #[.pointer (some ⟨Mb, 0, none⟩), .int .i64 (k : Int)] W fun e W' => e = .returned (.tuple #[]) ∧ StC W0 Mb (.slice (some ⟨bc, oc, none⟩) is.length cc) ge gs gp ce cs cp is.length (stepZ is T w k) W' := by
 obtain ⟨i, hi⟩ : ∃ i, is.getD k default = i := ⟨_, rfl⟩
 have hok := z41 hall hk
 rw [hi] at hok ho
 obtain ⟨op, a, b, c⟩ := i
 dsimp only at ho
 subst ho
 have HA := h.below ((Below.refl W.heap.size W).alloc (Nat.le_refl _) (.cells #[.int .i64 2, .int .i64 a, .int .i64 b, .int .i64 c] 31))
 have hV1 := (MapKept.heap_alloc W (.cells #[.int .i64 2, .int .i64 a, .int .i64 b, .int .i64 c] 31)).1
 have hcell := h.cells (k := k) hk
 have hinW := hin.below h.bel hbc
 have c0 := hinW k hk 0 (by omega)
 have c1 := hinW k hk 1 (by omega)
 have c2 := hinW k hk 2 (by omega)
 have c3 := hinW k hk 3 (by omega)
 rw [hi] at c0 c1 c2 c3
 simp only [In.cell, Nat.add_zero] at c0 c1 c2 c3
 have hpz : ¬ (tg T k).p = 0 := by omega
 have hsane := h.sane _ (z50 (show k < T.length by rw [h.len]; exact hk))
 have u1 : envV (tg T k) = (tg T k).n := if_neg hpz
 have u2 : stkV (tg T k) = (tg T k).v := if_neg hpz
 have u3 : parV (tg T k) = (tg T k).p - 1 := if_neg hpz
 rw [u1, u2, u3] at hcell
 obtain ⟨⟨x, y, p⟩, hx⟩ : ∃ s, tg T k = s := ⟨_, rfl⟩
 rw [hx] at hcell hp hsane
 unfold SaneS at hsane
 obtain ⟨z, hz⟩ : ∃ z, p - 1 = z := ⟨_, rfl⟩
 dsimp only at hcell hp hsane
 rw [hz] at hcell
 obtain ⟨d1, d2, d3, -, -, -⟩ := hcell
 have HB : Hid (0 ≤ x ∧ x ≤ 100 ∧ 0 ≤ y ∧ y ≤ 100 ∧ 0 ≤ z ∧ z ≤ 2 ∧ p = z + 1 ∧ k < is.length ∧ is.length ≤ 1500) := by
   have := h.nl
   rcases hsane with hs | hs
   · omega
   · exact ⟨by omega, by omega, by omega, by omega, by omega, by omega, by omega, hk, by omega⟩
 have hp1 : p = z + 1 := HB.out.2.2.2.2.2.2.1
 have HI := hid hi
 have HX : Hid (tg T k = ⟨x, y, z + 1⟩) := by show _ = _; rw [hx, hp1]
 have HOk := hid hok
 have HF := hid (And.intro hbc (And.intro hin hall))
 have e0 := z11 h.blk 0
 have e1 := z11 h.blk 1
 have e2 := z11 h.blk 2
 have e3 := z11 h.blk 3
 simp at e0 e1 e2 e3
 obtain ⟨V, hV⟩ : ∃ V, W.alloc (.cells #[.int .i64 2, .int .i64 a, .int .i64 b, .int .i64 c] 31) = V := ⟨_, rfl⟩
 rw [hV] at HA hV1
 have HA' := hid HA
 have HV := hid hV
 have HV1 := hid hV1
 have HS0 := hid (StC.of HA)
 have q0 : (0 : Int) ≤ (k : Int) := by omega
 have q1 : (k : Int) < (is.length : Int) := by omega
 have w1 : wrap64 ((k : Int) + 1) = (k : Int) + 1 := by rw [wrap64]; have := HB.out; omega
 have w2 : wrap64 (x + 1) = x + 1 := by rw [wrap64]; have := HB.out; omega
 have w3 : wrap64 (x + 2) = x + 2 := by rw [wrap64]; have := HB.out; omega
 have w4 : wrap64 (y + 1) = y + 1 := by rw [wrap64]; have := HB.out; omega
 have w5 : wrap64 (y - 1) = y - 1 := by rw [wrap64]; have := HB.out; omega
 have w6 : wrap64 (x - 1) = x - 1 := by rw [wrap64]; have := HB.out; omega
 have HPo := hid (pops_2 V)
 clear h hin hall hbc hinW hk hp hi hok hpz hsane u1 u2 u3 hx hz hp1 hV HA hV1
 go_enter Tryz.func23, Tryz.ntmps23
 go_upto_region 1 with fail
 rw [HV.out]
 clear HV c0 c1 c2 c3 e0 e1 e2 e3 d1 d2 d3
 have hcell := HA'.out.cells (k := k) HB.out.2.2.2.2.2.2.2.1
 rw [HX.out] at hcell
 have u0 : ¬ ((⟨x, y, z + 1⟩ : Sq).p = 0) := by dsimp only; have := HB.out; omega
 rw [show envV ⟨x, y, z + 1⟩ = x from if_neg u0, show stkV ⟨x, y, z + 1⟩ = y from if_neg u0, show parV ⟨x, y, z + 1⟩ = z from (if_neg u0).trans (Int.add_sub_cancel z 1)] at hcell
 obtain ⟨d1, d2, d3, -, -, -⟩ := hcell
 have e1 := z11 HA'.out.blk 1
 have e2 := z11 HA'.out.blk 2
 have e3 := z11 HA'.out.blk 3
 have e5 := z11 HA'.out.blk 5
 have z5 := z13 HA'.out.blk 5
 have i0 := z11 HV1.out 0
 have i1 := z11 HV1.out 1
 have i3 := z11 HV1.out 3
 simp at e1 e2 e3 e5 i0 i1 i3
 clear u0
 go_wp2_with fail
 refine HPo.out.mono ?_
 rintro e _ ⟨rfl, rfl⟩
 clear d1 d2 d3 e1 e2 e3
 have hy0 : ¬ y < 0 := by have := HB.out; omega
 have HZ : Hid (stepZ is T w k = rz is.length (some (T, w)) [((k : Int) + 1, (⟨x, y + 1, z + 1⟩ : Sq))]) := by
   show _ = _
   unfold stepZ
   rw [HI.out, HX.out, if_pos (by simp [needsZ])]
   simp [exitsZ, Sq.more]
 go_wp2_with fail
 refine (z38 HS0.out ((k : Int) + 1) (x) (y + 1) (z) HB.out.2.2.2.2.1 HB.out.2.2.2.2.2.1).mono ?_
 rintro e V2 ⟨rfl, hs1, hc1⟩
 have HS1 := hid hs1
 clear hs1 hc1 HS0
 go_wp2_with fail
 (try simp only [Exit.inBlock, Exit.then])
 refine bodyPost_end (results_none rfl _ _ _) rfl ?_
 refine ⟨rfl, ?_⟩
 rw [HZ.out]
 exact HS1.out
set_option maxRecDepth 100000 in
set_option maxHeartbeats 4000000 in
theorem step_3 {W0 : World} {Mb bc oc cc ge gs gp ce cs cp : Nat} {is : List In} {T : List Sq} {w : List Nat} {vw : Value} {W : World} (h : Ck W0 Mb (.slice (some ⟨bc, oc, none⟩) is.length cc) ge gs gp ce cs cp is.length T w vw false W) (hbc : bc < W0.heap.size) (hin : InsAt W0 bc oc is) (hall : ∀ i ∈ is, i.ok = true) (k : Nat) (hk : k < is.length) (hp : 1 ≤ (tg T k).p) (ho : (is.getD k default).op = 3) :
   Calls Tryz.prog 23 #[.pointer (some ⟨Mb, 0, none⟩), .int .i64 (k : Int)] W fun e W' => e = .returned (.tuple #[]) ∧ StC W0 Mb (.slice (some ⟨bc, oc, none⟩) is.length cc) ge gs gp ce cs cp is.length (stepZ is T w k) W' := by
 obtain ⟨i, hi⟩ : ∃ i, is.getD k default = i := ⟨_, rfl⟩
 have hok := z41 hall hk
 rw [hi] at hok ho
 obtain ⟨op, a, b, c⟩ := i
 dsimp only at ho
 subst ho
 have HA := h.below ((Below.refl W.heap.size W).alloc (Nat.le_refl _) (.cells #[.int .i64 3, .int .i64 a, .int .i64 b, .int .i64 c] 31))
 have hV1 := (MapKept.heap_alloc W (.cells #[.int .i64 3, .int .i64 a, .int .i64 b, .int .i64 c] 31)).1
 have hcell := h.cells (k := k) hk
 have hinW := hin.below h.bel hbc
 have c0 := hinW k hk 0 (by omega)
 have c1 := hinW k hk 1 (by omega)
 have c2 := hinW k hk 2 (by omega)
 have c3 := hinW k hk 3 (by omega)
 rw [hi] at c0 c1 c2 c3
 simp only [In.cell, Nat.add_zero] at c0 c1 c2 c3
 have hpz : ¬ (tg T k).p = 0 := by omega
 have hsane := h.sane _ (z50 (show k < T.length by rw [h.len]; exact hk))
 have u1 : envV (tg T k) = (tg T k).n := if_neg hpz
 have u2 : stkV (tg T k) = (tg T k).v := if_neg hpz
 have u3 : parV (tg T k) = (tg T k).p - 1 := if_neg hpz
 rw [u1, u2, u3] at hcell
 obtain ⟨⟨x, y, p⟩, hx⟩ : ∃ s, tg T k = s := ⟨_, rfl⟩
 rw [hx] at hcell hp hsane
 unfold SaneS at hsane
 obtain ⟨z, hz⟩ : ∃ z, p - 1 = z := ⟨_, rfl⟩
 dsimp only at hcell hp hsane
 rw [hz] at hcell
 obtain ⟨d1, d2, d3, -, -, -⟩ := hcell
 have HB : Hid (0 ≤ x ∧ x ≤ 100 ∧ 0 ≤ y ∧ y ≤ 100 ∧ 0 ≤ z ∧ z ≤ 2 ∧ p = z + 1 ∧ k < is.length ∧ is.length ≤ 1500) := by
   have := h.nl
   rcases hsane with hs | hs
   · omega
   · exact ⟨by omega, by omega, by omega, by omega, by omega, by omega, by omega, hk, by omega⟩
 have hp1 : p = z + 1 := HB.out.2.2.2.2.2.2.1
 have HI := hid hi
 have HX : Hid (tg T k = ⟨x, y, z + 1⟩) := by show _ = _; rw [hx, hp1]
 have HOk := hid hok
 have HF := hid (And.intro hbc (And.intro hin hall))
 have e0 := z11 h.blk 0
 have e1 := z11 h.blk 1
 have e2 := z11 h.blk 2
 have e3 := z11 h.blk 3
 simp at e0 e1 e2 e3
 obtain ⟨V, hV⟩ : ∃ V, W.alloc (.cells #[.int .i64 3, .int .i64 a, .int .i64 b, .int .i64 c] 31) = V := ⟨_, rfl⟩
 rw [hV] at HA hV1
 have HA' := hid HA
 have HV := hid hV
 have HV1 := hid hV1
 have HS0 := hid (StC.of HA)
 have q0 : (0 : Int) ≤ (k : Int) := by omega
 have q1 : (k : Int) < (is.length : Int) := by omega
 have w1 : wrap64 ((k : Int) + 1) = (k : Int) + 1 := by rw [wrap64]; have := HB.out; omega
 have w2 : wrap64 (x + 1) = x + 1 := by rw [wrap64]; have := HB.out; omega
 have w3 : wrap64 (x + 2) = x + 2 := by rw [wrap64]; have := HB.out; omega
 have w4 : wrap64 (y + 1) = y + 1 := by rw [wrap64]; have := HB.out; omega
 have w5 : wrap64 (y - 1) = y - 1 := by rw [wrap64]; have := HB.out; omega
 have w6 : wrap64 (x - 1) = x - 1 := by rw [wrap64]; have := HB.out; omega
 have HPo := hid (pops_3 V)
 clear h hin hall hbc hinW hk hp hi hok hpz hsane u1 u2 u3 hx hz hp1 hV HA hV1
 go_enter Tryz.func23, Tryz.ntmps23
 go_upto_region 1 with fail
 rw [HV.out]
 clear HV c0 c1 c2 c3 e0 e1 e2 e3 d1 d2 d3
 have hcell := HA'.out.cells (k := k) HB.out.2.2.2.2.2.2.2.1
 rw [HX.out] at hcell
 have u0 : ¬ ((⟨x, y, z + 1⟩ : Sq).p = 0) := by dsimp only; have := HB.out; omega
 rw [show envV ⟨x, y, z + 1⟩ = x from if_neg u0, show stkV ⟨x, y, z + 1⟩ = y from if_neg u0, show parV ⟨x, y, z + 1⟩ = z from (if_neg u0).trans (Int.add_sub_cancel z 1)] at hcell
 obtain ⟨d1, d2, d3, -, -, -⟩ := hcell
 have e1 := z11 HA'.out.blk 1
 have e2 := z11 HA'.out.blk 2
 have e3 := z11 HA'.out.blk 3
 have e5 := z11 HA'.out.blk 5
 have z5 := z13 HA'.out.blk 5
 have i0 := z11 HV1.out 0
 have i1 := z11 HV1.out 1
 have i3 := z11 HV1.out 3
 simp at e1 e2 e3 e5 i0 i1 i3
 clear u0
 go_wp2_with fail
 refine HPo.out.mono ?_
 rintro e _ ⟨rfl, rfl⟩
 clear d1 d2 d3 e1 e2 e3
 have hy0 : ¬ y < 0 := by have := HB.out; omega
 have HZ : Hid (stepZ is T w k = rz is.length (some (T, w)) [((k : Int) + 1, (⟨x, y + 1, z + 1⟩ : Sq))]) := by
   show _ = _
   unfold stepZ
   rw [HI.out, HX.out, if_pos (by simp [needsZ])]
   simp [exitsZ, Sq.more]
 go_wp2_with fail
 refine (z38 HS0.out ((k : Int) + 1) (x) (y + 1) (z) HB.out.2.2.2.2.1 HB.out.2.2.2.2.2.1).mono ?_
 rintro e V2 ⟨rfl, hs1, hc1⟩
 have HS1 := hid hs1
 clear hs1 hc1 HS0
 go_wp2_with fail
 (try simp only [Exit.inBlock, Exit.then])
 refine bodyPost_end (results_none rfl _ _ _) rfl ?_
 refine ⟨rfl, ?_⟩
 rw [HZ.out]
 exact HS1.out
set_option maxRecDepth 100000 in
set_option maxHeartbeats 4000000 in
theorem step_4 {W0 : World} {Mb bc oc cc ge gs gp ce cs cp : Nat} {is : List In} {T : List Sq} {w : List Nat} {vw : Value} {W : World} (h : Ck W0 Mb (.slice (some ⟨bc, oc, none⟩) is.length cc) ge gs gp ce cs cp is.length T w vw false W) (hbc : bc < W0.heap.size) (hin : InsAt W0 bc oc is) (hall : ∀ i ∈ is, i.ok = true) (k : Nat) (hk : k < is.length) (hp : 1 ≤ (tg T k).p) (ho : (is.getD k default).op = 4) :
   Calls Tryz.prog 23 #[.pointer (some ⟨Mb, 0, none⟩), .int .i64 (k : Int)] W fun e W' => e = .returned (.tuple #[]) ∧ StC W0 Mb (.slice (some ⟨bc, oc, none⟩) is.length cc) ge gs gp ce cs cp is.length (stepZ is T w k) W' := by
 obtain ⟨i, hi⟩ : ∃ i, is.getD k default = i := ⟨_, rfl⟩
 have hok := z41 hall hk
 rw [hi] at hok ho
 obtain ⟨op, a, b, c⟩ := i
 dsimp only at ho
 subst ho
 have HA := h.below ((Below.refl W.heap.size W).alloc (Nat.le_refl _) (.cells #[.int .i64 4, .int .i64 a, .int .i64 b, .int .i64 c] 31))
 have hV1 := (MapKept.heap_alloc W (.cells #[.int .i64 4, .int .i64 a, .int .i64 b, .int .i64 c] 31)).1
 have hcell := h.cells (k := k) hk
 have hinW := hin.below h.bel hbc
 have c0 := hinW k hk 0 (by omega)
 have c1 := hinW k hk 1 (by omega)
 have c2 := hinW k hk 2 (by omega)
 have c3 := hinW k hk 3 (by omega)
 rw [hi] at c0 c1 c2 c3
 simp only [In.cell, Nat.add_zero] at c0 c1 c2 c3
 have hpz : ¬ (tg T k).p = 0 := by omega
 have hsane := h.sane _ (z50 (show k < T.length by rw [h.len]; exact hk))
 have u1 : envV (tg T k) = (tg T k).n := if_neg hpz
 have u2 : stkV (tg T k) = (tg T k).v := if_neg hpz
 have u3 : parV (tg T k) = (tg T k).p - 1 := if_neg hpz
 rw [u1, u2, u3] at hcell
 obtain ⟨⟨x, y, p⟩, hx⟩ : ∃ s, tg T k = s := ⟨_, rfl⟩
 rw [hx] at hcell hp hsane
 unfold SaneS at hsane
 obtain ⟨z, hz⟩ : ∃ z, p - 1 = z := ⟨_, rfl⟩
 dsimp only at hcell hp hsane
 rw [hz] at hcell
 obtain ⟨d1, d2, d3, -, -, -⟩ := hcell
 have HB : Hid (0 ≤ x ∧ x ≤ 100 ∧ 0 ≤ y ∧ y ≤ 100 ∧ 0 ≤ z ∧ z ≤ 2 ∧ p = z + 1 ∧ k < is.length ∧ is.length ≤ 1500) := by
   have := h.nl
   rcases hsane with hs | hs
   · omega
   · exact ⟨by omega, by omega, by omega, by omega, by omega, by omega, by omega, hk, by omega⟩
 have hp1 : p = z + 1 := HB.out.2.2.2.2.2.2.1
 have HI := hid hi
 have HX : Hid (tg T k = ⟨x, y, z + 1⟩) := by show _ = _; rw [hx, hp1]
 have HOk := hid hok
 have HF := hid (And.intro hbc (And.intro hin hall))
 have e0 := z11 h.blk 0
 have e1 := z11 h.blk 1
 have e2 := z11 h.blk 2
 have e3 := z11 h.blk 3
 simp at e0 e1 e2 e3
 obtain ⟨V, hV⟩ : ∃ V, W.alloc (.cells #[.int .i64 4, .int .i64 a, .int .i64 b, .int .i64 c] 31) = V := ⟨_, rfl⟩
 rw [hV] at HA hV1
 have HA' := hid HA
 have HV := hid hV
 have HV1 := hid hV1
 have HS0 := hid (StC.of HA)
 have q0 : (0 : Int) ≤ (k : Int) := by omega
 have q1 : (k : Int) < (is.length : Int) := by omega
 have w1 : wrap64 ((k : Int) + 1) = (k : Int) + 1 := by rw [wrap64]; have := HB.out; omega
 have w2 : wrap64 (x + 1) = x + 1 := by rw [wrap64]; have := HB.out; omega
 have w3 : wrap64 (x + 2) = x + 2 := by rw [wrap64]; have := HB.out; omega
 have w4 : wrap64 (y + 1) = y + 1 := by rw [wrap64]; have := HB.out; omega
 have w5 : wrap64 (y - 1) = y - 1 := by rw [wrap64]; have := HB.out; omega
 have w6 : wrap64 (x - 1) = x - 1 := by rw [wrap64]; have := HB.out; omega
 have HPo := hid (pops_4 V)
 clear h hin hall hbc hinW hk hp hi hok hpz hsane u1 u2 u3 hx hz hp1 hV HA hV1
 go_enter Tryz.func23, Tryz.ntmps23
 go_upto_region 1 with fail
 rw [HV.out]
 clear HV c0 c1 c2 c3 e0 e1 e2 e3 d1 d2 d3
 have hcell := HA'.out.cells (k := k) HB.out.2.2.2.2.2.2.2.1
 rw [HX.out] at hcell
 have u0 : ¬ ((⟨x, y, z + 1⟩ : Sq).p = 0) := by dsimp only; have := HB.out; omega
 rw [show envV ⟨x, y, z + 1⟩ = x from if_neg u0, show stkV ⟨x, y, z + 1⟩ = y from if_neg u0, show parV ⟨x, y, z + 1⟩ = z from (if_neg u0).trans (Int.add_sub_cancel z 1)] at hcell
 obtain ⟨d1, d2, d3, -, -, -⟩ := hcell
 have e1 := z11 HA'.out.blk 1
 have e2 := z11 HA'.out.blk 2
 have e3 := z11 HA'.out.blk 3
 have e5 := z11 HA'.out.blk 5
 have z5 := z13 HA'.out.blk 5
 have i0 := z11 HV1.out 0
 have i1 := z11 HV1.out 1
 have i3 := z11 HV1.out 3
 simp at e1 e2 e3 e5 i0 i1 i3
 clear u0
 go_wp2_with fail
 refine HPo.out.mono ?_
 rintro e _ ⟨rfl, rfl⟩
 clear d1 d2 d3 e1 e2 e3
 have hy0 : ¬ y < 0 := by have := HB.out; omega
 have HZ : Hid (stepZ is T w k = rz is.length (some (T, w)) [((k : Int) + 1, (⟨x, y + 1, z + 1⟩ : Sq))]) := by
   show _ = _
   unfold stepZ
   rw [HI.out, HX.out, if_pos (by simp [needsZ])]
   simp [exitsZ, Sq.more]
 go_wp2_with fail
 refine (z38 HS0.out ((k : Int) + 1) (x) (y + 1) (z) HB.out.2.2.2.2.1 HB.out.2.2.2.2.2.1).mono ?_
 rintro e V2 ⟨rfl, hs1, hc1⟩
 have HS1 := hid hs1
 clear hs1 hc1 HS0
 go_wp2_with fail
 (try simp only [Exit.inBlock, Exit.then])
 refine bodyPost_end (results_none rfl _ _ _) rfl ?_
 refine ⟨rfl, ?_⟩
 rw [HZ.out]
 exact HS1.out
set_option maxRecDepth 100000 in
set_option maxHeartbeats 4000000 in
theorem step_5 {W0 : World} {Mb bc oc cc ge gs gp ce cs cp : Nat} {is : List In} {T : List Sq} {w : List Nat} {vw : Value} {W : World} (h : Ck W0 Mb (.slice (some ⟨bc, oc, none⟩) is.length cc) ge gs gp ce cs cp is.length T w vw false W) (hbc : bc < W0.heap.size) (hin : InsAt W0 bc oc is) (hall : ∀ i ∈ is, i.ok = true) (k : Nat) (hk : k < is.length) (hp : 1 ≤ (tg T k).p) (ho : (is.getD k default).op = 5) :
   Calls Tryz.prog 23 #[.pointer (some ⟨Mb, 0, none⟩), .int .i64 (k : Int)] W fun e W' => e = .returned (.tuple #[]) ∧ StC W0 Mb (.slice (some ⟨bc, oc, none⟩) is.length cc) ge gs gp ce cs cp is.length (stepZ is T w k) W' := by
 obtain ⟨i, hi⟩ : ∃ i, is.getD k default = i := ⟨_, rfl⟩
 have hok := z41 hall hk
 rw [hi] at hok ho
 obtain ⟨op, a, b, c⟩ := i
 dsimp only at ho
 subst ho
 have HA := h.below ((Below.refl W.heap.size W).alloc (Nat.le_refl _) (.cells #[.int .i64 5, .int .i64 a, .int .i64 b, .int .i64 c] 31))
 have hV1 := (MapKept.heap_alloc W (.cells #[.int .i64 5, .int .i64 a, .int .i64 b, .int .i64 c] 31)).1
 have hcell := h.cells (k := k) hk
 have hinW := hin.below h.bel hbc
 have c0 := hinW k hk 0 (by omega)
 have c1 := hinW k hk 1 (by omega)
 have c2 := hinW k hk 2 (by omega)
 have c3 := hinW k hk 3 (by omega)
 rw [hi] at c0 c1 c2 c3
 simp only [In.cell, Nat.add_zero] at c0 c1 c2 c3
 have hpz : ¬ (tg T k).p = 0 := by omega
 have hsane := h.sane _ (z50 (show k < T.length by rw [h.len]; exact hk))
 have u1 : envV (tg T k) = (tg T k).n := if_neg hpz
 have u2 : stkV (tg T k) = (tg T k).v := if_neg hpz
 have u3 : parV (tg T k) = (tg T k).p - 1 := if_neg hpz
 rw [u1, u2, u3] at hcell
 obtain ⟨⟨x, y, p⟩, hx⟩ : ∃ s, tg T k = s := ⟨_, rfl⟩
 rw [hx] at hcell hp hsane
 unfold SaneS at hsane
 obtain ⟨z, hz⟩ : ∃ z, p - 1 = z := ⟨_, rfl⟩
 dsimp only at hcell hp hsane
 rw [hz] at hcell
 obtain ⟨d1, d2, d3, -, -, -⟩ := hcell
 have HB : Hid (0 ≤ x ∧ x ≤ 100 ∧ 0 ≤ y ∧ y ≤ 100 ∧ 0 ≤ z ∧ z ≤ 2 ∧ p = z + 1 ∧ k < is.length ∧ is.length ≤ 1500) := by
   have := h.nl
   rcases hsane with hs | hs
   · omega
   · exact ⟨by omega, by omega, by omega, by omega, by omega, by omega, by omega, hk, by omega⟩
 have hp1 : p = z + 1 := HB.out.2.2.2.2.2.2.1
 have HI := hid hi
 have HX : Hid (tg T k = ⟨x, y, z + 1⟩) := by show _ = _; rw [hx, hp1]
 have HOk := hid hok
 have HF := hid (And.intro hbc (And.intro hin hall))
 have e0 := z11 h.blk 0
 have e1 := z11 h.blk 1
 have e2 := z11 h.blk 2
 have e3 := z11 h.blk 3
 simp at e0 e1 e2 e3
 obtain ⟨V, hV⟩ : ∃ V, W.alloc (.cells #[.int .i64 5, .int .i64 a, .int .i64 b, .int .i64 c] 31) = V := ⟨_, rfl⟩
 rw [hV] at HA hV1
 have HA' := hid HA
 have HV := hid hV
 have HV1 := hid hV1
 have HS0 := hid (StC.of HA)
 have q0 : (0 : Int) ≤ (k : Int) := by omega
 have q1 : (k : Int) < (is.length : Int) := by omega
 have w1 : wrap64 ((k : Int) + 1) = (k : Int) + 1 := by rw [wrap64]; have := HB.out; omega
 have w2 : wrap64 (x + 1) = x + 1 := by rw [wrap64]; have := HB.out; omega
 have w3 : wrap64 (x + 2) = x + 2 := by rw [wrap64]; have := HB.out; omega
 have w4 : wrap64 (y + 1) = y + 1 := by rw [wrap64]; have := HB.out; omega
 have w5 : wrap64 (y - 1) = y - 1 := by rw [wrap64]; have := HB.out; omega
 have w6 : wrap64 (x - 1) = x - 1 := by rw [wrap64]; have := HB.out; omega
 have HPo := hid (pops_5 V)
 clear h hin hall hbc hinW hk hp hi hok hpz hsane u1 u2 u3 hx hz hp1 hV HA hV1
 go_enter Tryz.func23, Tryz.ntmps23
 go_upto_region 1 with fail
 rw [HV.out]
 clear HV c0 c1 c2 c3 e0 e1 e2 e3 d1 d2 d3
 have hcell := HA'.out.cells (k := k) HB.out.2.2.2.2.2.2.2.1
 rw [HX.out] at hcell
 have u0 : ¬ ((⟨x, y, z + 1⟩ : Sq).p = 0) := by dsimp only; have := HB.out; omega
 rw [show envV ⟨x, y, z + 1⟩ = x from if_neg u0, show stkV ⟨x, y, z + 1⟩ = y from if_neg u0, show parV ⟨x, y, z + 1⟩ = z from (if_neg u0).trans (Int.add_sub_cancel z 1)] at hcell
 obtain ⟨d1, d2, d3, -, -, -⟩ := hcell
 have e1 := z11 HA'.out.blk 1
 have e2 := z11 HA'.out.blk 2
 have e3 := z11 HA'.out.blk 3
 have e5 := z11 HA'.out.blk 5
 have z5 := z13 HA'.out.blk 5
 have i0 := z11 HV1.out 0
 have i1 := z11 HV1.out 1
 have i3 := z11 HV1.out 3
 simp at e1 e2 e3 e5 i0 i1 i3
 clear u0
 go_wp2_with fail
 refine HPo.out.mono ?_
 rintro e _ ⟨rfl, rfl⟩
 clear d1 d2 d3 e1 e2 e3
 have hy0 : ¬ y < 0 := by have := HB.out; omega
 by_cases hv : a < x
 case neg =>
   have HZ : Hid (stepZ is T w k = none) := by
     show _ = _
     unfold stepZ
     rw [HI.out, HX.out, if_neg (fun e => by simp [needsZ] at e; omega)]
   have hv' : x ≤ a := by omega
   clear hv
   go_wp2_with fail
   have HS1 := hid HS0.out.flagged
   obtain ⟨V1, hV1⟩ : ∃ V1, V.setCell ⟨Mb, 5, none⟩ (.bool true) = V1 := ⟨_, rfl⟩
   rw [hV1] at HS1 ⊢
   clear hV1 i0 i1 i3 e5 z5 HS0 HPo
   refine (z38 HS1.out ((k : Int) + 1) x (y + 1) z HB.out.2.2.2.2.1 HB.out.2.2.2.2.2.1).mono ?_
   rintro e V2 ⟨rfl, hs2, -⟩
   clear HS1
   have HS2 := hid hs2
   clear hs2
   go_wp2_with fail
   (try simp only [Exit.inBlock, Exit.then])
   refine bodyPost_end (results_none rfl _ _ _) rfl ?_
   refine ⟨rfl, ?_⟩
   rw [HZ.out]
   exact HS2.out
 have HZ : Hid (stepZ is T w k = rz is.length (some (T, w)) [((k : Int) + 1, (⟨x, y + 1, z + 1⟩ : Sq))]) := by
   show _ = _
   unfold stepZ
   rw [HI.out, HX.out, if_pos (by simp [needsZ]; omega)]
   simp [exitsZ, Sq.more]
 have hv' : decide (x ≤ a) = false := by simp; omega
 clear hv
 go_wp2_with fail
 have HS0x := hid (StC.of (HA'.out.flag false))
 obtain ⟨V1, hV1⟩ : ∃ V1, V.setCell ⟨Mb, 5, none⟩ (.bool false) = V1 := ⟨_, rfl⟩
 rw [hV1] at HS0x ⊢
 clear hV1 i0 i1 i3 e5 z5
 refine (z38 HS0x.out ((k : Int) + 1) (x) (y + 1) (z) HB.out.2.2.2.2.1 HB.out.2.2.2.2.2.1).mono ?_
 rintro e V2 ⟨rfl, hs1, hc1⟩
 have HS1 := hid hs1
 clear hs1 hc1 HS0
 go_wp2_with fail
 (try simp only [Exit.inBlock, Exit.then])
 refine bodyPost_end (results_none rfl _ _ _) rfl ?_
 refine ⟨rfl, ?_⟩
 rw [HZ.out]
 exact HS1.out
set_option maxRecDepth 100000 in
set_option maxHeartbeats 4000000 in
theorem step_6 {W0 : World} {Mb bc oc cc ge gs gp ce cs cp : Nat} {is : List In} {T : List Sq} {w : List Nat} {vw : Value} {W : World} (h : Ck W0 Mb (.slice (some ⟨bc, oc, none⟩) is.length cc) ge gs gp ce cs cp is.length T w vw false W) (hbc : bc < W0.heap.size) (hin : InsAt W0 bc oc is) (hall : ∀ i ∈ is, i.ok = true) (k : Nat) (hk : k < is.length) (hp : 1 ≤ (tg T k).p) (ho : (is.getD k default).op = 6) :
   Calls Tryz.prog 23 #[.pointer (some ⟨Mb, 0, none⟩), .int .i64 (k : Int)] W fun e W' => e = .returned (.tuple #[]) ∧ StC W0 Mb (.slice (some ⟨bc, oc, none⟩) is.length cc) ge gs gp ce cs cp is.length (stepZ is T w k) W' := by
 obtain ⟨i, hi⟩ : ∃ i, is.getD k default = i := ⟨_, rfl⟩
 have hok := z41 hall hk
 rw [hi] at hok ho
 obtain ⟨op, a, b, c⟩ := i
 dsimp only at ho
 subst ho
 have HA := h.below ((Below.refl W.heap.size W).alloc (Nat.le_refl _) (.cells #[.int .i64 6, .int .i64 a, .int .i64 b, .int .i64 c] 31))
 have hV1 := (MapKept.heap_alloc W (.cells #[.int .i64 6, .int .i64 a, .int .i64 b, .int .i64 c] 31)).1
 have hcell := h.cells (k := k) hk
 have hinW := hin.below h.bel hbc
 have c0 := hinW k hk 0 (by omega)
 have c1 := hinW k hk 1 (by omega)
 have c2 := hinW k hk 2 (by omega)
 have c3 := hinW k hk 3 (by omega)
 rw [hi] at c0 c1 c2 c3
 simp only [In.cell, Nat.add_zero] at c0 c1 c2 c3
 have hpz : ¬ (tg T k).p = 0 := by omega
 have hsane := h.sane _ (z50 (show k < T.length by rw [h.len]; exact hk))
 have u1 : envV (tg T k) = (tg T k).n := if_neg hpz
 have u2 : stkV (tg T k) = (tg T k).v := if_neg hpz
 have u3 : parV (tg T k) = (tg T k).p - 1 := if_neg hpz
 rw [u1, u2, u3] at hcell
 obtain ⟨⟨x, y, p⟩, hx⟩ : ∃ s, tg T k = s := ⟨_, rfl⟩
 rw [hx] at hcell hp hsane
 unfold SaneS at hsane
 obtain ⟨z, hz⟩ : ∃ z, p - 1 = z := ⟨_, rfl⟩
 dsimp only at hcell hp hsane
 rw [hz] at hcell
 obtain ⟨d1, d2, d3, -, -, -⟩ := hcell
 have HB : Hid (0 ≤ x ∧ x ≤ 100 ∧ 0 ≤ y ∧ y ≤ 100 ∧ 0 ≤ z ∧ z ≤ 2 ∧ p = z + 1 ∧ k < is.length ∧ is.length ≤ 1500) := by
   have := h.nl
   rcases hsane with hs | hs
   · omega
   · exact ⟨by omega, by omega, by omega, by omega, by omega, by omega, by omega, hk, by omega⟩
 have hp1 : p = z + 1 := HB.out.2.2.2.2.2.2.1
 have HI := hid hi
 have HX : Hid (tg T k = ⟨x, y, z + 1⟩) := by show _ = _; rw [hx, hp1]
 have HOk := hid hok
 have HF := hid (And.intro hbc (And.intro hin hall))
 have e0 := z11 h.blk 0
 have e1 := z11 h.blk 1
 have e2 := z11 h.blk 2
 have e3 := z11 h.blk 3
 simp at e0 e1 e2 e3
 obtain ⟨V, hV⟩ : ∃ V, W.alloc (.cells #[.int .i64 6, .int .i64 a, .int .i64 b, .int .i64 c] 31) = V := ⟨_, rfl⟩
 rw [hV] at HA hV1
 have HA' := hid HA
 have HV := hid hV
 have HV1 := hid hV1
 have HS0 := hid (StC.of HA)
 have q0 : (0 : Int) ≤ (k : Int) := by omega
 have q1 : (k : Int) < (is.length : Int) := by omega
 have w1 : wrap64 ((k : Int) + 1) = (k : Int) + 1 := by rw [wrap64]; have := HB.out; omega
 have w2 : wrap64 (x + 1) = x + 1 := by rw [wrap64]; have := HB.out; omega
 have w3 : wrap64 (x + 2) = x + 2 := by rw [wrap64]; have := HB.out; omega
 have w4 : wrap64 (y + 1) = y + 1 := by rw [wrap64]; have := HB.out; omega
 have w5 : wrap64 (y - 1) = y - 1 := by rw [wrap64]; have := HB.out; omega
 have w6 : wrap64 (x - 1) = x - 1 := by rw [wrap64]; have := HB.out; omega
 have HPo := hid (pops_6 V)
 clear h hin hall hbc hinW hk hp hi hok hpz hsane u1 u2 u3 hx hz hp1 hV HA hV1
 go_enter Tryz.func23, Tryz.ntmps23
 go_upto_region 1 with fail
 rw [HV.out]
 clear HV c0 c1 c2 c3 e0 e1 e2 e3 d1 d2 d3
 have hcell := HA'.out.cells (k := k) HB.out.2.2.2.2.2.2.2.1
 rw [HX.out] at hcell
 have u0 : ¬ ((⟨x, y, z + 1⟩ : Sq).p = 0) := by dsimp only; have := HB.out; omega
 rw [show envV ⟨x, y, z + 1⟩ = x from if_neg u0, show stkV ⟨x, y, z + 1⟩ = y from if_neg u0, show parV ⟨x, y, z + 1⟩ = z from (if_neg u0).trans (Int.add_sub_cancel z 1)] at hcell
 obtain ⟨d1, d2, d3, -, -, -⟩ := hcell
 have e1 := z11 HA'.out.blk 1
 have e2 := z11 HA'.out.blk 2
 have e3 := z11 HA'.out.blk 3
 have e5 := z11 HA'.out.blk 5
 have z5 := z13 HA'.out.blk 5
 have i0 := z11 HV1.out 0
 have i1 := z11 HV1.out 1
 have i3 := z11 HV1.out 3
 simp at e1 e2 e3 e5 i0 i1 i3
 clear u0
 go_wp2_with fail
 refine HPo.out.mono ?_
 rintro e _ ⟨rfl, rfl⟩
 clear d1 d2 d3 e1 e2 e3
 have hy0 : ¬ y < 0 := by have := HB.out; omega
 have HZ : Hid (stepZ is T w k = rz is.length (some (T, w)) [(a, (⟨x + 1, 0, 2⟩ : Sq)), ((k : Int) + 1, (⟨x, y + 1, z + 1⟩ : Sq))]) := by
   show _ = _
   unfold stepZ
   rw [HI.out, HX.out, if_pos (by simp [needsZ])]
   simp [exitsZ, Sq.more]
 go_wp2_with fail
 refine (z38 HS0.out (a) (x + 1) (0) (1) (by decide) (by decide)).mono ?_
 rintro e V2 ⟨rfl, hs1, hc1⟩
 have HS1 := hid hs1
 have HV2 := hid ((hc1.block _ _ _ HV1.out (by decide) (by decide)).trans HV1.out)
 clear i0 i1 i3
 clear e5 z5
 have i0 := z11 HV2.out 0
 have i1 := z11 HV2.out 1
 have i3 := z11 HV2.out 3
 simp at i0 i1 i3
 clear hs1 hc1 HS0
 go_wp2_with fail
 refine (z38 HS1.out ((k : Int) + 1) (x) (y + 1) (z) HB.out.2.2.2.2.1 HB.out.2.2.2.2.2.1).mono ?_
 rintro e V3 ⟨rfl, hs2, hc2⟩
 have HS2 := hid hs2
 clear hs2 hc2 HS1
 go_wp2_with fail
 (try simp only [Exit.inBlock, Exit.then])
 refine bodyPost_end (results_none rfl _ _ _) rfl ?_
 refine ⟨rfl, ?_⟩
 rw [HZ.out]
 exact HS2.out
set_option maxRecDepth 100000 in
set_option maxHeartbeats 4000000 in
theorem step_7 {W0 : World} {Mb bc oc cc ge gs gp ce cs cp : Nat} {is : List In} {T : List Sq} {w : List Nat} {vw : Value} {W : World} (h : Ck W0 Mb (.slice (some ⟨bc, oc, none⟩) is.length cc) ge gs gp ce cs cp is.length T w vw false W) (hbc : bc < W0.heap.size) (hin : InsAt W0 bc oc is) (hall : ∀ i ∈ is, i.ok = true) (k : Nat) (hk : k < is.length) (hp : 1 ≤ (tg T k).p) (ho : (is.getD k default).op = 7) :
   Calls Tryz.prog 23 #[.pointer (some ⟨Mb, 0, none⟩), .int .i64 (k : Int)] W fun e W' => e = .returned (.tuple #[]) ∧ StC W0 Mb (.slice (some ⟨bc, oc, none⟩) is.length cc) ge gs gp ce cs cp is.length (stepZ is T w k) W' := by
 obtain ⟨i, hi⟩ : ∃ i, is.getD k default = i := ⟨_, rfl⟩
 have hok := z41 hall hk
 rw [hi] at hok ho
 obtain ⟨op, a, b, c⟩ := i
 dsimp only at ho
 subst ho
 have HA := h.below ((Below.refl W.heap.size W).alloc (Nat.le_refl _) (.cells #[.int .i64 7, .int .i64 a, .int .i64 b, .int .i64 c] 31))
 have hV1 := (MapKept.heap_alloc W (.cells #[.int .i64 7, .int .i64 a, .int .i64 b, .int .i64 c] 31)).1
 have hcell := h.cells (k := k) hk
 have hinW := hin.below h.bel hbc
 have c0 := hinW k hk 0 (by omega)
 have c1 := hinW k hk 1 (by omega)
 have c2 := hinW k hk 2 (by omega)
 have c3 := hinW k hk 3 (by omega)
 rw [hi] at c0 c1 c2 c3
 simp only [In.cell, Nat.add_zero] at c0 c1 c2 c3
 have hpz : ¬ (tg T k).p = 0 := by omega
 have hsane := h.sane _ (z50 (show k < T.length by rw [h.len]; exact hk))
 have u1 : envV (tg T k) = (tg T k).n := if_neg hpz
 have u2 : stkV (tg T k) = (tg T k).v := if_neg hpz
 have u3 : parV (tg T k) = (tg T k).p - 1 := if_neg hpz
 rw [u1, u2, u3] at hcell
 obtain ⟨⟨x, y, p⟩, hx⟩ : ∃ s, tg T k = s := ⟨_, rfl⟩
 rw [hx] at hcell hp hsane
 unfold SaneS at hsane
 obtain ⟨z, hz⟩ : ∃ z, p - 1 = z := ⟨_, rfl⟩
 dsimp only at hcell hp hsane
 rw [hz] at hcell
 obtain ⟨d1, d2, d3, -, -, -⟩ := hcell
 have HB : Hid (0 ≤ x ∧ x ≤ 100 ∧ 0 ≤ y ∧ y ≤ 100 ∧ 0 ≤ z ∧ z ≤ 2 ∧ p = z + 1 ∧ k < is.length ∧ is.length ≤ 1500) := by
   have := h.nl
   rcases hsane with hs | hs
   · omega
   · exact ⟨by omega, by omega, by omega, by omega, by omega, by omega, by omega, hk, by omega⟩
 have hp1 : p = z + 1 := HB.out.2.2.2.2.2.2.1
 have HI := hid hi
 have HX : Hid (tg T k = ⟨x, y, z + 1⟩) := by show _ = _; rw [hx, hp1]
 have HOk := hid hok
 have HF := hid (And.intro hbc (And.intro hin hall))
 have e0 := z11 h.blk 0
 have e1 := z11 h.blk 1
 have e2 := z11 h.blk 2
 have e3 := z11 h.blk 3
 simp at e0 e1 e2 e3
 obtain ⟨V, hV⟩ : ∃ V, W.alloc (.cells #[.int .i64 7, .int .i64 a, .int .i64 b, .int .i64 c] 31) = V := ⟨_, rfl⟩
 rw [hV] at HA hV1
 have HA' := hid HA
 have HV := hid hV
 have HV1 := hid hV1
 have HS0 := hid (StC.of HA)
 have q0 : (0 : Int) ≤ (k : Int) := by omega
 have q1 : (k : Int) < (is.length : Int) := by omega
 have w1 : wrap64 ((k : Int) + 1) = (k : Int) + 1 := by rw [wrap64]; have := HB.out; omega
 have w2 : wrap64 (x + 1) = x + 1 := by rw [wrap64]; have := HB.out; omega
 have w3 : wrap64 (x + 2) = x + 2 := by rw [wrap64]; have := HB.out; omega
 have w4 : wrap64 (y + 1) = y + 1 := by rw [wrap64]; have := HB.out; omega
 have w5 : wrap64 (y - 1) = y - 1 := by rw [wrap64]; have := HB.out; omega
 have w6 : wrap64 (x - 1) = x - 1 := by rw [wrap64]; have := HB.out; omega
 have HPo := hid (pops_7 V)
 clear h hin hall hbc hinW hk hp hi hok hpz hsane u1 u2 u3 hx hz hp1 hV HA hV1
 go_enter Tryz.func23, Tryz.ntmps23
 go_upto_region 1 with fail
 rw [HV.out]
 clear HV c0 c1 c2 c3 e0 e1 e2 e3 d1 d2 d3
 have hcell := HA'.out.cells (k := k) HB.out.2.2.2.2.2.2.2.1
 rw [HX.out] at hcell
 have u0 : ¬ ((⟨x, y, z + 1⟩ : Sq).p = 0) := by dsimp only; have := HB.out; omega
 rw [show envV ⟨x, y, z + 1⟩ = x from if_neg u0, show stkV ⟨x, y, z + 1⟩ = y from if_neg u0, show parV ⟨x, y, z + 1⟩ = z from (if_neg u0).trans (Int.add_sub_cancel z 1)] at hcell
 obtain ⟨d1, d2, d3, -, -, -⟩ := hcell
 have e1 := z11 HA'.out.blk 1
 have e2 := z11 HA'.out.blk 2
 have e3 := z11 HA'.out.blk 3
 have e5 := z11 HA'.out.blk 5
 have z5 := z13 HA'.out.blk 5
 have i0 := z11 HV1.out 0
 have i1 := z11 HV1.out 1
 have i3 := z11 HV1.out 3
 simp at e1 e2 e3 e5 i0 i1 i3
 clear u0
 go_wp2_with fail
 refine HPo.out.mono ?_
 rintro e _ ⟨rfl, rfl⟩
 clear d1 d2 d3 e1 e2 e3
 have hy0 : ¬ y < 0 := by have := HB.out; omega
 have HZ : Hid (stepZ is T w k = rz is.length (some (T, w)) [(a, (⟨x + 2, 0, 2⟩ : Sq)), ((k : Int) + 1, (⟨x, y + 1, z + 1⟩ : Sq))]) := by
   show _ = _
   unfold stepZ
   rw [HI.out, HX.out, if_pos (by simp [needsZ])]
   simp [exitsZ, Sq.more]
 go_wp2_with fail
 refine (z38 HS0.out (a) (x + 2) (0) (1) (by decide) (by decide)).mono ?_
 rintro e V2 ⟨rfl, hs1, hc1⟩
 have HS1 := hid hs1
 have HV2 := hid ((hc1.block _ _ _ HV1.out (by decide) (by decide)).trans HV1.out)
 clear i0 i1 i3
 clear e5 z5
 have i0 := z11 HV2.out 0
 have i1 := z11 HV2.out 1
 have i3 := z11 HV2.out 3
 simp at i0 i1 i3
 clear hs1 hc1 HS0
 go_wp2_with fail
 refine (z38 HS1.out ((k : Int) + 1) (x) (y + 1) (z) HB.out.2.2.2.2.1 HB.out.2.2.2.2.2.1).mono ?_
 rintro e V3 ⟨rfl, hs2, hc2⟩
 have HS2 := hid hs2
 clear hs2 hc2 HS1
 go_wp2_with fail
 (try simp only [Exit.inBlock, Exit.then])
 refine bodyPost_end (results_none rfl _ _ _) rfl ?_
 refine ⟨rfl, ?_⟩
 rw [HZ.out]
 exact HS2.out
set_option maxRecDepth 100000 in
set_option maxHeartbeats 4000000 in
theorem step_8 {W0 : World} {Mb bc oc cc ge gs gp ce cs cp : Nat} {is : List In} {T : List Sq} {w : List Nat} {vw : Value} {W : World} (h : Ck W0 Mb (.slice (some ⟨bc, oc, none⟩) is.length cc) ge gs gp ce cs cp is.length T w vw false W) (hbc : bc < W0.heap.size) (hin : InsAt W0 bc oc is) (hall : ∀ i ∈ is, i.ok = true) (k : Nat) (hk : k < is.length) (hp : 1 ≤ (tg T k).p) (ho : (is.getD k default).op = 8) :
   Calls Tryz.prog 23 #[.pointer (some ⟨Mb, 0, none⟩), .int .i64 (k : Int)] W fun e W' => e = .returned (.tuple #[]) ∧ StC W0 Mb (.slice (some ⟨bc, oc, none⟩) is.length cc) ge gs gp ce cs cp is.length (stepZ is T w k) W' := by
 obtain ⟨i, hi⟩ : ∃ i, is.getD k default = i := ⟨_, rfl⟩
 have hok := z41 hall hk
 rw [hi] at hok ho
 obtain ⟨op, a, b, c⟩ := i
 dsimp only at ho
 subst ho
 have HA := h.below ((Below.refl W.heap.size W).alloc (Nat.le_refl _) (.cells #[.int .i64 8, .int .i64 a, .int .i64 b, .int .i64 c] 31))
 have hV1 := (MapKept.heap_alloc W (.cells #[.int .i64 8, .int .i64 a, .int .i64 b, .int .i64 c] 31)).1
 have hcell := h.cells (k := k) hk
 have hinW := hin.below h.bel hbc
 have c0 := hinW k hk 0 (by omega)
 have c1 := hinW k hk 1 (by omega)
 have c2 := hinW k hk 2 (by omega)
 have c3 := hinW k hk 3 (by omega)
 rw [hi] at c0 c1 c2 c3
 simp only [In.cell, Nat.add_zero] at c0 c1 c2 c3
 have hpz : ¬ (tg T k).p = 0 := by omega
 have hsane := h.sane _ (z50 (show k < T.length by rw [h.len]; exact hk))
 have u1 : envV (tg T k) = (tg T k).n := if_neg hpz
 have u2 : stkV (tg T k) = (tg T k).v := if_neg hpz
 have u3 : parV (tg T k) = (tg T k).p - 1 := if_neg hpz
 rw [u1, u2, u3] at hcell
 obtain ⟨⟨x, y, p⟩, hx⟩ : ∃ s, tg T k = s := ⟨_, rfl⟩
 rw [hx] at hcell hp hsane
 unfold SaneS at hsane
 obtain ⟨z, hz⟩ : ∃ z, p - 1 = z := ⟨_, rfl⟩
 dsimp only at hcell hp hsane
 rw [hz] at hcell
 obtain ⟨d1, d2, d3, -, -, -⟩ := hcell
 have HB : Hid (0 ≤ x ∧ x ≤ 100 ∧ 0 ≤ y ∧ y ≤ 100 ∧ 0 ≤ z ∧ z ≤ 2 ∧ p = z + 1 ∧ k < is.length ∧ is.length ≤ 1500) := by
   have := h.nl
   rcases hsane with hs | hs
   · omega
   · exact ⟨by omega, by omega, by omega, by omega, by omega, by omega, by omega, hk, by omega⟩
 have hp1 : p = z + 1 := HB.out.2.2.2.2.2.2.1
 have HI := hid hi
 have HX : Hid (tg T k = ⟨x, y, z + 1⟩) := by show _ = _; rw [hx, hp1]
 have HOk := hid hok
 have HF := hid (And.intro hbc (And.intro hin hall))
 have e0 := z11 h.blk 0
 have e1 := z11 h.blk 1
 have e2 := z11 h.blk 2
 have e3 := z11 h.blk 3
 simp at e0 e1 e2 e3
 obtain ⟨V, hV⟩ : ∃ V, W.alloc (.cells #[.int .i64 8, .int .i64 a, .int .i64 b, .int .i64 c] 31) = V := ⟨_, rfl⟩
 rw [hV] at HA hV1
 have HA' := hid HA
 have HV := hid hV
 have HV1 := hid hV1
 have HS0 := hid (StC.of HA)
 have q0 : (0 : Int) ≤ (k : Int) := by omega
 have q1 : (k : Int) < (is.length : Int) := by omega
 have w1 : wrap64 ((k : Int) + 1) = (k : Int) + 1 := by rw [wrap64]; have := HB.out; omega
 have w2 : wrap64 (x + 1) = x + 1 := by rw [wrap64]; have := HB.out; omega
 have w3 : wrap64 (x + 2) = x + 2 := by rw [wrap64]; have := HB.out; omega
 have w4 : wrap64 (y + 1) = y + 1 := by rw [wrap64]; have := HB.out; omega
 have w5 : wrap64 (y - 1) = y - 1 := by rw [wrap64]; have := HB.out; omega
 have w6 : wrap64 (x - 1) = x - 1 := by rw [wrap64]; have := HB.out; omega
 have HPo := hid (pops_8 V)
 clear h hin hall hbc hinW hk hp hi hok hpz hsane u1 u2 u3 hx hz hp1 hV HA hV1
 go_enter Tryz.func23, Tryz.ntmps23
 go_upto_region 1 with fail
 rw [HV.out]
 clear HV c0 c1 c2 c3 e0 e1 e2 e3 d1 d2 d3
 have hcell := HA'.out.cells (k := k) HB.out.2.2.2.2.2.2.2.1
 rw [HX.out] at hcell
 have u0 : ¬ ((⟨x, y, z + 1⟩ : Sq).p = 0) := by dsimp only; have := HB.out; omega
 rw [show envV ⟨x, y, z + 1⟩ = x from if_neg u0, show stkV ⟨x, y, z + 1⟩ = y from if_neg u0, show parV ⟨x, y, z + 1⟩ = z from (if_neg u0).trans (Int.add_sub_cancel z 1)] at hcell
 obtain ⟨d1, d2, d3, -, -, -⟩ := hcell
 have e1 := z11 HA'.out.blk 1
 have e2 := z11 HA'.out.blk 2
 have e3 := z11 HA'.out.blk 3
 have e5 := z11 HA'.out.blk 5
 have z5 := z13 HA'.out.blk 5
 have i0 := z11 HV1.out 0
 have i1 := z11 HV1.out 1
 have i3 := z11 HV1.out 3
 simp at e1 e2 e3 e5 i0 i1 i3
 clear u0
 go_wp2_with fail
 refine HPo.out.mono ?_
 rintro e _ ⟨rfl, rfl⟩
 clear d1 d2 d3 e1 e2 e3
 by_cases hpop : y < 2
 · have HZ : Hid (stepZ is T w k = none) := by
     show _ = _
     unfold stepZ
     rw [HI.out, HX.out, if_neg (fun e => by simp [needsZ] at e; omega)]
   go_wp2_with fail
   (try simp only [Exit.inBlock, Exit.then])
   refine bodyPost_ret (results_none rfl _ _ _) rfl ?_
   refine ⟨rfl, ?_⟩
   rw [HZ.out]
   exact HS0.out.flagged
 have HZ : Hid (stepZ is T w k = rz is.length (some (T, w)) [((k : Int) + 1, (⟨x, y - 1, z + 1⟩ : Sq))]) := by
   show _ = _
   unfold stepZ
   rw [HI.out, HX.out, if_pos (by simp [needsZ]; omega)]
   simp [exitsZ, Sq.more, Int.sub_eq_add_neg]
 go_wp2_with fail
 refine (z38 HS0.out ((k : Int) + 1) (x) (y - 1) (z) HB.out.2.2.2.2.1 HB.out.2.2.2.2.2.1).mono ?_
 rintro e V2 ⟨rfl, hs1, hc1⟩
 have HS1 := hid hs1
 clear hs1 hc1 HS0
 go_wp2_with fail
 (try simp only [Exit.inBlock, Exit.then])
 refine bodyPost_end (results_none rfl _ _ _) rfl ?_
 refine ⟨rfl, ?_⟩
 rw [HZ.out]
 exact HS1.out
end
section
open Go.RowKit
set_option maxRecDepth 100000 in
theorem pops_9 (W : World) : Calls Tryz.prog 42 #[.int .i64 9] W fun e W' => e = .returned (.int .i64 1) ∧ W = W' := by
 go_enter Tryz.func42, Tryz.ntmps42
 go_wp2_with fail
 go_ret
 exact ⟨rfl, rfl⟩
set_option maxRecDepth 100000 in
theorem pops_10 (W : World) : Calls Tryz.prog 42 #[.int .i64 10] W fun e W' => e = .returned (.int .i64 1) ∧ W = W' := by
 go_enter Tryz.func42, Tryz.ntmps42
 go_wp2_with fail
 go_ret
 exact ⟨rfl, rfl⟩
set_option maxRecDepth 100000 in
theorem pops_11 (W : World) : Calls Tryz.prog 42 #[.int .i64 11] W fun e W' => e = .returned (.int .i64 0) ∧ W = W' := by
 go_enter Tryz.func42, Tryz.ntmps42
 go_wp2_with fail
 go_ret
 exact ⟨rfl, rfl⟩
set_option maxRecDepth 100000 in
theorem pops_12 (W : World) : Calls Tryz.prog 42 #[.int .i64 12] W fun e W' => e = .returned (.int .i64 1) ∧ W = W' := by
 go_enter Tryz.func42, Tryz.ntmps42
 go_wp2_with fail
 go_ret
 exact ⟨rfl, rfl⟩
set_option maxRecDepth 100000 in
theorem pops_13 (W : World) : Calls Tryz.prog 42 #[.int .i64 13] W fun e W' => e = .returned (.int .i64 0) ∧ W = W' := by
 go_enter Tryz.func42, Tryz.ntmps42
 go_wp2_with fail
 go_ret
 exact ⟨rfl, rfl⟩
set_option maxRecDepth 100000 in
theorem pops_14 (W : World) : Calls Tryz.prog 42 #[.int .i64 14] W fun e W' => e = .returned (.int .i64 2) ∧ W = W' := by
 go_enter Tryz.func42, Tryz.ntmps42
 go_wp2_with fail
 go_ret
 exact ⟨rfl, rfl⟩
set_option maxRecDepth 100000 in
theorem pops_15 (W : World) : Calls Tryz.prog 42 #[.int .i64 15] W fun e W' => e = .returned (.int .i64 2) ∧ W = W' := by
 go_enter Tryz.func42, Tryz.ntmps42
 go_wp2_with fail
 go_ret
 exact ⟨rfl, rfl⟩
set_option maxRecDepth 100000 in
theorem pops_16 (W : World) : Calls Tryz.prog 42 #[.int .i64 16] W fun e W' => e = .returned (.int .i64 1) ∧ W = W' := by
 go_enter Tryz.func42, Tryz.ntmps42
 go_wp2_with fail
 go_ret
 exact ⟨rfl, rfl⟩
set_option maxRecDepth 100000 in
theorem pops_17 (W : World) : Calls Tryz.prog 42 #[.int .i64 17] W fun e W' => e = .returned (.int .i64 1) ∧ W = W' := by
 go_enter Tryz.func42, Tryz.ntmps42
 go_wp2_with fail
 go_ret
 exact ⟨rfl, rfl⟩
set_option maxRecDepth 100000 in
set_option maxHeartbeats 4000000 in
theorem step_9 {W0 : World} {Mb bc oc cc ge gs gp ce cs cp : Nat} {is : List In} {T : List Sq} {w : List Nat} {vw : Value} {W : World} (h : Ck W0 Mb (.slice (some ⟨bc, oc, none⟩) is.length cc) ge gs gp ce cs cp is.length T w vw false W) (hbc : bc < W0.heap.size) (hin : InsAt W0 bc oc is) (hall : ∀ i ∈ is, i.ok = true) (k : Nat) (hk : k < is.length) (hp : 1 ≤ (tg T k).p) (ho : (is.getD k default).op = 9) :
   Calls Tryz.prog 23 #[.pointer (some ⟨Mb, 0, none⟩), .int .i64 (k : Int)] W fun e W' => e = .returned (.tuple #[]) ∧ StC W0 Mb (.slice (some ⟨bc, oc, none⟩) is.length cc) ge gs gp ce cs cp is.length (stepZ is T w k) W' := by
 obtain ⟨i, hi⟩ : ∃ i, is.getD k default = i := ⟨_, rfl⟩
 have hok := z41 hall hk
 rw [hi] at hok ho
 obtain ⟨op, a, b, c⟩ := i
 dsimp only at ho
 subst ho
 have HA := h.below ((Below.refl W.heap.size W).alloc (Nat.le_refl _) (.cells #[.int .i64 9, .int .i64 a, .int .i64 b, .int .i64 c] 31))
 have hV1 := (MapKept.heap_alloc W (.cells #[.int .i64 9, .int .i64 a, .int .i64 b, .int .i64 c] 31)).1
 have hcell := h.cells (k := k) hk
 have hinW := hin.below h.bel hbc
 have c0 := hinW k hk 0 (by omega)
 have c1 := hinW k hk 1 (by omega)
 have c2 := hinW k hk 2 (by omega)
 have c3 := hinW k hk 3 (by omega)
 rw [hi] at c0 c1 c2 c3
 simp only [In.cell, Nat.add_zero] at c0 c1 c2 c3
 have hpz : ¬ (tg T k).p = 0 := by omega
 have hsane := h.sane _ (z50 (show k < T.length by rw [h.len]; exact hk))
 have u1 : envV (tg T k) = (tg T k).n := if_neg hpz
 have u2 : stkV (tg T k) = (tg T k).v := if_neg hpz
 have u3 : parV (tg T k) = (tg T k).p - 1 := if_neg hpz
 rw [u1, u2, u3] at hcell
 obtain ⟨⟨x, y, p⟩, hx⟩ : ∃ s, tg T k = s := ⟨_, rfl⟩
 rw [hx] at hcell hp hsane
 unfold SaneS at hsane
 obtain ⟨z, hz⟩ : ∃ z, p - 1 = z := ⟨_, rfl⟩
 dsimp only at hcell hp hsane
 rw [hz] at hcell
 obtain ⟨d1, d2, d3, -, -, -⟩ := hcell
 have HB : Hid (0 ≤ x ∧ x ≤ 100 ∧ 0 ≤ y ∧ y ≤ 100 ∧ 0 ≤ z ∧ z ≤ 2 ∧ p = z + 1 ∧ k < is.length ∧ is.length ≤ 1500) := by
   have := h.nl
   rcases hsane with hs | hs
   · omega
   · exact ⟨by omega, by omega, by omega, by omega, by omega, by omega, by omega, hk, by omega⟩
 have hp1 : p = z + 1 := HB.out.2.2.2.2.2.2.1
 have HI := hid hi
 have HX : Hid (tg T k = ⟨x, y, z + 1⟩) := by show _ = _; rw [hx, hp1]
 have HOk := hid hok
 have HF := hid (And.intro hbc (And.intro hin hall))
 have e0 := z11 h.blk 0
 have e1 := z11 h.blk 1
 have e2 := z11 h.blk 2
 have e3 := z11 h.blk 3
 simp at e0 e1 e2 e3
 obtain ⟨V, hV⟩ : ∃ V, W.alloc (.cells #[.int .i64 9, .int .i64 a, .int .i64 b, .int .i64 c] 31) = V := ⟨_, rfl⟩
 rw [hV] at HA hV1
 have HA' := hid HA
 have HV := hid hV
 have HV1 := hid hV1
 have HS0 := hid (StC.of HA)
 have q0 : (0 : Int) ≤ (k : Int) := by omega
 have q1 : (k : Int) < (is.length : Int) := by omega
 have w1 : wrap64 ((k : Int) + 1) = (k : Int) + 1 := by rw [wrap64]; have := HB.out; omega
 have w2 : wrap64 (x + 1) = x + 1 := by rw [wrap64]; have := HB.out; omega
 have w3 : wrap64 (x + 2) = x + 2 := by rw [wrap64]; have := HB.out; omega
 have w4 : wrap64 (y + 1) = y + 1 := by rw [wrap64]; have := HB.out; omega
 have w5 : wrap64 (y - 1) = y - 1 := by rw [wrap64]; have := HB.out; omega
 have w6 : wrap64 (x - 1) = x - 1 := by rw [wrap64]; have := HB.out; omega
 have HPo := hid (pops_9 V)
 clear h hin hall hbc hinW hk hp hi hok hpz hsane u1 u2 u3 hx hz hp1 hV HA hV1
 go_enter Tryz.func23, Tryz.ntmps23
 go_upto_region 1 with fail
 rw [HV.out]
 clear HV c0 c1 c2 c3 e0 e1 e2 e3 d1 d2 d3
 have hcell := HA'.out.cells (k := k) HB.out.2.2.2.2.2.2.2.1
 rw [HX.out] at hcell
 have u0 : ¬ ((⟨x, y, z + 1⟩ : Sq).p = 0) := by dsimp only; have := HB.out; omega
 rw [show envV ⟨x, y, z + 1⟩ = x from if_neg u0, show stkV ⟨x, y, z + 1⟩ = y from if_neg u0, show parV ⟨x, y, z + 1⟩ = z from (if_neg u0).trans (Int.add_sub_cancel z 1)] at hcell
 obtain ⟨d1, d2, d3, -, -, -⟩ := hcell
 have e1 := z11 HA'.out.blk 1
 have e2 := z11 HA'.out.blk 2
 have e3 := z11 HA'.out.blk 3
 have e5 := z11 HA'.out.blk 5
 have z5 := z13 HA'.out.blk 5
 have i0 := z11 HV1.out 0
 have i1 := z11 HV1.out 1
 have i3 := z11 HV1.out 3
 simp at e1 e2 e3 e5 i0 i1 i3
 clear u0
 go_wp2_with fail
 refine HPo.out.mono ?_
 rintro e _ ⟨rfl, rfl⟩
 clear d1 d2 d3 e1 e2 e3
 by_cases hpop : y < 1
 · have HZ : Hid (stepZ is T w k = none) := by
     show _ = _
     unfold stepZ
     rw [HI.out, HX.out, if_neg (fun e => by simp [needsZ] at e; omega)]
   go_wp2_with fail
   (try simp only [Exit.inBlock, Exit.then])
   refine bodyPost_ret (results_none rfl _ _ _) rfl ?_
   refine ⟨rfl, ?_⟩
   rw [HZ.out]
   exact HS0.out.flagged
 by_cases f1 : y = 1
 case neg =>
   have HZ : Hid (stepZ is T w k = none) := by
     show _ = _
     unfold stepZ
     rw [HI.out, HX.out, if_neg (fun e => by simp [needsZ] at e; omega)]
   have f1n : (y != 1) = true := by simp [f1]
   go_wp2_with fail
   (try simp only [Exit.inBlock, Exit.then])
   refine bodyPost_end (results_none rfl _ _ _) rfl ?_
   refine ⟨rfl, ?_⟩
   rw [HZ.out]
   exact HS0.out.flagged
 by_cases f2 : z = 1
 case neg =>
   have HZ : Hid (stepZ is T w k = none) := by
     show _ = _
     unfold stepZ
     rw [HI.out, HX.out, if_neg (fun e => by simp [needsZ] at e; omega)]
   have f1n : (y != 1) = false := by simp [f1]
   have f2n : (z != 1) = true := by simp [f2]
   clear f1
   go_wp2_with fail
   (try simp only [Exit.inBlock, Exit.then])
   refine bodyPost_end (results_none rfl _ _ _) rfl ?_
   refine ⟨rfl, ?_⟩
   rw [HZ.out]
   exact HS0.out.flagged
 have HZ : Hid (stepZ is T w k = some (T, w)) := by
   show _ = _
   unfold stepZ
   rw [HI.out, HX.out, if_pos (by simp [needsZ]; omega)]
   rfl
 have f1n : (y != 1) = false := by simp [f1]
 have f2n : (z != 1) = false := by simp [f2]
 clear f1 f2
 go_wp2_with fail
 (try simp only [Exit.inBlock, Exit.then])
 refine bodyPost_end (results_none rfl _ _ _) rfl ?_
 refine ⟨rfl, ?_⟩
 rw [HZ.out]
 exact StC.of (HA'.out.flag false)
set_option maxRecDepth 100000 in
set_option maxHeartbeats 4000000 in
theorem step_10 {W0 : World} {Mb bc oc cc ge gs gp ce cs cp : Nat} {is : List In} {T : List Sq} {w : List Nat} {vw : Value} {W : World} (h : Ck W0 Mb (.slice (some ⟨bc, oc, none⟩) is.length cc) ge gs gp ce cs cp is.length T w vw false W) (hbc : bc < W0.heap.size) (hin : InsAt W0 bc oc is) (hall : ∀ i ∈ is, i.ok = true) (k : Nat) (hk : k < is.length) (hp : 1 ≤ (tg T k).p) (ho : (is.getD k default).op = 10) :
   Calls Tryz.prog 23 #[.pointer (some ⟨Mb, 0, none⟩), .int .i64 (k : Int)] W fun e W' => e = .returned (.tuple #[]) ∧ StC W0 Mb (.slice (some ⟨bc, oc, none⟩) is.length cc) ge gs gp ce cs cp is.length (stepZ is T w k) W' := by
 obtain ⟨i, hi⟩ : ∃ i, is.getD k default = i := ⟨_, rfl⟩
 have hok := z41 hall hk
 rw [hi] at hok ho
 obtain ⟨op, a, b, c⟩ := i
 dsimp only at ho
 subst ho
 have HA := h.below ((Below.refl W.heap.size W).alloc (Nat.le_refl _) (.cells #[.int .i64 10, .int .i64 a, .int .i64 b, .int .i64 c] 31))
 have hV1 := (MapKept.heap_alloc W (.cells #[.int .i64 10, .int .i64 a, .int .i64 b, .int .i64 c] 31)).1
 have hcell := h.cells (k := k) hk
 have hinW := hin.below h.bel hbc
 have c0 := hinW k hk 0 (by omega)
 have c1 := hinW k hk 1 (by omega)
 have c2 := hinW k hk 2 (by omega)
 have c3 := hinW k hk 3 (by omega)
 rw [hi] at c0 c1 c2 c3
 simp only [In.cell, Nat.add_zero] at c0 c1 c2 c3
 have hpz : ¬ (tg T k).p = 0 := by omega
 have hsane := h.sane _ (z50 (show k < T.length by rw [h.len]; exact hk))
 have u1 : envV (tg T k) = (tg T k).n := if_neg hpz
 have u2 : stkV (tg T k) = (tg T k).v := if_neg hpz
 have u3 : parV (tg T k) = (tg T k).p - 1 := if_neg hpz
 rw [u1, u2, u3] at hcell
 obtain ⟨⟨x, y, p⟩, hx⟩ : ∃ s, tg T k = s := ⟨_, rfl⟩
 rw [hx] at hcell hp hsane
 unfold SaneS at hsane
 obtain ⟨z, hz⟩ : ∃ z, p - 1 = z := ⟨_, rfl⟩
 dsimp only at hcell hp hsane
 rw [hz] at hcell
 obtain ⟨d1, d2, d3, -, -, -⟩ := hcell
 have HB : Hid (0 ≤ x ∧ x ≤ 100 ∧ 0 ≤ y ∧ y ≤ 100 ∧ 0 ≤ z ∧ z ≤ 2 ∧ p = z + 1 ∧ k < is.length ∧ is.length ≤ 1500) := by
   have := h.nl
   rcases hsane with hs | hs
   · omega
   · exact ⟨by omega, by omega, by omega, by omega, by omega, by omega, by omega, hk, by omega⟩
 have hp1 : p = z + 1 := HB.out.2.2.2.2.2.2.1
 have HI := hid hi
 have HX : Hid (tg T k = ⟨x, y, z + 1⟩) := by show _ = _; rw [hx, hp1]
 have HOk := hid hok
 have HF := hid (And.intro hbc (And.intro hin hall))
 have e0 := z11 h.blk 0
 have e1 := z11 h.blk 1
 have e2 := z11 h.blk 2
 have e3 := z11 h.blk 3
 simp at e0 e1 e2 e3
 obtain ⟨V, hV⟩ : ∃ V, W.alloc (.cells #[.int .i64 10, .int .i64 a, .int .i64 b, .int .i64 c] 31) = V := ⟨_, rfl⟩
 rw [hV] at HA hV1
 have HA' := hid HA
 have HV := hid hV
 have HV1 := hid hV1
 have HS0 := hid (StC.of HA)
 have q0 : (0 : Int) ≤ (k : Int) := by omega
 have q1 : (k : Int) < (is.length : Int) := by omega
 have w1 : wrap64 ((k : Int) + 1) = (k : Int) + 1 := by rw [wrap64]; have := HB.out; omega
 have w2 : wrap64 (x + 1) = x + 1 := by rw [wrap64]; have := HB.out; omega
 have w3 : wrap64 (x + 2) = x + 2 := by rw [wrap64]; have := HB.out; omega
 have w4 : wrap64 (y + 1) = y + 1 := by rw [wrap64]; have := HB.out; omega
 have w5 : wrap64 (y - 1) = y - 1 := by rw [wrap64]; have := HB.out; omega
 have w6 : wrap64 (x - 1) = x - 1 := by rw [wrap64]; have := HB.out; omega
 have HPo := hid (pops_10 V)
 clear h hin hall hbc hinW hk hp hi hok hpz hsane u1 u2 u3 hx hz hp1 hV HA hV1
 go_enter Tryz.func23, Tryz.ntmps23
 go_upto_region 1 with fail
 rw [HV.out]
 clear HV c0 c1 c2 c3 e0 e1 e2 e3 d1 d2 d3
 have hcell := HA'.out.cells (k := k) HB.out.2.2.2.2.2.2.2.1
 rw [HX.out] at hcell
 have u0 : ¬ ((⟨x, y, z + 1⟩ : Sq).p = 0) := by dsimp only; have := HB.out; omega
 rw [show envV ⟨x, y, z + 1⟩ = x from if_neg u0, show stkV ⟨x, y, z + 1⟩ = y from if_neg u0, show parV ⟨x, y, z + 1⟩ = z from (if_neg u0).trans (Int.add_sub_cancel z 1)] at hcell
 obtain ⟨d1, d2, d3, -, -, -⟩ := hcell
 have e1 := z11 HA'.out.blk 1
 have e2 := z11 HA'.out.blk 2
 have e3 := z11 HA'.out.blk 3
 have e5 := z11 HA'.out.blk 5
 have z5 := z13 HA'.out.blk 5
 have i0 := z11 HV1.out 0
 have i1 := z11 HV1.out 1
 have i3 := z11 HV1.out 3
 simp at e1 e2 e3 e5 i0 i1 i3
 clear u0
 go_wp2_with fail
 refine HPo.out.mono ?_
 rintro e _ ⟨rfl, rfl⟩
 clear d1 d2 d3 e1 e2 e3
 by_cases hpop : y < 1
 · have HZ : Hid (stepZ is T w k = none) := by
     show _ = _
     unfold stepZ
     rw [HI.out, HX.out, if_neg (fun e => by simp [needsZ] at e; omega)]
   go_wp2_with fail
   (try simp only [Exit.inBlock, Exit.then])
   refine bodyPost_ret (results_none rfl _ _ _) rfl ?_
   refine ⟨rfl, ?_⟩
   rw [HZ.out]
   exact HS0.out.flagged
 have HZ : Hid (stepZ is T w k = rz is.length (some (T, w)) [(a, (⟨x, y - 1, z + 1⟩ : Sq)), ((k : Int) + 1, (⟨x, y - 1, z + 1⟩ : Sq))]) := by
   show _ = _
   unfold stepZ
   rw [HI.out, HX.out, if_pos (by simp [needsZ]; omega)]
   simp [exitsZ, Sq.more, Int.sub_eq_add_neg]
 go_wp2_with fail
 refine (z38 HS0.out (a) (x) (y - 1) (z) HB.out.2.2.2.2.1 HB.out.2.2.2.2.2.1).mono ?_
 rintro e V2 ⟨rfl, hs1, hc1⟩
 have HS1 := hid hs1
 have HV2 := hid ((hc1.block _ _ _ HV1.out (by decide) (by decide)).trans HV1.out)
 clear i0 i1 i3
 clear e5 z5
 have i0 := z11 HV2.out 0
 have i1 := z11 HV2.out 1
 have i3 := z11 HV2.out 3
 simp at i0 i1 i3
 clear hs1 hc1 HS0
 go_wp2_with fail
 refine (z38 HS1.out ((k : Int) + 1) (x) (y - 1) (z) HB.out.2.2.2.2.1 HB.out.2.2.2.2.2.1).mono ?_
 rintro e V3 ⟨rfl, hs2, hc2⟩
 have HS2 := hid hs2
 clear hs2 hc2 HS1
 go_wp2_with fail
 (try simp only [Exit.inBlock, Exit.then])
 refine bodyPost_end (results_none rfl _ _ _) rfl ?_
 refine ⟨rfl, ?_⟩
 rw [HZ.out]
 exact HS2.out
set_option maxRecDepth 100000 in
set_option maxHeartbeats 4000000 in
theorem step_11 {W0 : World} {Mb bc oc cc ge gs gp ce cs cp : Nat} {is : List In} {T : List Sq} {w : List Nat} {vw : Value} {W : World} (h : Ck W0 Mb (.slice (some ⟨bc, oc, none⟩) is.length cc) ge gs gp ce cs cp is.length T w vw false W) (hbc : bc < W0.heap.size) (hin : InsAt W0 bc oc is) (hall : ∀ i ∈ is, i.ok = true) (k : Nat) (hk : k < is.length) (hp : 1 ≤ (tg T k).p) (ho : (is.getD k default).op = 11) :
   Calls Tryz.prog 23 #[.pointer (some ⟨Mb, 0, none⟩), .int .i64 (k : Int)] W fun e W' => e = .returned (.tuple #[]) ∧ StC W0 Mb (.slice (some ⟨bc, oc, none⟩) is.length cc) ge gs gp ce cs cp is.length (stepZ is T w k) W' := by
 obtain ⟨i, hi⟩ : ∃ i, is.getD k default = i := ⟨_, rfl⟩
 have hok := z41 hall hk
 rw [hi] at hok ho
 obtain ⟨op, a, b, c⟩ := i
 dsimp only at ho
 subst ho
 have HA := h.below ((Below.refl W.heap.size W).alloc (Nat.le_refl _) (.cells #[.int .i64 11, .int .i64 a, .int .i64 b, .int .i64 c] 31))
 have hV1 := (MapKept.heap_alloc W (.cells #[.int .i64 11, .int .i64 a, .int .i64 b, .int .i64 c] 31)).1
 have hcell := h.cells (k := k) hk
 have hinW := hin.below h.bel hbc
 have c0 := hinW k hk 0 (by omega)
 have c1 := hinW k hk 1 (by omega)
 have c2 := hinW k hk 2 (by omega)
 have c3 := hinW k hk 3 (by omega)
 rw [hi] at c0 c1 c2 c3
 simp only [In.cell, Nat.add_zero] at c0 c1 c2 c3
 have hpz : ¬ (tg T k).p = 0 := by omega
 have hsane := h.sane _ (z50 (show k < T.length by rw [h.len]; exact hk))
 have u1 : envV (tg T k) = (tg T k).n := if_neg hpz
 have u2 : stkV (tg T k) = (tg T k).v := if_neg hpz
 have u3 : parV (tg T k) = (tg T k).p - 1 := if_neg hpz
 rw [u1, u2, u3] at hcell
 obtain ⟨⟨x, y, p⟩, hx⟩ : ∃ s, tg T k = s := ⟨_, rfl⟩
 rw [hx] at hcell hp hsane
 unfold SaneS at hsane
 obtain ⟨z, hz⟩ : ∃ z, p - 1 = z := ⟨_, rfl⟩
 dsimp only at hcell hp hsane
 rw [hz] at hcell
 obtain ⟨d1, d2, d3, -, -, -⟩ := hcell
 have HB : Hid (0 ≤ x ∧ x ≤ 100 ∧ 0 ≤ y ∧ y ≤ 100 ∧ 0 ≤ z ∧ z ≤ 2 ∧ p = z + 1 ∧ k < is.length ∧ is.length ≤ 1500) := by
   have := h.nl
   rcases hsane with hs | hs
   · omega
   · exact ⟨by omega, by omega, by omega, by omega, by omega, by omega, by omega, hk, by omega⟩
 have hp1 : p = z + 1 := HB.out.2.2.2.2.2.2.1
 have HI := hid hi
 have HX : Hid (tg T k = ⟨x, y, z + 1⟩) := by show _ = _; rw [hx, hp1]
 have HOk := hid hok
 have HF := hid (And.intro hbc (And.intro hin hall))
 have e0 := z11 h.blk 0
 have e1 := z11 h.blk 1
 have e2 := z11 h.blk 2
 have e3 := z11 h.blk 3
 simp at e0 e1 e2 e3
 obtain ⟨V, hV⟩ : ∃ V, W.alloc (.cells #[.int .i64 11, .int .i64 a, .int .i64 b, .int .i64 c] 31) = V := ⟨_, rfl⟩
 rw [hV] at HA hV1
 have HA' := hid HA
 have HV := hid hV
 have HV1 := hid hV1
 have HS0 := hid (StC.of HA)
 have q0 : (0 : Int) ≤ (k : Int) := by omega
 have q1 : (k : Int) < (is.length : Int) := by omega
 have w1 : wrap64 ((k : Int) + 1) = (k : Int) + 1 := by rw [wrap64]; have := HB.out; omega
 have w2 : wrap64 (x + 1) = x + 1 := by rw [wrap64]; have := HB.out; omega
 have w3 : wrap64 (x + 2) = x + 2 := by rw [wrap64]; have := HB.out; omega
 have w4 : wrap64 (y + 1) = y + 1 := by rw [wrap64]; have := HB.out; omega
 have w5 : wrap64 (y - 1) = y - 1 := by rw [wrap64]; have := HB.out; omega
 have w6 : wrap64 (x - 1) = x - 1 := by rw [wrap64]; have := HB.out; omega
 have HPo := hid (pops_11 V)
 clear h hin hall hbc hinW hk hp hi hok hpz hsane u1 u2 u3 hx hz hp1 hV HA hV1
 go_enter Tryz.func23, Tryz.ntmps23
 go_upto_region 1 with fail
 rw [HV.out]
 clear HV c0 c1 c2 c3 e0 e1 e2 e3 d1 d2 d3
 have hcell := HA'.out.cells (k := k) HB.out.2.2.2.2.2.2.2.1
 rw [HX.out] at hcell
 have u0 : ¬ ((⟨x, y, z + 1⟩ : Sq).p = 0) := by dsimp only; have := HB.out; omega
 rw [show envV ⟨x, y, z + 1⟩ = x from if_neg u0, show stkV ⟨x, y, z + 1⟩ = y from if_neg u0, show parV ⟨x, y, z + 1⟩ = z from (if_neg u0).trans (Int.add_sub_cancel z 1)] at hcell
 obtain ⟨d1, d2, d3, -, -, -⟩ := hcell
 have e1 := z11 HA'.out.blk 1
 have e2 := z11 HA'.out.blk 2
 have e3 := z11 HA'.out.blk 3
 have e5 := z11 HA'.out.blk 5
 have z5 := z13 HA'.out.blk 5
 have i0 := z11 HV1.out 0
 have i1 := z11 HV1.out 1
 have i3 := z11 HV1.out 3
 simp at e1 e2 e3 e5 i0 i1 i3
 clear u0
 go_wp2_with fail
 refine HPo.out.mono ?_
 rintro e _ ⟨rfl, rfl⟩
 clear d1 d2 d3 e1 e2 e3
 have hy0 : ¬ y < 0 := by have := HB.out; omega
 have HZ : Hid (stepZ is T w k = rz is.length (some (T, w)) [(a, (⟨x, y, z + 1⟩ : Sq))]) := by
   show _ = _
   unfold stepZ
   rw [HI.out, HX.out, if_pos (by simp [needsZ])]
   simp [exitsZ]
 go_wp2_with fail
 refine (z38 HS0.out (a) (x) (y) (z) HB.out.2.2.2.2.1 HB.out.2.2.2.2.2.1).mono ?_
 rintro e V2 ⟨rfl, hs1, hc1⟩
 have HS1 := hid hs1
 clear hs1 hc1 HS0
 go_wp2_with fail
 (try simp only [Exit.inBlock, Exit.then])
 refine bodyPost_end (results_none rfl _ _ _) rfl ?_
 refine ⟨rfl, ?_⟩
 rw [HZ.out]
 exact HS1.out
set_option maxRecDepth 100000 in
set_option maxHeartbeats 4000000 in
theorem step_12 {W0 : World} {Mb bc oc cc ge gs gp ce cs cp : Nat} {is : List In} {T : List Sq} {w : List Nat} {vw : Value} {W : World} (h : Ck W0 Mb (.slice (some ⟨bc, oc, none⟩) is.length cc) ge gs gp ce cs cp is.length T w vw false W) (hbc : bc < W0.heap.size) (hin : InsAt W0 bc oc is) (hall : ∀ i ∈ is, i.ok = true) (k : Nat) (hk : k < is.length) (hp : 1 ≤ (tg T k).p) (ho : (is.getD k default).op = 12) :
   Calls Tryz.prog 23 #[.pointer (some ⟨Mb, 0, none⟩), .int .i64 (k : Int)] W fun e W' => e = .returned (.tuple #[]) ∧ StC W0 Mb (.slice (some ⟨bc, oc, none⟩) is.length cc) ge gs gp ce cs cp is.length (stepZ is T w k) W' := by
 obtain ⟨i, hi⟩ : ∃ i, is.getD k default = i := ⟨_, rfl⟩
 have hok := z41 hall hk
 rw [hi] at hok ho
 obtain ⟨op, a, b, c⟩ := i
 dsimp only at ho
 subst ho
 have HA := h.below ((Below.refl W.heap.size W).alloc (Nat.le_refl _) (.cells #[.int .i64 12, .int .i64 a, .int .i64 b, .int .i64 c] 31))
 have hV1 := (MapKept.heap_alloc W (.cells #[.int .i64 12, .int .i64 a, .int .i64 b, .int .i64 c] 31)).1
 have hcell := h.cells (k := k) hk
 have hinW := hin.below h.bel hbc
 have c0 := hinW k hk 0 (by omega)
 have c1 := hinW k hk 1 (by omega)
 have c2 := hinW k hk 2 (by omega)
 have c3 := hinW k hk 3 (by omega)
 rw [hi] at c0 c1 c2 c3
 simp only [In.cell, Nat.add_zero] at c0 c1 c2 c3
 have hpz : ¬ (tg T k).p = 0 := by omega
 have hsane := h.sane _ (z50 (show k < T.length by rw [h.len]; exact hk))
 have u1 : envV (tg T k) = (tg T k).n := if_neg hpz
 have u2 : stkV (tg T k) = (tg T k).v := if_neg hpz
 have u3 : parV (tg T k) = (tg T k).p - 1 := if_neg hpz
 rw [u1, u2, u3] at hcell
 obtain ⟨⟨x, y, p⟩, hx⟩ : ∃ s, tg T k = s := ⟨_, rfl⟩
 rw [hx] at hcell hp hsane
 unfold SaneS at hsane
 obtain ⟨z, hz⟩ : ∃ z, p - 1 = z := ⟨_, rfl⟩
 dsimp only at hcell hp hsane
 rw [hz] at hcell
 obtain ⟨d1, d2, d3, -, -, -⟩ := hcell
 have HB : Hid (0 ≤ x ∧ x ≤ 100 ∧ 0 ≤ y ∧ y ≤ 100 ∧ 0 ≤ z ∧ z ≤ 2 ∧ p = z + 1 ∧ k < is.length ∧ is.length ≤ 1500) := by
   have := h.nl
   rcases hsane with hs | hs
   · omega
   · exact ⟨by omega, by omega, by omega, by omega, by omega, by omega, by omega, hk, by omega⟩
 have hp1 : p = z + 1 := HB.out.2.2.2.2.2.2.1
 have HI := hid hi
 have HX : Hid (tg T k = ⟨x, y, z + 1⟩) := by show _ = _; rw [hx, hp1]
 have HOk := hid hok
 have HF := hid (And.intro hbc (And.intro hin hall))
 have e0 := z11 h.blk 0
 have e1 := z11 h.blk 1
 have e2 := z11 h.blk 2
 have e3 := z11 h.blk 3
 simp at e0 e1 e2 e3
 obtain ⟨V, hV⟩ : ∃ V, W.alloc (.cells #[.int .i64 12, .int .i64 a, .int .i64 b, .int .i64 c] 31) = V := ⟨_, rfl⟩
 rw [hV] at HA hV1
 have HA' := hid HA
 have HV := hid hV
 have HV1 := hid hV1
 have HS0 := hid (StC.of HA)
 have q0 : (0 : Int) ≤ (k : Int) := by omega
 have q1 : (k : Int) < (is.length : Int) := by omega
 have w1 : wrap64 ((k : Int) + 1) = (k : Int) + 1 := by rw [wrap64]; have := HB.out; omega
 have w2 : wrap64 (x + 1) = x + 1 := by rw [wrap64]; have := HB.out; omega
 have w3 : wrap64 (x + 2) = x + 2 := by rw [wrap64]; have := HB.out; omega
 have w4 : wrap64 (y + 1) = y + 1 := by rw [wrap64]; have := HB.out; omega
 have w5 : wrap64 (y - 1) = y - 1 := by rw [wrap64]; have := HB.out; omega
 have w6 : wrap64 (x - 1) = x - 1 := by rw [wrap64]; have := HB.out; omega
 have HPo := hid (pops_12 V)
 clear h hin hall hbc hinW hk hp hi hok hpz hsane u1 u2 u3 hx hz hp1 hV HA hV1
 go_enter Tryz.func23, Tryz.ntmps23
 go_upto_region 1 with fail
 rw [HV.out]
 clear HV c0 c1 c2 c3 e0 e1 e2 e3 d1 d2 d3
 have hcell := HA'.out.cells (k := k) HB.out.2.2.2.2.2.2.2.1
 rw [HX.out] at hcell
 have u0 : ¬ ((⟨x, y, z + 1⟩ : Sq).p = 0) := by dsimp only; have := HB.out; omega
 rw [show envV ⟨x, y, z + 1⟩ = x from if_neg u0, show stkV ⟨x, y, z + 1⟩ = y from if_neg u0, show parV ⟨x, y, z + 1⟩ = z from (if_neg u0).trans (Int.add_sub_cancel z 1)] at hcell
 obtain ⟨d1, d2, d3, -, -, -⟩ := hcell
 have e1 := z11 HA'.out.blk 1
 have e2 := z11 HA'.out.blk 2
 have e3 := z11 HA'.out.blk 3
 have e5 := z11 HA'.out.blk 5
 have z5 := z13 HA'.out.blk 5
 have i0 := z11 HV1.out 0
 have i1 := z11 HV1.out 1
 have i3 := z11 HV1.out 3
 simp at e1 e2 e3 e5 i0 i1 i3
 clear u0
 go_wp2_with fail
 refine HPo.out.mono ?_
 rintro e _ ⟨rfl, rfl⟩
 clear d1 d2 d3 e1 e2 e3
 by_cases hpop : y < 1
 · have HZ : Hid (stepZ is T w k = none) := by
     show _ = _
     unfold stepZ
     rw [HI.out, HX.out, if_neg (fun e => by simp [needsZ] at e; omega)]
   go_wp2_with fail
   (try simp only [Exit.inBlock, Exit.then])
   refine bodyPost_ret (results_none rfl _ _ _) rfl ?_
   refine ⟨rfl, ?_⟩
   rw [HZ.out]
   exact HS0.out.flagged
 have HZ : Hid (stepZ is T w k = rz is.length (some (T, w)) [((k : Int) + 1, (⟨x + 1, y - 1, z + 1⟩ : Sq))]) := by
   show _ = _
   unfold stepZ
   rw [HI.out, HX.out, if_pos (by simp [needsZ]; omega)]
   simp [exitsZ, Sq.more, Int.sub_eq_add_neg]
 go_wp2_with fail
 refine (z38 HS0.out ((k : Int) + 1) (x + 1) (y - 1) (z) HB.out.2.2.2.2.1 HB.out.2.2.2.2.2.1).mono ?_
 rintro e V2 ⟨rfl, hs1, hc1⟩
 have HS1 := hid hs1
 clear hs1 hc1 HS0
 go_wp2_with fail
 (try simp only [Exit.inBlock, Exit.then])
 refine bodyPost_end (results_none rfl _ _ _) rfl ?_
 refine ⟨rfl, ?_⟩
 rw [HZ.out]
 exact HS1.out
set_option maxRecDepth 100000 in
set_option maxHeartbeats 4000000 in
theorem step_13 {W0 : World} {Mb bc oc cc ge gs gp ce cs cp : Nat} {is : List In} {T : List Sq} {w : List Nat} {vw : Value} {W : World} (h : Ck W0 Mb (.slice (some ⟨bc, oc, none⟩) is.length cc) ge gs gp ce cs cp is.length T w vw false W) (hbc : bc < W0.heap.size) (hin : InsAt W0 bc oc is) (hall : ∀ i ∈ is, i.ok = true) (k : Nat) (hk : k < is.length) (hp : 1 ≤ (tg T k).p) (ho : (is.getD k default).op = 13) :
   Calls Tryz.prog 23 #[.pointer (some ⟨Mb, 0, none⟩), .int .i64 (k : Int)] W fun e W' => e = .returned (.tuple #[]) ∧ StC W0 Mb (.slice (some ⟨bc, oc, none⟩) is.length cc) ge gs gp ce cs cp is.length (stepZ is T w k) W' := by
 obtain ⟨i, hi⟩ : ∃ i, is.getD k default = i := ⟨_, rfl⟩
 have hok := z41 hall hk
 rw [hi] at hok ho
 obtain ⟨op, a, b, c⟩ := i
 dsimp only at ho
 subst ho
 have HA := h.below ((Below.refl W.heap.size W).alloc (Nat.le_refl _) (.cells #[.int .i64 13, .int .i64 a, .int .i64 b, .int .i64 c] 31))
 have hV1 := (MapKept.heap_alloc W (.cells #[.int .i64 13, .int .i64 a, .int .i64 b, .int .i64 c] 31)).1
 have hcell := h.cells (k := k) hk
 have hinW := hin.below h.bel hbc
 have c0 := hinW k hk 0 (by omega)
 have c1 := hinW k hk 1 (by omega)
 have c2 := hinW k hk 2 (by omega)
 have c3 := hinW k hk 3 (by omega)
 rw [hi] at c0 c1 c2 c3
 simp only [In.cell, Nat.add_zero] at c0 c1 c2 c3
 have hpz : ¬ (tg T k).p = 0 := by omega
 have hsane := h.sane _ (z50 (show k < T.length by rw [h.len]; exact hk))
 have u1 : envV (tg T k) = (tg T k).n := if_neg hpz
 have u2 : stkV (tg T k) = (tg T k).v := if_neg hpz
 have u3 : parV (tg T k) = (tg T k).p - 1 := if_neg hpz
 rw [u1, u2, u3] at hcell
 obtain ⟨⟨x, y, p⟩, hx⟩ : ∃ s, tg T k = s := ⟨_, rfl⟩
 rw [hx] at hcell hp hsane
 unfold SaneS at hsane
 obtain ⟨z, hz⟩ : ∃ z, p - 1 = z := ⟨_, rfl⟩
 dsimp only at hcell hp hsane
 rw [hz] at hcell
 obtain ⟨d1, d2, d3, -, -, -⟩ := hcell
 have HB : Hid (0 ≤ x ∧ x ≤ 100 ∧ 0 ≤ y ∧ y ≤ 100 ∧ 0 ≤ z ∧ z ≤ 2 ∧ p = z + 1 ∧ k < is.length ∧ is.length ≤ 1500) := by
   have := h.nl
   rcases hsane with hs | hs
   · omega
   · exact ⟨by omega, by omega, by omega, by omega, by omega, by omega, by omega, hk, by omega⟩
 have hp1 : p = z + 1 := HB.out.2.2.2.2.2.2.1
 have HI := hid hi
 have HX : Hid (tg T k = ⟨x, y, z + 1⟩) := by show _ = _; rw [hx, hp1]
 have HOk := hid hok
 have HF := hid (And.intro hbc (And.intro hin hall))
 have e0 := z11 h.blk 0
 have e1 := z11 h.blk 1
 have e2 := z11 h.blk 2
 have e3 := z11 h.blk 3
 simp at e0 e1 e2 e3
 obtain ⟨V, hV⟩ : ∃ V, W.alloc (.cells #[.int .i64 13, .int .i64 a, .int .i64 b, .int .i64 c] 31) = V := ⟨_, rfl⟩
 rw [hV] at HA hV1
 have HA' := hid HA
 have HV := hid hV
 have HV1 := hid hV1
 have HS0 := hid (StC.of HA)
 have q0 : (0 : Int) ≤ (k : Int) := by omega
 have q1 : (k : Int) < (is.length : Int) := by omega
 have w1 : wrap64 ((k : Int) + 1) = (k : Int) + 1 := by rw [wrap64]; have := HB.out; omega
 have w2 : wrap64 (x + 1) = x + 1 := by rw [wrap64]; have := HB.out; omega
 have w3 : wrap64 (x + 2) = x + 2 := by rw [wrap64]; have := HB.out; omega
 have w4 : wrap64 (y + 1) = y + 1 := by rw [wrap64]; have := HB.out; omega
 have w5 : wrap64 (y - 1) = y - 1 := by rw [wrap64]; have := HB.out; omega
 have w6 : wrap64 (x - 1) = x - 1 := by rw [wrap64]; have := HB.out; omega
 have HPo := hid (pops_13 V)
 clear h hin hall hbc hinW hk hp hi hok hpz hsane u1 u2 u3 hx hz hp1 hV HA hV1
 go_enter Tryz.func23, Tryz.ntmps23
 go_upto_region 1 with fail
 rw [HV.out]
 clear HV c0 c1 c2 c3 e0 e1 e2 e3 d1 d2 d3
 have hcell := HA'.out.cells (k := k) HB.out.2.2.2.2.2.2.2.1
 rw [HX.out] at hcell
 have u0 : ¬ ((⟨x, y, z + 1⟩ : Sq).p = 0) := by dsimp only; have := HB.out; omega
 rw [show envV ⟨x, y, z + 1⟩ = x from if_neg u0, show stkV ⟨x, y, z + 1⟩ = y from if_neg u0, show parV ⟨x, y, z + 1⟩ = z from (if_neg u0).trans (Int.add_sub_cancel z 1)] at hcell
 obtain ⟨d1, d2, d3, -, -, -⟩ := hcell
 have e1 := z11 HA'.out.blk 1
 have e2 := z11 HA'.out.blk 2
 have e3 := z11 HA'.out.blk 3
 have e5 := z11 HA'.out.blk 5
 have z5 := z13 HA'.out.blk 5
 have i0 := z11 HV1.out 0
 have i1 := z11 HV1.out 1
 have i3 := z11 HV1.out 3
 simp at e1 e2 e3 e5 i0 i1 i3
 clear u0
 go_wp2_with fail
 refine HPo.out.mono ?_
 rintro e _ ⟨rfl, rfl⟩
 clear d1 d2 d3 e1 e2 e3
 have hy0 : ¬ y < 0 := by have := HB.out; omega
 by_cases hv : 1 ≤ x
 case neg =>
   have HZ : Hid (stepZ is T w k = none) := by
     show _ = _
     unfold stepZ
     rw [HI.out, HX.out, if_neg (fun e => by simp [needsZ] at e; omega)]
   go_wp2_with fail
   clear i0 i1 i3 e5 z5
   refine (z38 HS0.out ((k : Int) + 1) (x - 1) y z HB.out.2.2.2.2.1 HB.out.2.2.2.2.2.1).mono ?_
   rintro e V2 ⟨rfl, hs2, -⟩
   have HS2 := hid hs2
   clear hs2
   go_wp2_with fail
   (try simp only [Exit.inBlock, Exit.then])
   refine bodyPost_end (results_none rfl _ _ _) rfl ?_
   refine ⟨rfl, ?_⟩
   rw [HZ.out]
   have hn : comeZ is.length T w ((k : Int) + 1, ⟨x - 1, y, z + 1⟩) = none := by
     unfold comeZ
     rw [if_pos (Or.inr (Or.inr (Or.inl (by dsimp only; omega))))]
   have := HS2.out
   rw [Option.bind_some, hn] at this
   exact this
 have HZ : Hid (stepZ is T w k = rz is.length (some (T, w)) [((k : Int) + 1, (⟨x - 1, y, z + 1⟩ : Sq))]) := by
   show _ = _
   unfold stepZ
   rw [HI.out, HX.out, if_pos (by simp [needsZ]; omega)]
   simp [exitsZ, Sq.more, Int.sub_eq_add_neg]
 go_wp2_with fail
 refine (z38 HS0.out ((k : Int) + 1) (x - 1) (y) (z) HB.out.2.2.2.2.1 HB.out.2.2.2.2.2.1).mono ?_
 rintro e V2 ⟨rfl, hs1, hc1⟩
 have HS1 := hid hs1
 clear hs1 hc1 HS0
 go_wp2_with fail
 (try simp only [Exit.inBlock, Exit.then])
 refine bodyPost_end (results_none rfl _ _ _) rfl ?_
 refine ⟨rfl, ?_⟩
 rw [HZ.out]
 exact HS1.out
set_option maxRecDepth 100000 in
set_option maxHeartbeats 4000000 in
theorem step_14 {W0 : World} {Mb bc oc cc ge gs gp ce cs cp : Nat} {is : List In} {T : List Sq} {w : List Nat} {vw : Value} {W : World} (h : Ck W0 Mb (.slice (some ⟨bc, oc, none⟩) is.length cc) ge gs gp ce cs cp is.length T w vw false W) (hbc : bc < W0.heap.size) (hin : InsAt W0 bc oc is) (hall : ∀ i ∈ is, i.ok = true) (k : Nat) (hk : k < is.length) (hp : 1 ≤ (tg T k).p) (ho : (is.getD k default).op = 14) :
   Calls Tryz.prog 23 #[.pointer (some ⟨Mb, 0, none⟩), .int .i64 (k : Int)] W fun e W' => e = .returned (.tuple #[]) ∧ StC W0 Mb (.slice (some ⟨bc, oc, none⟩) is.length cc) ge gs gp ce cs cp is.length (stepZ is T w k) W' := by
 obtain ⟨i, hi⟩ : ∃ i, is.getD k default = i := ⟨_, rfl⟩
 have hok := z41 hall hk
 rw [hi] at hok ho
 obtain ⟨op, a, b, c⟩ := i
 dsimp only at ho
 subst ho
 have HA := h.below ((Below.refl W.heap.size W).alloc (Nat.le_refl _) (.cells #[.int .i64 14, .int .i64 a, .int .i64 b, .int .i64 c] 31))
 have hV1 := (MapKept.heap_alloc W (.cells #[.int .i64 14, .int .i64 a, .int .i64 b, .int .i64 c] 31)).1
 have hcell := h.cells (k := k) hk
 have hinW := hin.below h.bel hbc
 have c0 := hinW k hk 0 (by omega)
 have c1 := hinW k hk 1 (by omega)
 have c2 := hinW k hk 2 (by omega)
 have c3 := hinW k hk 3 (by omega)
 rw [hi] at c0 c1 c2 c3
 simp only [In.cell, Nat.add_zero] at c0 c1 c2 c3
 have hpz : ¬ (tg T k).p = 0 := by omega
 have hsane := h.sane _ (z50 (show k < T.length by rw [h.len]; exact hk))
 have u1 : envV (tg T k) = (tg T k).n := if_neg hpz
 have u2 : stkV (tg T k) = (tg T k).v := if_neg hpz
 have u3 : parV (tg T k) = (tg T k).p - 1 := if_neg hpz
 rw [u1, u2, u3] at hcell
 obtain ⟨⟨x, y, p⟩, hx⟩ : ∃ s, tg T k = s := ⟨_, rfl⟩
 rw [hx] at hcell hp hsane
 unfold SaneS at hsane
 obtain ⟨z, hz⟩ : ∃ z, p - 1 = z := ⟨_, rfl⟩
 dsimp only at hcell hp hsane
 rw [hz] at hcell
 obtain ⟨d1, d2, d3, -, -, -⟩ := hcell
 have HB : Hid (0 ≤ x ∧ x ≤ 100 ∧ 0 ≤ y ∧ y ≤ 100 ∧ 0 ≤ z ∧ z ≤ 2 ∧ p = z + 1 ∧ k < is.length ∧ is.length ≤ 1500) := by
   have := h.nl
   rcases hsane with hs | hs
   · omega
   · exact ⟨by omega, by omega, by omega, by omega, by omega, by omega, by omega, hk, by omega⟩
 have hp1 : p = z + 1 := HB.out.2.2.2.2.2.2.1
 have HI := hid hi
 have HX : Hid (tg T k = ⟨x, y, z + 1⟩) := by show _ = _; rw [hx, hp1]
 have HOk := hid hok
 have HF := hid (And.intro hbc (And.intro hin hall))
 have e0 := z11 h.blk 0
 have e1 := z11 h.blk 1
 have e2 := z11 h.blk 2
 have e3 := z11 h.blk 3
 simp at e0 e1 e2 e3
 obtain ⟨V, hV⟩ : ∃ V, W.alloc (.cells #[.int .i64 14, .int .i64 a, .int .i64 b, .int .i64 c] 31) = V := ⟨_, rfl⟩
 rw [hV] at HA hV1
 have HA' := hid HA
 have HV := hid hV
 have HV1 := hid hV1
 have HS0 := hid (StC.of HA)
 have q0 : (0 : Int) ≤ (k : Int) := by omega
 have q1 : (k : Int) < (is.length : Int) := by omega
 have w1 : wrap64 ((k : Int) + 1) = (k : Int) + 1 := by rw [wrap64]; have := HB.out; omega
 have w2 : wrap64 (x + 1) = x + 1 := by rw [wrap64]; have := HB.out; omega
 have w3 : wrap64 (x + 2) = x + 2 := by rw [wrap64]; have := HB.out; omega
 have w4 : wrap64 (y + 1) = y + 1 := by rw [wrap64]; have := HB.out; omega
 have w5 : wrap64 (y - 1) = y - 1 := by rw [wrap64]; have := HB.out; omega
 have w6 : wrap64 (x - 1) = x - 1 := by rw [wrap64]; have := HB.out; omega
 have HPo := hid (pops_14 V)
 clear h hin hall hbc hinW hk hp hi hok hpz hsane u1 u2 u3 hx hz hp1 hV HA hV1
 go_enter Tryz.func23, Tryz.ntmps23
 go_upto_region 1 with fail
 rw [HV.out]
 clear HV c0 c1 c2 c3 e0 e1 e2 e3 d1 d2 d3
 have hcell := HA'.out.cells (k := k) HB.out.2.2.2.2.2.2.2.1
 rw [HX.out] at hcell
 have u0 : ¬ ((⟨x, y, z + 1⟩ : Sq).p = 0) := by dsimp only; have := HB.out; omega
 rw [show envV ⟨x, y, z + 1⟩ = x from if_neg u0, show stkV ⟨x, y, z + 1⟩ = y from if_neg u0, show parV ⟨x, y, z + 1⟩ = z from (if_neg u0).trans (Int.add_sub_cancel z 1)] at hcell
 obtain ⟨d1, d2, d3, -, -, -⟩ := hcell
 have e1 := z11 HA'.out.blk 1
 have e2 := z11 HA'.out.blk 2
 have e3 := z11 HA'.out.blk 3
 have e5 := z11 HA'.out.blk 5
 have z5 := z13 HA'.out.blk 5
 have i0 := z11 HV1.out 0
 have i1 := z11 HV1.out 1
 have i3 := z11 HV1.out 3
 simp at e1 e2 e3 e5 i0 i1 i3
 clear u0
 go_wp2_with fail
 refine HPo.out.mono ?_
 rintro e _ ⟨rfl, rfl⟩
 clear d1 d2 d3 e1 e2 e3
 by_cases hpop : y < 2
 · have HZ : Hid (stepZ is T w k = none) := by
     show _ = _
     unfold stepZ
     rw [HI.out, HX.out, if_neg (fun e => by simp [needsZ] at e; omega)]
   go_wp2_with fail
   (try simp only [Exit.inBlock, Exit.then])
   refine bodyPost_ret (results_none rfl _ _ _) rfl ?_
   refine ⟨rfl, ?_⟩
   rw [HZ.out]
   exact HS0.out.flagged
 have HZ : Hid (stepZ is T w k = rz is.length (some (T, w)) [((k : Int) + 1, (⟨x, y - 1, z + 1⟩ : Sq))]) := by
   show _ = _
   unfold stepZ
   rw [HI.out, HX.out, if_pos (by simp [needsZ]; omega)]
   simp [exitsZ, Sq.more, Int.sub_eq_add_neg]
 go_wp2_with fail
 refine (z38 HS0.out ((k : Int) + 1) (x) (y - 1) (z) HB.out.2.2.2.2.1 HB.out.2.2.2.2.2.1).mono ?_
 rintro e V2 ⟨rfl, hs1, hc1⟩
 have HS1 := hid hs1
 clear hs1 hc1 HS0
 go_wp2_with fail
 (try simp only [Exit.inBlock, Exit.then])
 refine bodyPost_end (results_none rfl _ _ _) rfl ?_
 refine ⟨rfl, ?_⟩
 rw [HZ.out]
 exact HS1.out
set_option maxRecDepth 100000 in
set_option maxHeartbeats 4000000 in
theorem step_15 {W0 : World} {Mb bc oc cc ge gs gp ce cs cp : Nat} {is : List In} {T : List Sq} {w : List Nat} {vw : Value} {W : World} (h : Ck W0 Mb (.slice (some ⟨bc, oc, none⟩) is.length cc) ge gs gp ce cs cp is.length T w vw false W) (hbc : bc < W0.heap.size) (hin : InsAt W0 bc oc is) (hall : ∀ i ∈ is, i.ok = true) (k : Nat) (hk : k < is.length) (hp : 1 ≤ (tg T k).p) (ho : (is.getD k default).op = 15) :
   Calls Tryz.prog 23 #[.pointer (some ⟨Mb, 0, none⟩), .int .i64 (k : Int)] W fun e W' => e = .returned (.tuple #[]) ∧ StC W0 Mb (.slice (some ⟨bc, oc, none⟩) is.length cc) ge gs gp ce cs cp is.length (stepZ is T w k) W' := by
 obtain ⟨i, hi⟩ : ∃ i, is.getD k default = i := ⟨_, rfl⟩
 have hok := z41 hall hk
 rw [hi] at hok ho
 obtain ⟨op, a, b, c⟩ := i
 dsimp only at ho
 subst ho
 have HA := h.below ((Below.refl W.heap.size W).alloc (Nat.le_refl _) (.cells #[.int .i64 15, .int .i64 a, .int .i64 b, .int .i64 c] 31))
 have hV1 := (MapKept.heap_alloc W (.cells #[.int .i64 15, .int .i64 a, .int .i64 b, .int .i64 c] 31)).1
 have hcell := h.cells (k := k) hk
 have hinW := hin.below h.bel hbc
 have c0 := hinW k hk 0 (by omega)
 have c1 := hinW k hk 1 (by omega)
 have c2 := hinW k hk 2 (by omega)
 have c3 := hinW k hk 3 (by omega)
 rw [hi] at c0 c1 c2 c3
 simp only [In.cell, Nat.add_zero] at c0 c1 c2 c3
 have hpz : ¬ (tg T k).p = 0 := by omega
 have hsane := h.sane _ (z50 (show k < T.length by rw [h.len]; exact hk))
 have u1 : envV (tg T k) = (tg T k).n := if_neg hpz
 have u2 : stkV (tg T k) = (tg T k).v := if_neg hpz
 have u3 : parV (tg T k) = (tg T k).p - 1 := if_neg hpz
 rw [u1, u2, u3] at hcell
 obtain ⟨⟨x, y, p⟩, hx⟩ : ∃ s, tg T k = s := ⟨_, rfl⟩
 rw [hx] at hcell hp hsane
 unfold SaneS at hsane
 obtain ⟨z, hz⟩ : ∃ z, p - 1 = z := ⟨_, rfl⟩
 dsimp only at hcell hp hsane
 rw [hz] at hcell
 obtain ⟨d1, d2, d3, -, -, -⟩ := hcell
 have HB : Hid (0 ≤ x ∧ x ≤ 100 ∧ 0 ≤ y ∧ y ≤ 100 ∧ 0 ≤ z ∧ z ≤ 2 ∧ p = z + 1 ∧ k < is.length ∧ is.length ≤ 1500) := by
   have := h.nl
   rcases hsane with hs | hs
   · omega
   · exact ⟨by omega, by omega, by omega, by omega, by omega, by omega, by omega, hk, by omega⟩
 have hp1 : p = z + 1 := HB.out.2.2.2.2.2.2.1
 have HI := hid hi
 have HX : Hid (tg T k = ⟨x, y, z + 1⟩) := by show _ = _; rw [hx, hp1]
 have HOk := hid hok
 have HF := hid (And.intro hbc (And.intro hin hall))
 have e0 := z11 h.blk 0
 have e1 := z11 h.blk 1
 have e2 := z11 h.blk 2
 have e3 := z11 h.blk 3
 simp at e0 e1 e2 e3
 obtain ⟨V, hV⟩ : ∃ V, W.alloc (.cells #[.int .i64 15, .int .i64 a, .int .i64 b, .int .i64 c] 31) = V := ⟨_, rfl⟩
 rw [hV] at HA hV1
 have HA' := hid HA
 have HV := hid hV
 have HV1 := hid hV1
 have HS0 := hid (StC.of HA)
 have q0 : (0 : Int) ≤ (k : Int) := by omega
 have q1 : (k : Int) < (is.length : Int) := by omega
 have w1 : wrap64 ((k : Int) + 1) = (k : Int) + 1 := by rw [wrap64]; have := HB.out; omega
 have w2 : wrap64 (x + 1) = x + 1 := by rw [wrap64]; have := HB.out; omega
 have w3 : wrap64 (x + 2) = x + 2 := by rw [wrap64]; have := HB.out; omega
 have w4 : wrap64 (y + 1) = y + 1 := by rw [wrap64]; have := HB.out; omega
 have w5 : wrap64 (y - 1) = y - 1 := by rw [wrap64]; have := HB.out; omega
 have w6 : wrap64 (x - 1) = x - 1 := by rw [wrap64]; have := HB.out; omega
 have HPo := hid (pops_15 V)
 clear h hin hall hbc hinW hk hp hi hok hpz hsane u1 u2 u3 hx hz hp1 hV HA hV1
 go_enter Tryz.func23, Tryz.ntmps23
 go_upto_region 1 with fail
 rw [HV.out]
 clear HV c0 c1 c2 c3 e0 e1 e2 e3 d1 d2 d3
 have hcell := HA'.out.cells (k := k) HB.out.2.2.2.2.2.2.2.1
 rw [HX.out] at hcell
 have u0 : ¬ ((⟨x, y, z + 1⟩ : Sq).p = 0) := by dsimp only; have := HB.out; omega
 rw [show envV ⟨x, y, z + 1⟩ = x from if_neg u0, show stkV ⟨x, y, z + 1⟩ = y from if_neg u0, show parV ⟨x, y, z + 1⟩ = z from (if_neg u0).trans (Int.add_sub_cancel z 1)] at hcell
 obtain ⟨d1, d2, d3, -, -, -⟩ := hcell
 have e1 := z11 HA'.out.blk 1
 have e2 := z11 HA'.out.blk 2
 have e3 := z11 HA'.out.blk 3
 have e5 := z11 HA'.out.blk 5
 have z5 := z13 HA'.out.blk 5
 have i0 := z11 HV1.out 0
 have i1 := z11 HV1.out 1
 have i3 := z11 HV1.out 3
 simp at e1 e2 e3 e5 i0 i1 i3
 clear u0
 go_wp2_with fail
 refine HPo.out.mono ?_
 rintro e _ ⟨rfl, rfl⟩
 clear d1 d2 d3 e1 e2 e3
 by_cases hpop : y < 2
 · have HZ : Hid (stepZ is T w k = none) := by
     show _ = _
     unfold stepZ
     rw [HI.out, HX.out, if_neg (fun e => by simp [needsZ] at e; omega)]
   go_wp2_with fail
   (try simp only [Exit.inBlock, Exit.then])
   refine bodyPost_ret (results_none rfl _ _ _) rfl ?_
   refine ⟨rfl, ?_⟩
   rw [HZ.out]
   exact HS0.out.flagged
 have HZ : Hid (stepZ is T w k = rz is.length (some (T, w)) [((k : Int) + 1, (⟨x, y - 1, z + 1⟩ : Sq))]) := by
   show _ = _
   unfold stepZ
   rw [HI.out, HX.out, if_pos (by simp [needsZ]; omega)]
   simp [exitsZ, Sq.more, Int.sub_eq_add_neg]
 go_wp2_with fail
 refine (z38 HS0.out ((k : Int) + 1) (x) (y - 1) (z) HB.out.2.2.2.2.1 HB.out.2.2.2.2.2.1).mono ?_
 rintro e V2 ⟨rfl, hs1, hc1⟩
 have HS1 := hid hs1
 clear hs1 hc1 HS0
 go_wp2_with fail
 (try simp only [Exit.inBlock, Exit.then])
 refine bodyPost_end (results_none rfl _ _ _) rfl ?_
 refine ⟨rfl, ?_⟩
 rw [HZ.out]
 exact HS1.out
set_option maxRecDepth 100000 in
set_option maxHeartbeats 4000000 in
theorem step_16 {W0 : World} {Mb bc oc cc ge gs gp ce cs cp : Nat} {is : List In} {T : List Sq} {w : List Nat} {vw : Value} {W : World} (h : Ck W0 Mb (.slice (some ⟨bc, oc, none⟩) is.length cc) ge gs gp ce cs cp is.length T w vw false W) (hbc : bc < W0.heap.size) (hin : InsAt W0 bc oc is) (hall : ∀ i ∈ is, i.ok = true) (k : Nat) (hk : k < is.length) (hp : 1 ≤ (tg T k).p) (ho : (is.getD k default).op = 16) :
   Calls Tryz.prog 23 #[.pointer (some ⟨Mb, 0, none⟩), .int .i64 (k : Int)] W fun e W' => e = .returned (.tuple #[]) ∧ StC W0 Mb (.slice (some ⟨bc, oc, none⟩) is.length cc) ge gs gp ce cs cp is.length (stepZ is T w k) W' := by
 obtain ⟨i, hi⟩ : ∃ i, is.getD k default = i := ⟨_, rfl⟩
 have hok := z41 hall hk
 rw [hi] at hok ho
 obtain ⟨op, a, b, c⟩ := i
 dsimp only at ho
 subst ho
 have HA := h.below ((Below.refl W.heap.size W).alloc (Nat.le_refl _) (.cells #[.int .i64 16, .int .i64 a, .int .i64 b, .int .i64 c] 31))
 have hV1 := (MapKept.heap_alloc W (.cells #[.int .i64 16, .int .i64 a, .int .i64 b, .int .i64 c] 31)).1
 have hcell := h.cells (k := k) hk
 have hinW := hin.below h.bel hbc
 have c0 := hinW k hk 0 (by omega)
 have c1 := hinW k hk 1 (by omega)
 have c2 := hinW k hk 2 (by omega)
 have c3 := hinW k hk 3 (by omega)
 rw [hi] at c0 c1 c2 c3
 simp only [In.cell, Nat.add_zero] at c0 c1 c2 c3
 have hpz : ¬ (tg T k).p = 0 := by omega
 have hsane := h.sane _ (z50 (show k < T.length by rw [h.len]; exact hk))
 have u1 : envV (tg T k) = (tg T k).n := if_neg hpz
 have u2 : stkV (tg T k) = (tg T k).v := if_neg hpz
 have u3 : parV (tg T k) = (tg T k).p - 1 := if_neg hpz
 rw [u1, u2, u3] at hcell
 obtain ⟨⟨x, y, p⟩, hx⟩ : ∃ s, tg T k = s := ⟨_, rfl⟩
 rw [hx] at hcell hp hsane
 unfold SaneS at hsane
 obtain ⟨z, hz⟩ : ∃ z, p - 1 = z := ⟨_, rfl⟩
 dsimp only at hcell hp hsane
 rw [hz] at hcell
 obtain ⟨d1, d2, d3, -, -, -⟩ := hcell
 have HB : Hid (0 ≤ x ∧ x ≤ 100 ∧ 0 ≤ y ∧ y ≤ 100 ∧ 0 ≤ z ∧ z ≤ 2 ∧ p = z + 1 ∧ k < is.length ∧ is.length ≤ 1500) := by
   have := h.nl
   rcases hsane with hs | hs
   · omega
   · exact ⟨by omega, by omega, by omega, by omega, by omega, by omega, by omega, hk, by omega⟩
 have hp1 : p = z + 1 := HB.out.2.2.2.2.2.2.1
 have HI := hid hi
 have HX : Hid (tg T k = ⟨x, y, z + 1⟩) := by show _ = _; rw [hx, hp1]
 have HOk := hid hok
 have HF := hid (And.intro hbc (And.intro hin hall))
 have e0 := z11 h.blk 0
 have e1 := z11 h.blk 1
 have e2 := z11 h.blk 2
 have e3 := z11 h.blk 3
 simp at e0 e1 e2 e3
 obtain ⟨V, hV⟩ : ∃ V, W.alloc (.cells #[.int .i64 16, .int .i64 a, .int .i64 b, .int .i64 c] 31) = V := ⟨_, rfl⟩
 rw [hV] at HA hV1
 have HA' := hid HA
 have HV := hid hV
 have HV1 := hid hV1
 have HS0 := hid (StC.of HA)
 have q0 : (0 : Int) ≤ (k : Int) := by omega
 have q1 : (k : Int) < (is.length : Int) := by omega
 have w1 : wrap64 ((k : Int) + 1) = (k : Int) + 1 := by rw [wrap64]; have := HB.out; omega
 have w2 : wrap64 (x + 1) = x + 1 := by rw [wrap64]; have := HB.out; omega
 have w3 : wrap64 (x + 2) = x + 2 := by rw [wrap64]; have := HB.out; omega
 have w4 : wrap64 (y + 1) = y + 1 := by rw [wrap64]; have := HB.out; omega
 have w5 : wrap64 (y - 1) = y - 1 := by rw [wrap64]; have := HB.out; omega
 have w6 : wrap64 (x - 1) = x - 1 := by rw [wrap64]; have := HB.out; omega
 have HPo := hid (pops_16 V)
 clear h hin hall hbc hinW hk hp hi hok hpz hsane u1 u2 u3 hx hz hp1 hV HA hV1
 go_enter Tryz.func23, Tryz.ntmps23
 go_upto_region 1 with fail
 rw [HV.out]
 clear HV c0 c1 c2 c3 e0 e1 e2 e3 d1 d2 d3
 have hcell := HA'.out.cells (k := k) HB.out.2.2.2.2.2.2.2.1
 rw [HX.out] at hcell
 have u0 : ¬ ((⟨x, y, z + 1⟩ : Sq).p = 0) := by dsimp only; have := HB.out; omega
 rw [show envV ⟨x, y, z + 1⟩ = x from if_neg u0, show stkV ⟨x, y, z + 1⟩ = y from if_neg u0, show parV ⟨x, y, z + 1⟩ = z from (if_neg u0).trans (Int.add_sub_cancel z 1)] at hcell
 obtain ⟨d1, d2, d3, -, -, -⟩ := hcell
 have e1 := z11 HA'.out.blk 1
 have e2 := z11 HA'.out.blk 2
 have e3 := z11 HA'.out.blk 3
 have e5 := z11 HA'.out.blk 5
 have z5 := z13 HA'.out.blk 5
 have i0 := z11 HV1.out 0
 have i1 := z11 HV1.out 1
 have i3 := z11 HV1.out 3
 simp at e1 e2 e3 e5 i0 i1 i3
 clear u0
 go_wp2_with fail
 refine HPo.out.mono ?_
 rintro e _ ⟨rfl, rfl⟩
 clear d1 d2 d3 e1 e2 e3
 by_cases hpop : y < 1
 · have HZ : Hid (stepZ is T w k = none) := by
     show _ = _
     unfold stepZ
     rw [HI.out, HX.out, if_neg (fun e => by simp [needsZ] at e; omega)]
   go_wp2_with fail
   (try simp only [Exit.inBlock, Exit.then])
   refine bodyPost_ret (results_none rfl _ _ _) rfl ?_
   refine ⟨rfl, ?_⟩
   rw [HZ.out]
   exact HS0.out.flagged
 have HZ : Hid (stepZ is T w k = rz is.length (some (T, w)) [((k : Int) + 1, (⟨x, y, z + 1⟩ : Sq))]) := by
   show _ = _
   unfold stepZ
   rw [HI.out, HX.out, if_pos (by simp [needsZ]; omega)]
   simp [exitsZ]
 go_wp2_with fail
 refine (z38 HS0.out ((k : Int) + 1) (x) (y) (z) HB.out.2.2.2.2.1 HB.out.2.2.2.2.2.1).mono ?_
 rintro e V2 ⟨rfl, hs1, hc1⟩
 have HS1 := hid hs1
 clear hs1 hc1 HS0
 go_wp2_with fail
 (try simp only [Exit.inBlock, Exit.then])
 refine bodyPost_end (results_none rfl _ _ _) rfl ?_
 refine ⟨rfl, ?_⟩
 rw [HZ.out]
 exact HS1.out
set_option maxRecDepth 100000 in
set_option maxHeartbeats 4000000 in
theorem step_17 {W0 : World} {Mb bc oc cc ge gs gp ce cs cp : Nat} {is : List In} {T : List Sq} {w : List Nat} {vw : Value} {W : World} (h : Ck W0 Mb (.slice (some ⟨bc, oc, none⟩) is.length cc) ge gs gp ce cs cp is.length T w vw false W) (hbc : bc < W0.heap.size) (hin : InsAt W0 bc oc is) (hall : ∀ i ∈ is, i.ok = true) (k : Nat) (hk : k < is.length) (hp : 1 ≤ (tg T k).p) (ho : (is.getD k default).op = 17) :
   Calls Tryz.prog 23 #[.pointer (some ⟨Mb, 0, none⟩), .int .i64 (k : Int)] W fun e W' => e = .returned (.tuple #[]) ∧ StC W0 Mb (.slice (some ⟨bc, oc, none⟩) is.length cc) ge gs gp ce cs cp is.length (stepZ is T w k) W' := by
 obtain ⟨i, hi⟩ : ∃ i, is.getD k default = i := ⟨_, rfl⟩
 have hok := z41 hall hk
 rw [hi] at hok ho
 obtain ⟨op, a, b, c⟩ := i
 dsimp only at ho
 subst ho
 have HA := h.below ((Below.refl W.heap.size W).alloc (Nat.le_refl _) (.cells #[.int .i64 17, .int .i64 a, .int .i64 b, .int .i64 c] 31))
 have hV1 := (MapKept.heap_alloc W (.cells #[.int .i64 17, .int .i64 a, .int .i64 b, .int .i64 c] 31)).1
 have hcell := h.cells (k := k) hk
 have hinW := hin.below h.bel hbc
 have c0 := hinW k hk 0 (by omega)
 have c1 := hinW k hk 1 (by omega)
 have c2 := hinW k hk 2 (by omega)
 have c3 := hinW k hk 3 (by omega)
 rw [hi] at c0 c1 c2 c3
 simp only [In.cell, Nat.add_zero] at c0 c1 c2 c3
 have hpz : ¬ (tg T k).p = 0 := by omega
 have hsane := h.sane _ (z50 (show k < T.length by rw [h.len]; exact hk))
 have u1 : envV (tg T k) = (tg T k).n := if_neg hpz
 have u2 : stkV (tg T k) = (tg T k).v := if_neg hpz
 have u3 : parV (tg T k) = (tg T k).p - 1 := if_neg hpz
 rw [u1, u2, u3] at hcell
 obtain ⟨⟨x, y, p⟩, hx⟩ : ∃ s, tg T k = s := ⟨_, rfl⟩
 rw [hx] at hcell hp hsane
 unfold SaneS at hsane
 obtain ⟨z, hz⟩ : ∃ z, p - 1 = z := ⟨_, rfl⟩
 dsimp only at hcell hp hsane
 rw [hz] at hcell
 obtain ⟨d1, d2, d3, -, -, -⟩ := hcell
 have HB : Hid (0 ≤ x ∧ x ≤ 100 ∧ 0 ≤ y ∧ y ≤ 100 ∧ 0 ≤ z ∧ z ≤ 2 ∧ p = z + 1 ∧ k < is.length ∧ is.length ≤ 1500) := by
   have := h.nl
   rcases hsane with hs | hs
   · omega
   · exact ⟨by omega, by omega, by omega, by omega, by omega, by omega, by omega, hk, by omega⟩
 have hp1 : p = z + 1 := HB.out.2.2.2.2.2.2.1
 have HI := hid hi
 have HX : Hid (tg T k = ⟨x, y, z + 1⟩) := by show _ = _; rw [hx, hp1]
 have HOk := hid hok
 have HF := hid (And.intro hbc (And.intro hin hall))
 have e0 := z11 h.blk 0
 have e1 := z11 h.blk 1
 have e2 := z11 h.blk 2
 have e3 := z11 h.blk 3
 simp at e0 e1 e2 e3
 obtain ⟨V, hV⟩ : ∃ V, W.alloc (.cells #[.int .i64 17, .int .i64 a, .int .i64 b, .int .i64 c] 31) = V := ⟨_, rfl⟩
 rw [hV] at HA hV1
 have HA' := hid HA
 have HV := hid hV
 have HV1 := hid hV1
 have HS0 := hid (StC.of HA)
 have q0 : (0 : Int) ≤ (k : Int) := by omega
 have q1 : (k : Int) < (is.length : Int) := by omega
 have w1 : wrap64 ((k : Int) + 1) = (k : Int) + 1 := by rw [wrap64]; have := HB.out; omega
 have w2 : wrap64 (x + 1) = x + 1 := by rw [wrap64]; have := HB.out; omega
 have w3 : wrap64 (x + 2) = x + 2 := by rw [wrap64]; have := HB.out; omega
 have w4 : wrap64 (y + 1) = y + 1 := by rw [wrap64]; have := HB.out; omega
 have w5 : wrap64 (y - 1) = y - 1 := by rw [wrap64]; have := HB.out; omega
 have w6 : wrap64 (x - 1) = x - 1 := by rw [wrap64]; have := HB.out; omega
 have HPo := hid (pops_17 V)
 clear h hin hall hbc hinW hk hp hi hok hpz hsane u1 u2 u3 hx hz hp1 hV HA hV1
 go_enter Tryz.func23, Tryz.ntmps23
 go_upto_region 1 with fail
 rw [HV.out]
 clear HV c0 c1 c2 c3 e0 e1 e2 e3 d1 d2 d3
 have hcell := HA'.out.cells (k := k) HB.out.2.2.2.2.2.2.2.1
 rw [HX.out] at hcell
 have u0 : ¬ ((⟨x, y, z + 1⟩ : Sq).p = 0) := by dsimp only; have := HB.out; omega
 rw [show envV ⟨x, y, z + 1⟩ = x from if_neg u0, show stkV ⟨x, y, z + 1⟩ = y from if_neg u0, show parV ⟨x, y, z + 1⟩ = z from (if_neg u0).trans (Int.add_sub_cancel z 1)] at hcell
 obtain ⟨d1, d2, d3, -, -, -⟩ := hcell
 have e1 := z11 HA'.out.blk 1
 have e2 := z11 HA'.out.blk 2
 have e3 := z11 HA'.out.blk 3
 have e5 := z11 HA'.out.blk 5
 have z5 := z13 HA'.out.blk 5
 have i0 := z11 HV1.out 0
 have i1 := z11 HV1.out 1
 have i3 := z11 HV1.out 3
 simp at e1 e2 e3 e5 i0 i1 i3
 clear u0
 go_wp2_with fail
 refine HPo.out.mono ?_
 rintro e _ ⟨rfl, rfl⟩
 clear d1 d2 d3 e1 e2 e3
 by_cases hpop : y < 1
 · have HZ : Hid (stepZ is T w k = none) := by
     show _ = _
     unfold stepZ
     rw [HI.out, HX.out, if_neg (fun e => by simp [needsZ] at e; omega)]
   go_wp2_with fail
   (try simp only [Exit.inBlock, Exit.then])
   refine bodyPost_ret (results_none rfl _ _ _) rfl ?_
   refine ⟨rfl, ?_⟩
   rw [HZ.out]
   exact HS0.out.flagged
 have HZ : Hid (stepZ is T w k = rz is.length (some (T, w)) [((k : Int) + 1, (⟨x, y, z + 1⟩ : Sq))]) := by
   show _ = _
   unfold stepZ
   rw [HI.out, HX.out, if_pos (by simp [needsZ]; omega)]
   simp [exitsZ]
 go_wp2_with fail
 refine (z38 HS0.out ((k : Int) + 1) (x) (y) (z) HB.out.2.2.2.2.1 HB.out.2.2.2.2.2.1).mono ?_
 rintro e V2 ⟨rfl, hs1, hc1⟩
 have HS1 := hid hs1
 clear hs1 hc1 HS0
 go_wp2_with fail
 (try simp only [Exit.inBlock, Exit.then])
 refine bodyPost_end (results_none rfl _ _ _) rfl ?_
 refine ⟨rfl, ?_⟩
 rw [HZ.out]
 exact HS1.out
end
end Go.Proofs.YtfmkgppkgmjpfaaGreatDoor
