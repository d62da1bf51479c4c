/- What the program's check of code keeps in memory. -/
import Derived.Test.YtfmkgppkgmjpfaaDoorValidPure
import Derived.Test.YtfmkgppkgmjpfaaDoorOwnRow
import Derived.Test.YtfmkgppkgmjpfaaDoorChanKit
import Derived.Deep.OwnRows
namespace Go.Proofs.YtfmkgppkgmjpfaaDoor
open Go.RowKit Go.Conc

def spc (s : Sq) : Nat → Value
  | 0 => .int .i64 s.n
  | 1 => .int .i64 s.v
  | _ => .int .i64 s.p

def spF (T : List Sq) (i : Nat) : Value := spc (tg T (i / 3)) (i % 3)

def wkA (wk : List Nat) : Array Value := (wk.map (fun (k : Nat) => Value.int .i64 (k : Int))).toArray

theorem tgF_mem {T : List Sq} {k : Nat} (hk : k < T.length) : tg T k ∈ T := by
  unfold tg
  rw [List.getD_eq_getElem?_getD, List.getElem?_eq_getElem hk]
  exact List.getElem_mem _

/-- The follower, as it lies; d: how much is owed beside what waits. -/
structure Fl (W0 : World) (Fb : Nat) (vc : Value) (gs ch N : Nat) (T : List Sq) (wk : List Nat) (d : Int) (closed : Bool) (W : World) : Prop where
  blk : W.heap[Fb]? = some (.cells #[vc, .slice (some ⟨gs, 0, none⟩) N N, .chan (some ch), .int .i64 (d + wk.length)] 61)
  row : W.rowIs gs 51 (3 * N) (spF T)
  chb : ∃ s r, W.heap[ch]? = some (.chan N (wkA wk) closed s r false)
  lo : W0.heap.size ≤ Fb ∧ W0.heap.size ≤ gs ∧ W0.heap.size ≤ ch
  bel : Below W0.heap.size W0 W
  len : T.length = N
  nl : N ≤ 1500
  sane : ∀ s ∈ T, SaneS s
  room : wk.length + free T ≤ N
  dl : 0 ≤ d ∧ d ≤ 1

/-- What the follower's functions leave as it was. -/
structure Fz (W W' : World) : Prop where
  size : W.heap.size ≤ W'.heap.size
  block : ∀ (q : Nat) (c : Array Value) (t : TypeId), W.heap[q]? = some (Obj.cells c t) → t ≠ 51 → t ≠ 61 → W'.heap[q]? = W.heap[q]?

theorem Fz.of_below {W W' : World} (h : Below W.heap.size W W') : Fz W W' := ⟨h.size, fun q _ _ hq _ _ => h.block q (heap_lt hq)⟩
theorem Fz.refl (W : World) : Fz W W := Fz.of_below (Below.refl _ _)
theorem Fz.trans {W W' W'' : World} (h : Fz W W') (h' : Fz W' W'') : Fz W W'' :=
  ⟨Nat.le_trans h.size h'.size, fun q c t hq h1 h2 => by
    have e := h.block q c t hq h1 h2
    exact (h'.block q c t (e.trans hq) h1 h2).trans e⟩

theorem fz_set {W : World} {b i : Nat} {c0 : Array Value} {t0 : TypeId} {v : Value} (hb : W.heap[b]? = some (.cells c0 t0)) (ht : t0 = 51 ∨ t0 = 61) : Fz W (W.setCell ⟨b, i, none⟩ v) :=
  ⟨by simp [World.setCell], fun q c t hq h1 h2 => Below.heap_setCell W ⟨b, i, none⟩ _ q (fun e => by
    have e' : q = b := e
    subst e'
    rw [hb] at hq
    cases hq
    rcases ht with ht | ht
    · exact h1 ht
    · exact h2 ht)⟩

theorem setChan_same (W : World) (c cap : Nat) (buf : Array Value) (cl : Bool) (s r : Nat) (tm : Bool) {q : Nat} (hq : q ≠ c) : (W.setChan c cap buf cl s r tm).heap[q]? = W.heap[q]? := by
  simp only [World.setChan]
  rw [Array.getElem?_setIfInBounds_ne (Ne.symm hq)]

theorem fz_chan {W : World} {ch : Nat} {o : Obj} (hc : W.heap[ch]? = some o) (hn : ∀ c t, o ≠ .cells c t) (cap : Nat) (buf : Array Value) (cl : Bool) (s r : Nat) (tm : Bool) : Fz W (W.setChan ch cap buf cl s r tm) :=
  ⟨by rw [size_setChan]; exact Nat.le_refl _, fun q c t hq _ _ => setChan_same W ch cap buf cl s r tm (fun e => by subst e; rw [hc] at hq; cases hq; exact hn _ _ rfl)⟩

theorem Fl.below {W0 : World} {Fb : Nat} {vc : Value} {gs ch N : Nat} {T : List Sq} {wk : List Nat} {d : Int} {closed : Bool} {W W' : World} (h : Fl W0 Fb vc gs ch N T wk d closed W) (hb : Below W.heap.size W W') : Fl W0 Fb vc gs ch N T wk d closed W' := by
  obtain ⟨s, r, hc⟩ := h.chb
  exact ⟨(hb.block _ (heap_lt h.blk)).trans h.blk, h.row.of_block (hb.block _ h.row.lt), ⟨s, r, (hb.block _ (heap_lt hc)).trans hc⟩, h.lo, h.bel.trans (hb.mono h.bel.size), h.len, h.nl, h.sane, h.room, h.dl⟩

theorem Fl.ne {W0 : World} {Fb : Nat} {vc : Value} {gs ch N : Nat} {T : List Sq} {wk : List Nat} {d : Int} {closed : Bool} {W : World} (h : Fl W0 Fb vc gs ch N T wk d closed W) : Fb ≠ gs ∧ Fb ≠ ch ∧ gs ≠ ch := by
  obtain ⟨s, r, hc⟩ := h.chb
  obtain ⟨c, hb, -⟩ := h.row
  refine ⟨fun e => ?_, fun e => ?_, fun e => ?_⟩
  · subst e
    rw [h.blk] at hb
    cases hb
  · subst e
    rw [h.blk] at hc
    cases hc
  · subst e
    rw [hb] at hc
    cases hc

theorem Fl.cells {W0 : World} {Fb : Nat} {vc : Value} {gs ch N : Nat} {T : List Sq} {wk : List Nat} {d : Int} {closed : Bool} {W : World} (h : Fl W0 Fb vc gs ch N T wk d closed W) {k : Nat} (hk : k < N) :
    W.cell? ⟨gs, k * 3, none⟩ = some (.int .i64 (tg T k).n) ∧ W.cell? ⟨gs, k * 3 + 1, none⟩ = some (.int .i64 (tg T k).v) ∧ W.cell? ⟨gs, k * 3 + 2, none⟩ = some (.int .i64 (tg T k).p) ∧ W.frozen? ⟨gs, k * 3, none⟩ = false ∧ W.frozen? ⟨gs, k * 3 + 1, none⟩ = false ∧ W.frozen? ⟨gs, k * 3 + 2, none⟩ = false := by
  refine ⟨?_, ?_, ?_, h.row.frozen _, h.row.frozen _, h.row.frozen _⟩
  · rw [h.row.cell (show k * 3 < 3 * N by omega)]
    show some (spc (tg T (k * 3 / 3)) (k * 3 % 3)) = _
    rw [show k * 3 / 3 = k by omega, show k * 3 % 3 = 0 by omega]
    rfl
  · rw [h.row.cell (show k * 3 + 1 < 3 * N by omega)]
    show some (spc (tg T ((k * 3 + 1) / 3)) ((k * 3 + 1) % 3)) = _
    rw [show (k * 3 + 1) / 3 = k by omega, show (k * 3 + 1) % 3 = 1 by omega]
    rfl
  · rw [h.row.cell (show k * 3 + 2 < 3 * N by omega)]
    show some (spc (tg T ((k * 3 + 2) / 3)) ((k * 3 + 2) % 3)) = _
    rw [show (k * 3 + 2) / 3 = k by omega, show (k * 3 + 2) % 3 = 2 by omega]
    rfl

/-- A spot is written. -/
def spot3 (W : World) (gs k : Nat) (s : Sq) : World := ((W.setCell ⟨gs, k * 3, none⟩ (.int .i64 s.n)).setCell ⟨gs, k * 3 + 1, none⟩ (.int .i64 s.v)).setCell ⟨gs, k * 3 + 2, none⟩ (.int .i64 s.p)

set_option maxHeartbeats 2000000 in
/-- A place is noted, owed and sent. -/
theorem Fl.push {W0 : World} {Fb : Nat} {vc : Value} {gs ch N : Nat} {T : List Sq} {wk : List Nat} {d : Int} {W : World} (h : Fl W0 Fb vc gs ch N T wk d false W) {k : Nat} (hk : k < N) (h0 : (tg T k).p = 0) {s : Sq} (hs : SaneS s) (hp : s.p ≠ 0) {s0 r0 : Nat} (hc : W.heap[ch]? = some (.chan N (wkA wk) false s0 r0 false)) :
    Fl W0 Fb vc gs ch N (T.set k s) (wk ++ [k]) d false ((((spot3 W gs k s).setCell ⟨Fb, 3, none⟩ (.int .i64 (d + wk.length + 1))).drew).setChan ch N ((wkA wk).push (.int .i64 (k : Int))) false (s0 + 1) r0 false) ∧ Fz W ((((spot3 W gs k s).setCell ⟨Fb, 3, none⟩ (.int .i64 (d + wk.length + 1))).drew).setChan ch N ((wkA wk).push (.int .i64 (k : Int))) false (s0 + 1) r0 false) := by
  have hf := free_set T k (by rw [h.len]; exact hk) h0 s hp
  have hr := h.room
  obtain ⟨n1, n2, n3⟩ := h.ne
  obtain ⟨l1, l2, l3⟩ := h.lo
  obtain ⟨cg, hcg, -⟩ := id h.row
  have hg1 : ∀ q, q ≠ gs → (spot3 W gs k s).heap[q]? = W.heap[q]? := fun q hq => by
    unfold spot3
    rw [Below.heap_setCell _ ⟨gs, k * 3 + 2, none⟩ _ q hq, Below.heap_setCell _ ⟨gs, k * 3 + 1, none⟩ _ q hq, Below.heap_setCell _ ⟨gs, k * 3, none⟩ _ q hq]
  have hg2 : ∀ q, q ≠ gs → q ≠ Fb → q ≠ ch → ((((spot3 W gs k s).setCell ⟨Fb, 3, none⟩ (.int .i64 (d + wk.length + 1))).drew).setChan ch N ((wkA wk).push (.int .i64 (k : Int))) false (s0 + 1) r0 false).heap[q]? = W.heap[q]? := fun q q1 q2 q3 => by
    rw [setChan_same _ _ _ _ _ _ _ _ q3]
    show ((spot3 W gs k s).setCell ⟨Fb, 3, none⟩ (.int .i64 (d + wk.length + 1))).heap[q]? = _
    rw [Below.heap_setCell _ ⟨Fb, 3, none⟩ _ q q2, hg1 q q1]
  have hsz : ((((spot3 W gs k s).setCell ⟨Fb, 3, none⟩ (.int .i64 (d + wk.length + 1))).drew).setChan ch N ((wkA wk).push (.int .i64 (k : Int))) false (s0 + 1) r0 false).heap.size = W.heap.size := by
    rw [size_setChan]
    show ((spot3 W gs k s).setCell ⟨Fb, 3, none⟩ (.int .i64 (d + wk.length + 1))).heap.size = _
    simp [spot3, World.setCell]
  have hbF : (spot3 W gs k s).heap[Fb]? = _ := (hg1 Fb n1).trans h.blk
  refine ⟨⟨?_, ?_, ⟨s0 + 1, r0, ?_⟩, h.lo, ?_, by rw [List.length_set]; exact h.len, h.nl, fun s' hs' => ?_, by rw [List.length_append, List.length_singleton]; omega, h.dl⟩, ⟨by rw [hsz]; exact Nat.le_refl _, fun q c t hq t1 t2 => hg2 q (fun e => ?_) (fun e => ?_) (fun e => ?_)⟩⟩
  · rw [setChan_same _ _ _ _ _ _ _ _ n2]
    show ((spot3 W gs k s).setCell ⟨Fb, 3, none⟩ (.int .i64 (d + wk.length + 1))).heap[Fb]? = _
    have e : (d + ((wk ++ [k]).length : Int)) = d + wk.length + 1 := by rw [List.length_append, List.length_singleton]; omega
    rw [e]
    simp [World.setCell, Array.getElem?_modify, hbF]
  · have r3 := ((h.row.set (k * 3) (.int .i64 s.n)).set (k * 3 + 1) (.int .i64 s.v)).set (k * 3 + 2) (.int .i64 s.p)
    have r4 : (spot3 W gs k s).rowIs gs 51 (3 * N) (spF (T.set k s)) := r3.congr (fun i hi => by
      have hts := tg_set (T := T) (show k < T.length by rw [h.len]; exact hk) s
      show _ = spc (tg (T.set k s) (i / 3)) (i % 3)
      rw [hts]
      by_cases e : i / 3 = k
      · rw [if_pos e]
        have h3 : i = k * 3 ∨ i = k * 3 + 1 ∨ i = k * 3 + 2 := by omega
        rcases h3 with rfl | rfl | rfl
        · rw [if_neg (by omega), if_neg (by omega), if_pos rfl, show k * 3 % 3 = 0 by omega]
          rfl
        · rw [if_neg (by omega), if_pos rfl, show (k * 3 + 1) % 3 = 1 by omega]
          rfl
        · rw [if_pos rfl, show (k * 3 + 2) % 3 = 2 by omega]
          rfl
      · rw [if_neg e, if_neg (by omega), if_neg (by omega), if_neg (by omega)]
        rfl)
    have e5 : ((((spot3 W gs k s).setCell ⟨Fb, 3, none⟩ (.int .i64 (d + wk.length + 1))).drew).setChan ch N ((wkA wk).push (.int .i64 (k : Int))) false (s0 + 1) r0 false).heap[gs]? = (spot3 W gs k s).heap[gs]? := by
      rw [setChan_same _ _ _ _ _ _ _ _ n3]
      show ((spot3 W gs k s).setCell ⟨Fb, 3, none⟩ (.int .i64 (d + wk.length + 1))).heap[gs]? = _
      exact Below.heap_setCell (spot3 W gs k s) ⟨Fb, 3, none⟩ _ gs (Ne.symm n1)
    exact r4.of_block e5
  · have e : wkA (wk ++ [k]) = (wkA wk).push (.int .i64 (k : Int)) := by simp [wkA]
    rw [e]
    refine heap_setChan _ _ _ _ _ _ _ _ ?_
    show ch < ((spot3 W gs k s).setCell ⟨Fb, 3, none⟩ (.int .i64 (d + wk.length + 1))).heap.size
    have := heap_lt hc
    simpa [spot3, World.setCell] using this
  · refine ⟨h.bel.os, h.bel.tape, h.bel.output, by rw [hsz]; exact h.bel.size, fun q hq => (hg2 q (by omega) (by omega) (by omega)).trans (h.bel.block q hq)⟩
  · rcases List.mem_or_eq_of_mem_set hs' with h1 | rfl
    · exact h.sane s' h1
    · exact hs
  · subst e
    rw [hcg] at hq
    cases hq
    exact t1 rfl
  · subst e
    rw [h.blk] at hq
    cases hq
    exact t2 rfl
  · subst e
    rw [hc] at hq
    cases hq

/-- An error of ours. -/
def IsBad (e : Ending) : Prop := ∃ pb, e = .returned (.iface 55 (.pointer (some ⟨pb, 0, none⟩)))

/-- What comes of coming to places. -/
def ComeI (W0 : World) (Fb : Nat) (vc : Value) (gs ch N : Nat) (d : Int) (W : World) (r : Option (List Sq × List Nat)) (e : Ending) (W' : World) : Prop :=
  Below W0.heap.size W0 W' ∧ Fz W W' ∧ (r = none → IsBad e) ∧ ∀ x, r = some x → e = .returned .nilIface ∧ Fl W0 Fb vc gs ch N x.1 x.2 d false W'
end Go.Proofs.YtfmkgppkgmjpfaaDoor
