/- What the specification's maker of code keeps in memory; its small functions. -/
import Derived.Test.YtegjdgiegnofhaaDoorCompA
import Derived.Test.YtegjdgiegnofhaaDoorFreeM
import Derived.Test.YtegjdgiegnofhaaDoorGenA
import Derived.Laws.OwnMore
import Derived.Test.YtegjdgiegnofhaaDoorStg
import Derived.Deep.CutRange
import Derived.Deep.CutBlock
namespace Go.Proofs.YtegjdgiegnofhaaDoor
open Go.RowKit Go.Deep

/-- A slice of names in a row of names. -/
def NmT (W : World) (v : Value) (ss : List ByteArray) : Prop :=
  (v = .slice none 0 0 ∧ ss = []) ∨ ∃ g c cur, v = .slice (some ⟨g, 0, none⟩) ss.length c ∧ W.heap[g]? = some (.cells cur 9) ∧ ∀ j, j < ss.length → cur[j]? = some (.string (ss.getD j ⟨#[]⟩))

theorem NmT.names {W : World} {v : Value} {ss : List ByteArray} (h : NmT W v ss) : NamesV W v ss := by
  rcases h with h | ⟨g, c, cur, e, hg, hc⟩
  · exact Or.inl h
  · exact Or.inr ⟨g, 0, c, e, heap_lt hg, fun j hj => by rw [Nat.zero_add, cell_of_heap hg j]; exact hc j hj⟩

theorem NmT.is {W : World} {v : Value} {ss : List ByteArray} (h : NmT W v ss) : ∃ ad c, v = .slice ad ss.length c := h.names.slice

theorem nmT_owns {W : World} {B : Nat} {v : Value} {n : Nat} {ss : List ByteArray} (h : W.ownsRow B 9 1 v n (strRow ss)) : NmT W v ss := by
  have hl : n = ss.length := (names_owns h).2
  subst hl
  obtain ⟨-, ⟨rfl, h0⟩ | ⟨g, cap, cur, rfl, hB, hg, h1, h2, h3, h4⟩⟩ := h
  · exact Or.inl ⟨rfl, List.eq_nil_of_length_eq_zero h0⟩
  · refine Or.inr ⟨g, cap, cur, rfl, hg, fun j hj => ?_⟩
    have e := congrArg (fun l => l[j]?) h4
    simp only [List.getElem?_take_of_lt (show j < ss.length * 1 by omega), strRow_get ss j hj, Array.getElem?_toList] at e
    exact e

/-- What the maker's functions leave as it was: all but its own three kinds of blocks. -/
structure Cf (W W' : World) : Prop where
  os : W'.os = W.os
  tape : W'.tape = W.tape
  output : W'.output = W.output
  size : W.heap.size ≤ W'.heap.size
  block : ∀ (q : Nat) (c : Array Value) (t : TypeId), W.heap[q]? = some (Obj.cells c t) → t ≠ 28 → t ≠ 71 → t ≠ 67 → W'.heap[q]? = W.heap[q]?

theorem Cf.of_below {W W' : World} (h : Below W.heap.size W W') : Cf W W' := ⟨h.os, h.tape, h.output, h.size, fun q _ _ hq _ _ _ => h.block q (heap_lt hq)⟩
theorem Cf.refl (W : World) : Cf W W := Cf.of_below (Below.refl _ _)
theorem Cf.trans {W W' W'' : World} (h : Cf W W') (h' : Cf W' W'') : Cf W W'' :=
  ⟨h'.os.trans h.os, h'.tape.trans h.tape, h'.output.trans h.output, Nat.le_trans h.size h'.size, fun q c t hq h1 h2 h3 => by
    have e := h.block q c t hq h1 h2 h3
    exact (h'.block q c t (e.trans hq) h1 h2 h3).trans e⟩

theorem NmT.frame {W W' : World} {v : Value} {ss : List ByteArray} (h : NmT W v ss) (hf : Cf W W') : NmT W' v ss := by
  rcases h with h | ⟨g, c, cur, e, hg, hc⟩
  · exact Or.inl h
  · exact Or.inr ⟨g, c, cur, e, (hf.block g cur _ hg (by decide) (by decide) (by decide)).trans hg, hc⟩

def ltV (x : Lt × Value) : Nat → Value
  | 0 => .int .i64 (x.1.t.at_ : Int)
  | 1 => x.2
  | 2 => .int .i64 (x.1.fr : Int)
  | _ => .int .i64 (x.1.wh : Int)

instance : Inhabited Lt := ⟨⟨default, [], 0, 0⟩⟩

/-- The maker, as it lies. -/
structure Cm (W0 : World) (Mb : Nat) (ve vt : Value) (s : Cs) (ls : List (Lt × Value)) (vo vl : Value) (W : World) : Prop where
  blk : W.heap[Mb]? = some (.cells #[ve, vt, vo, vl] 67)
  orow : W.ownsRow W0.heap.size 28 4 vo s.out.length (rowZ In.cell 4 s.out)
  lrow : W.ownsRow W0.heap.size 71 4 vl ls.length (rowZ ltV 4 ls)
  lnam : ∀ x ∈ ls, NmT W x.2 x.1.names
  lfst : ls.map Prod.fst = s.later
  os : W.os = W0.os
  tape : W.tape = W0.tape
  output : W.output = W0.output
  size : W0.heap.size ≤ W.heap.size
  kept : ∀ q, q < W0.heap.size → q ≠ Mb → W.heap[q]? = W0.heap[q]?
  nb : Mb < W0.heap.size

def CmE (W0 : World) (Mb : Nat) (ve vt : Value) (s : Cs) (W : World) : Prop := ∃ ls vo vl, Cm W0 Mb ve vt s ls vo vl W

theorem row_keeps {W W' : World} {B : Nat} {e : TypeId} {sz : Nat} {v : Value} {n : Nat} {xs : List Value} (h : W.ownsRow B e sz v n xs) (he : ∀ g c, W.heap[g]? = some (.cells c e) → B ≤ g → W'.heap[g]? = W.heap[g]?) : W'.ownsRow B e sz v n xs :=
  own_same h (fun g eg => by obtain ⟨hB, c, hc⟩ := own_type h eg; exact he g c hc hB)

/-- Something elsewhere is done. -/
theorem Cm.below {W0 : World} {Mb : Nat} {ve vt : Value} {s : Cs} {ls : List (Lt × Value)} {vo vl : Value} {W W' : World} (h : Cm W0 Mb ve vt s ls vo vl W) (hb : Below W.heap.size W W') : Cm W0 Mb ve vt s ls vo vl W' :=
  ⟨(hb.block _ (heap_lt h.blk)).trans h.blk, row_keeps h.orow (fun g _ hc _ => hb.block g (heap_lt hc)), row_keeps h.lrow (fun g _ hc _ => hb.block g (heap_lt hc)), fun x hx => (h.lnam x hx).frame (Cf.of_below hb), h.lfst,
    hb.os.trans h.os, hb.tape.trans h.tape, hb.output.trans h.output, Nat.le_trans h.size hb.size, fun q hq hn => (hb.block q (Nat.lt_of_lt_of_le hq h.size)).trans (h.kept q hq hn), h.nb⟩

theorem CmE.below {W0 : World} {Mb : Nat} {ve vt : Value} {s : Cs} {W W' : World} (h : CmE W0 Mb ve vt s W) (hb : Below W.heap.size W W') : CmE W0 Mb ve vt s W' := by
  obtain ⟨ls, vo, vl, h⟩ := h
  exact ⟨ls, vo, vl, h.below hb⟩

theorem maker_set2 {W : World} {Mb : Nat} {a b c d : Value} (h : W.heap[Mb]? = some (.cells #[a, b, c, d] 67)) (v : Value) : (W.setCell ⟨Mb, 2, none⟩ v).heap[Mb]? = some (.cells #[a, b, v, d] 67) := by
  simp [World.setCell, Array.getElem?_modify, h]

theorem maker_set3 {W : World} {Mb : Nat} {a b c d : Value} (h : W.heap[Mb]? = some (.cells #[a, b, c, d] 67)) (v : Value) : (W.setCell ⟨Mb, 3, none⟩ v).heap[Mb]? = some (.cells #[a, b, c, v] 67) := by
  simp [World.setCell, Array.getElem?_modify, h]

/-- The block of a row of another kind. -/
theorem row_ne {W : World} {B : Nat} {e : TypeId} {sz : Nat} {v : Value} {n : Nat} {xs : List Value} (h : W.ownsRow B e sz v n xs) {q : Nat} {c : Array Value} {t : TypeId} (hq : W.heap[q]? = some (.cells c t)) (ht : t ≠ e) : some q ≠ v.ownBlock := fun e2 => by
  obtain ⟨-, cur, hc⟩ := own_type h e2.symm
  rw [hq] at hc
  cases hc
  exact ht rfl

/-- An instruction more. -/
theorem cm_put {W0 : World} {Mb : Nat} {ve vt : Value} {s : Cs} {ls : List (Lt × Value)} {vo vl : Value} {W W' : World} (h : Cm W0 Mb ve vt s ls vo vl W) (i : In) {vo' : Value} (ho : W'.ownsRow W0.heap.size 28 4 vo' (s.out.length + 1) (rowZ In.cell 4 s.out ++ [.int .i64 i.op, .int .i64 i.a, .int .i64 i.b, .int .i64 i.c])) (hg : W.grownBy W' vo.ownBlock) :
    CmE W0 Mb ve vt (s.put i) (W'.setCell ⟨Mb, 2, none⟩ vo') ∧ Cf W (W'.setCell ⟨Mb, 2, none⟩ vo') := by
  have e : ∀ q, q ≠ Mb → (W'.setCell ⟨Mb, 2, none⟩ vo').heap[q]? = W'.heap[q]? := fun q hq => Below.heap_setCell W' ⟨Mb, 2, none⟩ _ q hq
  have hs : (W'.setCell ⟨Mb, 2, none⟩ vo').heap.size = W'.heap.size := by simp [World.setCell]
  have hb' := (hg.block Mb (heap_lt h.blk) (row_ne h.orow h.blk (by decide))).trans h.blk
  have hf : Cf W (W'.setCell ⟨Mb, 2, none⟩ vo') := ⟨hg.os, hg.tape, hg.output, by rw [hs]; exact hg.size, fun q c t hq h1 _ h3 => (e q (fun e2 => by subst e2; rw [h.blk] at hq; cases hq; exact h3 rfl)).trans (hg.block q (heap_lt hq) (row_ne h.orow hq h1))⟩
  refine ⟨⟨ls, vo', vl, maker_set2 hb' _, ?_, ?_, fun x hx => (h.lnam x hx).frame hf, h.lfst, hg.os.trans h.os, hg.tape.trans h.tape, hg.output.trans h.output, by rw [hs]; exact Nat.le_trans h.size hg.size, fun q hq hn => ?_, h.nb⟩, hf⟩
  · have e3 : rowZ In.cell 4 (s.out ++ [i]) = rowZ In.cell 4 s.out ++ [.int .i64 i.op, .int .i64 i.a, .int .i64 i.b, .int .i64 i.c] := by rw [rowZ_app]; rfl
    show (W'.setCell ⟨Mb, 2, none⟩ vo').ownsRow _ _ _ _ (s.out ++ [i]).length (rowZ In.cell 4 (s.out ++ [i]))
    rw [e3, List.length_append]
    exact row_keeps ho (fun g c hc _ => e g (fun e2 => by subst e2; rw [hb'] at hc; cases hc))
  · exact row_keeps h.lrow (fun g c hc _ => (e g (fun e2 => by subst e2; rw [h.blk] at hc; cases hc)).trans (hg.block g (heap_lt hc) (row_ne h.orow hc (by decide))))
  · refine (e q hn).trans ((hg.block q (Nat.lt_of_lt_of_le hq h.size) (fun e2 => ?_)).trans (h.kept q hq hn))
    have := (own_type h.orow e2.symm).1
    omega

/-- A part more is put off. -/
theorem cm_wait {W0 : World} {Mb : Nat} {ve vt : Value} {s : Cs} {ls : List (Lt × Value)} {vo vl : Value} {W W' : World} (h : Cm W0 Mb ve vt s ls vo vl W) (l : Lt) {v : Value} (hn : NmT W v l.names) {vl' : Value} (ho : W'.ownsRow W0.heap.size 71 4 vl' (ls.length + 1) (rowZ ltV 4 ls ++ [.int .i64 (l.t.at_ : Int), v, .int .i64 (l.fr : Int), .int .i64 (l.wh : Int)])) (hg : W.grownBy W' vl.ownBlock) :
    CmE W0 Mb ve vt (s.wait l) (W'.setCell ⟨Mb, 3, none⟩ vl') ∧ Cf W (W'.setCell ⟨Mb, 3, none⟩ vl') := by
  have e : ∀ q, q ≠ Mb → (W'.setCell ⟨Mb, 3, none⟩ vl').heap[q]? = W'.heap[q]? := fun q hq => Below.heap_setCell W' ⟨Mb, 3, none⟩ _ q hq
  have hs : (W'.setCell ⟨Mb, 3, none⟩ vl').heap.size = W'.heap.size := by simp [World.setCell]
  have hb' := (hg.block Mb (heap_lt h.blk) (row_ne h.lrow h.blk (by decide))).trans h.blk
  have hf : Cf W (W'.setCell ⟨Mb, 3, none⟩ vl') := ⟨hg.os, hg.tape, hg.output, by rw [hs]; exact hg.size, fun q c t hq _ h1 h3 => (e q (fun e2 => by subst e2; rw [h.blk] at hq; cases hq; exact h3 rfl)).trans (hg.block q (heap_lt hq) (row_ne h.lrow hq h1))⟩
  refine ⟨⟨ls ++ [(l, v)], vo, vl', maker_set3 hb' _, ?_, ?_, fun x hx => ?_, ?_, hg.os.trans h.os, hg.tape.trans h.tape, hg.output.trans h.output, by rw [hs]; exact Nat.le_trans h.size hg.size, fun q hq hn => ?_, h.nb⟩, hf⟩
  · exact row_keeps h.orow (fun g c hc _ => (e g (fun e2 => by subst e2; rw [h.blk] at hc; cases hc)).trans (hg.block g (heap_lt hc) (row_ne h.lrow hc (by decide))))
  · have e3 : rowZ ltV 4 (ls ++ [(l, v)]) = rowZ ltV 4 ls ++ [.int .i64 (l.t.at_ : Int), v, .int .i64 (l.fr : Int), .int .i64 (l.wh : Int)] := by rw [rowZ_app]; rfl
    rw [e3, List.length_append]
    exact row_keeps ho (fun g c hc _ => e g (fun e2 => by subst e2; rw [hb'] at hc; cases hc))
  · rw [List.mem_append, List.mem_singleton] at hx
    rcases hx with hx | rfl
    · exact (h.lnam x hx).frame hf
    · exact hn.frame hf
  · rw [List.map_append, h.lfst]
    rfl
  · refine (e q hn).trans ((hg.block q (Nat.lt_of_lt_of_le hq h.size) (fun e2 => ?_)).trans (h.kept q hq hn))
    have := (own_type h.lrow e2.symm).1
    omega

/-- An instruction is written anew. -/
def quad (X : World) (g k : Nat) (i : In) : World := (((X.setCell ⟨g, k * 4, none⟩ (.int .i64 i.op)).setCell ⟨g, k * 4 + 1, none⟩ (.int .i64 i.a)).setCell ⟨g, k * 4 + 2, none⟩ (.int .i64 i.b)).setCell ⟨g, k * 4 + 3, none⟩ (.int .i64 i.c)

theorem quad_other (X : World) (g k : Nat) (i : In) : (∀ j, j ≠ g → (quad X g k i).heap[j]? = X.heap[j]?) ∧ (quad X g k i).heap.size = X.heap.size := by
  refine ⟨fun j hj => ?_, by simp [quad, World.setCell]⟩
  unfold quad
  rw [Below.heap_setCell _ ⟨g, k * 4 + 3, none⟩ _ j hj, Below.heap_setCell _ ⟨g, k * 4 + 2, none⟩ _ j hj, Below.heap_setCell _ ⟨g, k * 4 + 1, none⟩ _ j hj, Below.heap_setCell _ ⟨g, k * 4, none⟩ _ j hj]

theorem quad_os (X : World) (g k : Nat) (i : In) : (quad X g k i).os = X.os ∧ (quad X g k i).tape = X.tape ∧ (quad X g k i).output = X.output := by
  simp [quad, World.setCell]

theorem quad_list (l : List In) (k : Nat) (hk : k < l.length) (i : In) : ((((rowZ In.cell 4 l).set (k * 4) (.int .i64 i.op)).set (k * 4 + 1) (.int .i64 i.a)).set (k * 4 + 2) (.int .i64 i.b)).set (k * 4 + 3) (.int .i64 i.c) = rowZ In.cell 4 (l.set k i) := by
  apply List.ext_getElem?
  intro j
  by_cases hj : j < l.length * 4
  · rw [rowZ_get In.cell 4 (by decide) (l.set k i) j (by rw [List.length_set]; exact hj)]
    have hl := rowZ_len In.cell 4 l
    have h0 := rowZ_get In.cell 4 (by decide) l j hj
    by_cases hik : j / 4 = k
    · have hgd : (l.set k i).getD (j / 4) default = i := by rw [hik]; simp [List.getD, hk]
      rw [hgd]
      have hr : j % 4 = 0 ∨ j % 4 = 1 ∨ j % 4 = 2 ∨ j % 4 = 3 := by omega
      rcases hr with hr | hr | hr | hr
      · rw [List.getElem?_set_ne (by omega), List.getElem?_set_ne (by omega), List.getElem?_set_ne (by omega), show k * 4 = j by omega, List.getElem?_set_self (by omega), hr]; rfl
      · rw [List.getElem?_set_ne (by omega), List.getElem?_set_ne (by omega), show k * 4 + 1 = j by omega, List.getElem?_set_self (by simp; omega), hr]; rfl
      · rw [List.getElem?_set_ne (by omega), show k * 4 + 2 = j by omega, List.getElem?_set_self (by simp; omega), hr]; rfl
      · rw [show k * 4 + 3 = j by omega, List.getElem?_set_self (by simp; omega), hr]; rfl
    · rw [List.getElem?_set_ne (by omega), List.getElem?_set_ne (by omega), List.getElem?_set_ne (by omega), List.getElem?_set_ne (by omega), h0]
      have hgd : (l.set k i).getD (j / 4) default = l.getD (j / 4) default := by simp [List.getD, List.getElem?_set_ne (Ne.symm hik)]
      rw [hgd]
  · rw [List.getElem?_eq_none (by simp only [List.length_set, rowZ_len]; omega), List.getElem?_eq_none (by simp only [List.length_set, rowZ_len]; omega)]

theorem quad_row {X : World} {B g cap k : Nat} {l : List In} (h : X.ownsRow B 28 4 (.slice (some ⟨g, 0, none⟩) l.length cap) l.length (rowZ In.cell 4 l)) (hk : k < l.length) (i : In) : (quad X g k i).ownsRow B 28 4 (.slice (some ⟨g, 0, none⟩) (l.set k i).length cap) (l.set k i).length (rowZ In.cell 4 (l.set k i)) := by
  have h1 := (h.stored (k * 4) (.int .i64 i.op)).1
  have h2 := (h1.stored (k * 4 + 1) (.int .i64 i.a)).1
  have h3 := (h2.stored (k * 4 + 2) (.int .i64 i.b)).1
  have h4 := (h3.stored (k * 4 + 3) (.int .i64 i.c)).1
  rw [quad_list l k hk i] at h4
  rw [List.length_set]
  exact h4

theorem cm_lead {W0 : World} {Mb : Nat} {ve vt : Value} {s : Cs} {ls : List (Lt × Value)} {g cap : Nat} {vl : Value} {W : World} (h : Cm W0 Mb ve vt s ls (.slice (some ⟨g, 0, none⟩) s.out.length cap) vl W) {fr : Nat} (hfr : fr < s.out.length) (wh : Nat) :
    CmE W0 Mb ve vt (s.lead fr wh) (quad W g fr ((s.out.getD fr default).lead wh s.out.length)) ∧ Cf W (quad W g fr ((s.out.getD fr default).lead wh s.out.length)) := by
  obtain ⟨e, hs⟩ := quad_other W g fr ((s.out.getD fr default).lead wh s.out.length)
  obtain ⟨o1, o2, o3⟩ := quad_os W g fr ((s.out.getD fr default).lead wh s.out.length)
  obtain ⟨hB, cur, hc⟩ := own_type h.orow (g := g) rfl
  have hf : Cf W (quad W g fr ((s.out.getD fr default).lead wh s.out.length)) := ⟨o1, o2, o3, by rw [hs]; exact Nat.le_refl _, fun q c t hq h1 _ _ => e q (fun e2 => by subst e2; rw [hc] at hq; cases hq; exact h1 rfl)⟩
  refine ⟨⟨ls, .slice (some ⟨g, 0, none⟩) s.out.length cap, vl, (e Mb (fun e2 => by subst e2; rw [h.blk] at hc; cases hc)).trans h.blk, ?_, row_keeps h.lrow (fun q c hq _ => e q (fun e2 => by subst e2; rw [hc] at hq; cases hq)), fun x hx => (h.lnam x hx).frame hf, h.lfst, o1.trans h.os, o2.trans h.tape, o3.trans h.output, by rw [hs]; exact h.size, fun q hq hn => (e q (by omega)).trans (h.kept q hq hn), h.nb⟩, hf⟩
  have := quad_row h.orow hfr ((s.out.getD fr default).lead wh s.out.length)
  rw [List.length_set] at this
  show (quad W g fr _).ownsRow _ _ _ _ (s.out.set fr _).length _
  rw [List.length_set]
  exact this
end Go.Proofs.YtegjdgiegnofhaaDoor

/- The maker's small functions. -/
namespace Go.Proofs.YtegjdgiegnofhaaDoor
open Go.RowKit Go.Deep

theorem info_insC : (Tryd.prog.info? 28).map (fun i => (i.zero, i.size, i.bytes)) = some (some (.agg #[.int .i64 0, .int .i64 0, .int .i64 0, .int .i64 0]), 4, 32) := by kernel_rfl
theorem info_later : (Tryd.prog.info? 71).map (fun i => (i.zero, i.size, i.bytes)) = some (some (.agg #[.int .i64 0, .slice none 0 0, .int .i64 0, .int .i64 0]), 4, 48) := by kernel_rfl

def PutPost (W0 : World) (Mb : Nat) (ve vt : Value) (s : Cs) (i : In) (W : World) (e : Ending) (W' : World) : Prop :=
  e = .returned (.int .i64 (s.out.length : Int)) ∧ CmE W0 Mb ve vt (s.put i) W' ∧ Cf W W'

set_option maxHeartbeats 2000000 in
set_option maxRecDepth 100000 in
theorem putM_calls {W0 : World} {Mb : Nat} {ve vt : Value} {s : Cs} (i : In) {W : World} (h : CmE W0 Mb ve vt s W) (hl : s.out.length ≤ 960000) :
    Calls Tryd.prog 31 #[.pointer (some ⟨Mb, 0, none⟩), .agg #[.int .i64 i.op, .int .i64 i.a, .int .i64 i.b, .int .i64 i.c]] W (PutPost W0 Mb ve vt s i W) := by
  obtain ⟨ls, vo, vl, h⟩ := h
  obtain ⟨op, a, b, c⟩ := i
  obtain ⟨adp, cpp, hvp⟩ := own_slice h.orow
  subst hvp
  have hbx := (MapKept.heap_alloc W (.cells #[.int .i64 op, .int .i64 a, .int .i64 b, .int .i64 c] 28)).1
  have hb0 : Below W.heap.size W (W.alloc (.cells #[.int .i64 op, .int .i64 a, .int .i64 b, .int .i64 c] 28)) := (Below.refl _ _).alloc (Nat.le_refl _) _
  obtain ⟨Y, hY⟩ : ∃ Y, W.alloc (.cells #[.int .i64 op, .int .i64 a, .int .i64 b, .int .i64 c] 28) = Y := ⟨_, rfl⟩
  have HY := hid hY
  rw [hY] at hbx hb0
  have St0 := hid (h.below hb0)
  have HB0 := hid hb0
  have HBx := hid hbx
  have HL := hid hl
  have hsz : W.heap.size + 1 = Y.heap.size := by rw [← hY]; simp
  have d1 := cell_of_heap St0.out.blk 2
  simp at d1
  have hPl : Mb < Y.heap.size := heap_lt St0.out.blk
  have hxl : W.heap.size < Y.heap.size := by omega
  have e0 := cell_of_heap HBx.out 0
  have e1 := cell_of_heap HBx.out 1
  have e2 := cell_of_heap HBx.out 2
  have e3 := cell_of_heap HBx.out 3
  simp at e0 e1 e2 e3
  clear h hl hY hb0 hbx
  go_enter Tryd.func31, Tryd.ntmps31
  go_upto_region 1 with fail
  rw [HY.out]
  clear HY
  have q0 : ∀ y : Later Y.heap.size Y, y.w.cell? ⟨Mb, 2, none⟩ = _ := fun y => y.cell hPl d1
  have p0 : ∀ y : Later Y.heap.size Y, y.w.cell? ⟨W.heap.size, 0, none⟩ = _ := fun y => y.cell hxl e0
  have p1 : ∀ y : Later Y.heap.size Y, y.w.cell? ⟨W.heap.size, 1, none⟩ = _ := fun y => y.cell hxl e1
  have p2 : ∀ y : Later Y.heap.size Y, y.w.cell? ⟨W.heap.size, 2, none⟩ = _ := fun y => y.cell hxl e2
  have p3 : ∀ y : Later Y.heap.size Y, y.w.cell? ⟨W.heap.size, 3, none⟩ = _ := fun y => y.cell hxl e3
  clear d1 e0 e1 e2 e3
  refine till_begin (c := 7) (S := fun w' => ∃ x : Later Y.heap.size Y, w' = x.w) (by kernel_rfl) ?_
  refine till_walk (by kernel_rfl) 6 0 _ _ (by kernel_rfl) (by kernel_rfl) ⟨⟨Y.drew, (Below.refl _ _).drew⟩, rfl⟩ ?_
  simp only [List.drop_zero, List.take_succ_cons, List.take_zero]
  repeat (go_big_quiet_step (fail))
  refine wpQuiet_nil ?_
  rintro w7 ⟨x1, rfl⟩
  have hL1 := x1.h
  clear q0 p0 p1 p2 p3
  generalize x1.w = X1 at *
  refine till_make (k := 6) (v := .slice (some ⟨X1.heap.size, 0, none⟩) 1 1) (w1 := X1.alloc (.cells #[.int .i64 op, .int .i64 a, .int .i64 b, .int .i64 c] 28)) (by decide) rfl (by kernel_rfl) rfl (by simp [go_sem]) ⟨⟨_, hL1.alloc (by have := hL1.size; omega) _⟩, rfl⟩ (by simp [go_sem]; exact rfl) ?_
  have hE := (MapKept.heap_alloc X1 (.cells #[.int .i64 op, .int .i64 a, .int .i64 b, .int .i64 c] 28)).1
  have hKx := hL1.trans (((Below.refl X1.heap.size X1).alloc (Nat.le_refl _) (.cells #[.int .i64 op, .int .i64 a, .int .i64 b, .int .i64 c] 28)).mono hL1.size)
  generalize X1.alloc (.cells #[.int .i64 op, .int .i64 a, .int .i64 b, .int .i64 c] 28) = X2 at *
  have St2 := hid (St0.out.below hKx)
  obtain ⟨i0, hi, hz0, hz1, hz2⟩ := info_parts info_insC
  obtain ⟨vp2, X3, hrun, hown, hgrow, -, hat⟩ := run_append_own_at (P := Tryd.prog) X2 W0.heap.size 23 23 28 i0 _ 4 32 Tryd.underlying23 hi hz0 hz1 hz2 rfl (by decide) (.slice adp s.out.length cpp) s.out.length (rowZ In.cell 4 s.out) St2.out.orow ⟨X1.heap.size, 0, none⟩ 1 1 [.int .i64 op, .int .i64 a, .int .i64 b, .int .i64 c] rfl (fun j u hu => by
    rw [Addr.add_lit]
    match j, hu with
    | 0, hu => simp at hu; subst hu; exact cell_of_heap hE 0
    | 1, hu => simp at hu; subst hu; exact cell_of_heap hE 1
    | 2, hu => simp at hu; subst hu; exact cell_of_heap hE 2
    | 3, hu => simp at hu; subst hu; exact cell_of_heap hE 3) (fun u hu => by
    simp at hu
    rcases hu with rfl | rfl | rfl | rfl <;> rfl) (by have := HL.out; unfold maxLen; omega) (by have := HL.out; omega) St2.out.size
  have hnx := cm_put St2.out ⟨op, a, b, c⟩ hown hgrow
  refine till_cut (v := vp2) (w1 := X3) rfl (by kernel_rfl) rfl (append_run (s := .tmp 9) (x := .tmp 11) (t := 23) rfl rfl rfl hrun) (by simp [go_sem]; exact rfl) ?_
  refine any_stage (fun _ => True) ?_
  have hb3 := (hgrow.block Mb (heap_lt St2.out.blk) (row_ne St2.out.orow St2.out.blk (by decide))).trans St2.out.blk
  have d1 := cell_of_heap hb3 2
  have w1 := frozen_of_heap hb3 2
  simp at d1
  obtain ⟨ad2, cp2, hv2⟩ := own_slice hown
  subst hv2
  refine stage_make (k := 8) (v := .pointer (some ⟨Mb, 0, none⟩)) (w1 := X3) rfl (by kernel_rfl) rfl (by simp [go_sem]) trivial (by simp [go_sem]; exact rfl) ?_
  refine stage_make (k := 9) (v := .pointer (some ⟨Mb, 2, none⟩)) (w1 := X3) rfl (by kernel_rfl) rfl (by simp [go_sem]) trivial (by simp [go_sem]; exact rfl) ?_
  refine stage_skip (k := 10) rfl (w1 := X3.setCell ⟨Mb, 2, none⟩ (.slice ad2 (s.out.length + 1) cp2)) rfl (by kernel_rfl) rfl (by simp [go_sem, d1, w1]) trivial ?_
  refine stage_end (by kernel_rfl) ?_
  have HNx := hid hnx.1
  have HFr := hid (((Cf.of_below HB0.out).trans (Cf.of_below hKx)).trans hnx.2)
  have hfin := cell_of_heap (maker_set2 hb3 (.slice ad2 (s.out.length + 1) cp2)) 2
  simp at hfin
  clear hnx hrun hown hgrow hat hE hKx hi hz0 hz1 hz2 hb3 d1 w1 St2 St0 HBx HB0 hL1 hPl hxl hsz
  generalize X3.setCell ⟨Mb, 2, none⟩ (.slice ad2 (s.out.length + 1) cp2) = Z at *
  go_wp2_with fail
  rw [show wrap64 (s.out.length : Int) = (s.out.length : Int) by have := HL.out; unfold wrap64; omega]
  go_ret
  exact ⟨rfl, HNx.out, HFr.out⟩

def LeadPost (W0 : World) (Mb : Nat) (ve vt : Value) (s : Cs) (W : World) (e : Ending) (W' : World) : Prop :=
  (∃ x, e = .returned x) ∧ CmE W0 Mb ve vt s W' ∧ Cf W W'

/-- Blocks of parts that are put off stay. -/
def Cl (W W' : World) : Prop := ∀ (q : Nat) (c : Array Value), W.heap[q]? = some (Obj.cells c 71) → W'.heap[q]? = W.heap[q]?

def LeadPost2 (W0 : World) (Mb : Nat) (ve vt : Value) (s : Cs) (W : World) (e : Ending) (W' : World) : Prop := LeadPost W0 Mb ve vt s W e W' ∧ Cl W W'

theorem lead_a (i : In) (v : Int) : i.lead 0 v = ⟨i.op, v, i.b, i.c⟩ := rfl
theorem lead_b (i : In) (v : Int) : i.lead 1 v = ⟨i.op, i.a, v, i.c⟩ := rfl
theorem lead_c (i : In) (v : Int) : i.lead 2 v = ⟨i.op, i.a, i.b, v⟩ := rfl

theorem box_set {W : World} {q : Nat} {x0 x1 x2 x3 : Value} (h : W.heap[q]? = some (.cells #[x0, x1, x2, x3] 28)) (v : Value) :
    (W.setCell ⟨q, 1, none⟩ v).heap[q]? = some (.cells #[x0, v, x2, x3] 28) ∧ (W.setCell ⟨q, 2, none⟩ v).heap[q]? = some (.cells #[x0, x1, v, x3] 28) ∧ (W.setCell ⟨q, 3, none⟩ v).heap[q]? = some (.cells #[x0, x1, x2, v] 28) := by
  refine ⟨?_, ?_, ?_⟩ <;> simp [World.setCell, Array.getElem?_modify, h]

/-- The box beside the maker is written. -/
theorem Cm.box {W0 : World} {Mb : Nat} {ve vt : Value} {s : Cs} {ls : List (Lt × Value)} {vo vl : Value} {W Y : World} (h : Cm W0 Mb ve vt s ls vo vl W) (hb : Below W.heap.size W Y) {q : Nat} (hq : W.heap.size ≤ q) (j : Nat) (v : Value) : Cm W0 Mb ve vt s ls vo vl (Y.setCell ⟨q, j, none⟩ v) ∧ Below W.heap.size W (Y.setCell ⟨q, j, none⟩ v) := by
  have hb2 : Below W.heap.size W (Y.setCell ⟨q, j, none⟩ v) := ⟨hb.os, hb.tape, hb.output, by simp [World.setCell]; exact hb.size, fun k hk => (Below.heap_setCell Y ⟨q, j, none⟩ v k (by show k ≠ q; omega)).trans (hb.block k hk)⟩
  exact ⟨h.below hb2, hb2⟩

set_option maxHeartbeats 2000000 in
set_option maxRecDepth 100000 in
theorem lead2_calls {W0 : World} {Mb : Nat} {ve vt : Value} {s : Cs} (fr wh : Nat) {W : World} (h : CmE W0 Mb ve vt s W) (hl : s.out.length ≤ 960000) (hfr : fr < s.out.length) (hwh : wh = 0 ∨ wh = 1 ∨ wh = 2) :
    Calls Tryd.prog 32 #[.pointer (some ⟨Mb, 0, none⟩), .int .i64 (fr : Int), .int .i64 (wh : Int)] W (LeadPost2 W0 Mb ve vt (s.lead fr wh) W) := by
  obtain ⟨ls, vo, vl, h⟩ := h
  obtain ⟨g, cap, hvo⟩ : ∃ g cap, vo = .slice (some ⟨g, 0, none⟩) s.out.length cap := by
    obtain ⟨-, ⟨-, h0⟩ | ⟨g, cap, cur, e, -⟩⟩ := h.orow
    · omega
    · exact ⟨g, cap, e⟩
  subst hvo
  have d2 := cell_of_heap h.blk 2
  simp at d2
  have hc : ∀ j, j < 4 → W.cell? ⟨g, fr * 4 + j, none⟩ = some ((s.out.getD fr default).cell j) := fun j hj => by
    rw [h.orow.cellAt (fr * 4 + j) (by omega), rowZ_get In.cell 4 (by decide) s.out _ (by omega)]
    rw [show (fr * 4 + j) / 4 = fr by omega, show (fr * 4 + j) % 4 = j by omega]
  obtain ⟨i, hi⟩ : ∃ i, s.out.getD fr default = i := ⟨_, rfl⟩
  rw [hi] at hc
  have c0 := hc 0 (by omega)
  have c1 := hc 1 (by omega)
  have c2 := hc 2 (by omega)
  have c3 := hc 3 (by omega)
  obtain ⟨op, a, b, c⟩ := i
  simp only [In.cell, Nat.add_zero] at c0 c1 c2 c3
  have HI := hid hi
  have hA := (MapKept.heap_alloc W (.cells #[.int .i64 op, .int .i64 a, .int .i64 b, .int .i64 c] 28)).1
  have hB := (Below.refl W.heap.size W).alloc (Nat.le_refl _) (.cells #[.int .i64 op, .int .i64 a, .int .i64 b, .int .i64 c] 28)
  obtain ⟨Y, hY⟩ : ∃ Y, W.alloc (.cells #[.int .i64 op, .int .i64 a, .int .i64 b, .int .i64 c] 28) = Y := ⟨_, rfl⟩
  have HY := hid hY
  rw [hY] at hA hB
  have HA := hid hA
  have HB := hid hB
  have HSt := hid h
  have HL := hid (And.intro hl hfr)
  have hgW : g < W.heap.size := by obtain ⟨-, cur, hcur⟩ := own_type h.orow (g := g) rfl; exact heap_lt hcur
  have HFin : Hid (∀ Z wh', Cm W0 Mb ve vt s ls (.slice (some ⟨g, 0, none⟩) s.out.length cap) vl Z → Below W.heap.size W Z → LeadPost2 W0 Mb ve vt (s.lead fr wh') W (.returned (.tuple #[])) (quad Z g fr ((⟨op, a, b, c⟩ : In).lead wh' s.out.length))) := fun Z wh' hz hf => by
    have h2 := cm_lead hz hfr wh'
    obtain ⟨-, cur, hcur⟩ := own_type hz.orow (g := g) rfl
    have h3 := (quad_other Z g fr ((⟨op, a, b, c⟩ : In).lead wh' s.out.length)).1
    rw [hi] at h2
    refine ⟨⟨⟨_, rfl⟩, h2.1, (Cf.of_below hf).trans h2.2⟩, fun q x hq => ?_⟩
    have h4 := hf.block q (heap_lt hq)
    exact (h3 q (fun e => by subst e; rw [h4, hq] at hcur; cases hcur)).trans h4
  clear hi hY hc h hl hA hB
  have hf0 : (0 : Int) ≤ (fr : Int) := by omega
  have hf1 : (fr : Int) < (s.out.length : Int) := by omega
  go_enter Tryd.func32, Tryd.ntmps32
  go_upto_region 1 with fail
  rw [HY.out]
  have d2 := cell_of_heap (HSt.out.below HB.out).blk 2
  simp at d2
  clear HY c0 c1 c2 c3
  rcases hwh with hw | hw | hw
  · subst hw
    obtain ⟨Z, hZ⟩ : ∃ Z, Y.setCell ⟨W.heap.size, 1, none⟩ (.int .i64 (s.out.length : Int)) = Z := ⟨_, rfl⟩
    have hbox := (box_set HA.out (.int .i64 (s.out.length : Int))).1
    have hst := HSt.out.box HB.out (Nat.le_refl _) 1 (.int .i64 (s.out.length : Int))
    have a1 := cell_of_heap HA.out 1
    have a2 := frozen_of_heap HA.out 1
    simp at a1
    rw [hZ] at hbox hst
    have HZ := hid hZ
    clear hZ
    go_upto_region 8 with fail
    rw [HZ.out]
    clear HZ a1 a2
    have HBx := hid hbox
    have St := hid hst
    have b2 := cell_of_heap St.out.1.blk 2
    have e0 := cell_of_heap HBx.out 0
    have e1 := cell_of_heap HBx.out 1
    have e2 := cell_of_heap HBx.out 2
    have e3 := cell_of_heap HBx.out 3
    simp at b2 e0 e1 e2 e3
    have hPl : Mb < Z.heap.size := heap_lt St.out.1.blk
    have hxl : W.heap.size < Z.heap.size := heap_lt HBx.out
    have q0 : ∀ y : Later Z.heap.size Z, y.w.cell? ⟨Mb, 2, none⟩ = _ := fun y => y.cell hPl b2
    have p0 : ∀ y : Later Z.heap.size Z, y.w.cell? ⟨W.heap.size, 0, none⟩ = _ := fun y => y.cell hxl e0
    have p1 : ∀ y : Later Z.heap.size Z, y.w.cell? ⟨W.heap.size, 1, none⟩ = _ := fun y => y.cell hxl e1
    have p2 : ∀ y : Later Z.heap.size Z, y.w.cell? ⟨W.heap.size, 2, none⟩ = _ := fun y => y.cell hxl e2
    have p3 : ∀ y : Later Z.heap.size Z, y.w.cell? ⟨W.heap.size, 3, none⟩ = _ := fun y => y.cell hxl e3
    clear b2 e0 e1 e2 e3 hbox hst
    refine till_begin (c := 6) (S := fun w' => ∃ x : Later Z.heap.size Z, w' = x.w) (by kernel_rfl) ?_
    refine till_walk (by kernel_rfl) 6 0 _ _ (by kernel_rfl) (by kernel_rfl) ⟨⟨Z.drew, (Below.refl _ _).drew⟩, rfl⟩ ?_
    simp only [List.drop_zero, List.take_succ_cons, List.take_zero]
    repeat (go_big_quiet_step (fail))
    refine wpQuiet_nil ?_
    rintro w7 ⟨x1, rfl⟩
    have hL1 := x1.h
    clear q0 p0 p1 p2 p3
    generalize x1.w = X1 at *
    have S1 := hid (St.out.1.below hL1)
    have F1 := hid (St.out.2.trans (hL1.mono St.out.2.size))
    refine till_cut (v := .pointer (some ⟨g, fr * 4, none⟩)) (w1 := X1) rfl (by kernel_rfl) rfl (by simp [go_sem, hf0, hf1]) (by simp [go_sem]; exact rfl) ?_
    refine any_stage (fun _ => True) ?_
    have hg1 := own_type S1.out.orow (g := g) rfl
    have hd : ∀ j, j < 4 → X1.cell? ⟨g, fr * 4 + j, none⟩ = some ((s.out.getD fr default).cell j) := fun j hj => by
      rw [S1.out.orow.cellAt (fr * 4 + j) (by omega), rowZ_get In.cell 4 (by decide) s.out _ (by omega)]
      rw [show (fr * 4 + j) / 4 = fr by omega, show (fr * 4 + j) % 4 = j by omega]
    obtain ⟨-, cur, hcur⟩ := hg1
    have f0 := frozen_of_heap hcur (fr * 4)
    have f1 := frozen_of_heap hcur (fr * 4 + 1)
    have f2 := frozen_of_heap hcur (fr * 4 + 2)
    have f3 := frozen_of_heap hcur (fr * 4 + 3)
    have k0 := hd 0 (by omega)
    have k1 := hd 1 (by omega)
    have k2 := hd 2 (by omega)
    have k3 := hd 3 (by omega)
    rw [Nat.add_zero] at k0
    refine stage_skip (k := 7) rfl (w1 := quad X1 g fr ⟨op, s.out.length, b, c⟩) rfl (by kernel_rfl) rfl (by unfold quad; simp [go_sem, f0, f1, f2, f3, k0, k1, k2, k3]) trivial ?_
    refine stage_end (by kernel_rfl) ?_
    have HR := hid (HFin.out X1 0 S1.out F1.out)
    rw [lead_a] at HR
    clear f0 f1 f2 f3 k0 k1 k2 k3 hcur hd hL1 S1 F1 St HBx hPl hxl
    generalize quad X1 g fr ⟨op, s.out.length, b, c⟩ = Z2 at *
    go_wp2_with fail
    go_end0
    exact HR.out
  · subst hw
    obtain ⟨Z, hZ⟩ : ∃ Z, Y.setCell ⟨W.heap.size, 2, none⟩ (.int .i64 (s.out.length : Int)) = Z := ⟨_, rfl⟩
    have hbox := (box_set HA.out (.int .i64 (s.out.length : Int))).2.1
    have hst := HSt.out.box HB.out (Nat.le_refl _) 2 (.int .i64 (s.out.length : Int))
    have a1 := cell_of_heap HA.out 2
    have a2 := frozen_of_heap HA.out 2
    simp at a1
    rw [hZ] at hbox hst
    have HZ := hid hZ
    clear hZ
    go_upto_region 8 with fail
    rw [HZ.out]
    clear HZ a1 a2
    have HBx := hid hbox
    have St := hid hst
    have b2 := cell_of_heap St.out.1.blk 2
    have e0 := cell_of_heap HBx.out 0
    have e1 := cell_of_heap HBx.out 1
    have e2 := cell_of_heap HBx.out 2
    have e3 := cell_of_heap HBx.out 3
    simp at b2 e0 e1 e2 e3
    have hPl : Mb < Z.heap.size := heap_lt St.out.1.blk
    have hxl : W.heap.size < Z.heap.size := heap_lt HBx.out
    have q0 : ∀ y : Later Z.heap.size Z, y.w.cell? ⟨Mb, 2, none⟩ = _ := fun y => y.cell hPl b2
    have p0 : ∀ y : Later Z.heap.size Z, y.w.cell? ⟨W.heap.size, 0, none⟩ = _ := fun y => y.cell hxl e0
    have p1 : ∀ y : Later Z.heap.size Z, y.w.cell? ⟨W.heap.size, 1, none⟩ = _ := fun y => y.cell hxl e1
    have p2 : ∀ y : Later Z.heap.size Z, y.w.cell? ⟨W.heap.size, 2, none⟩ = _ := fun y => y.cell hxl e2
    have p3 : ∀ y : Later Z.heap.size Z, y.w.cell? ⟨W.heap.size, 3, none⟩ = _ := fun y => y.cell hxl e3
    clear b2 e0 e1 e2 e3 hbox hst
    refine till_begin (c := 6) (S := fun w' => ∃ x : Later Z.heap.size Z, w' = x.w) (by kernel_rfl) ?_
    refine till_walk (by kernel_rfl) 6 0 _ _ (by kernel_rfl) (by kernel_rfl) ⟨⟨Z.drew, (Below.refl _ _).drew⟩, rfl⟩ ?_
    simp only [List.drop_zero, List.take_succ_cons, List.take_zero]
    repeat (go_big_quiet_step (fail))
    refine wpQuiet_nil ?_
    rintro w7 ⟨x1, rfl⟩
    have hL1 := x1.h
    clear q0 p0 p1 p2 p3
    generalize x1.w = X1 at *
    have S1 := hid (St.out.1.below hL1)
    have F1 := hid (St.out.2.trans (hL1.mono St.out.2.size))
    refine till_cut (v := .pointer (some ⟨g, fr * 4, none⟩)) (w1 := X1) rfl (by kernel_rfl) rfl (by simp [go_sem, hf0, hf1]) (by simp [go_sem]; exact rfl) ?_
    refine any_stage (fun _ => True) ?_
    have hg1 := own_type S1.out.orow (g := g) rfl
    have hd : ∀ j, j < 4 → X1.cell? ⟨g, fr * 4 + j, none⟩ = some ((s.out.getD fr default).cell j) := fun j hj => by
      rw [S1.out.orow.cellAt (fr * 4 + j) (by omega), rowZ_get In.cell 4 (by decide) s.out _ (by omega)]
      rw [show (fr * 4 + j) / 4 = fr by omega, show (fr * 4 + j) % 4 = j by omega]
    obtain ⟨-, cur, hcur⟩ := hg1
    have f0 := frozen_of_heap hcur (fr * 4)
    have f1 := frozen_of_heap hcur (fr * 4 + 1)
    have f2 := frozen_of_heap hcur (fr * 4 + 2)
    have f3 := frozen_of_heap hcur (fr * 4 + 3)
    have k0 := hd 0 (by omega)
    have k1 := hd 1 (by omega)
    have k2 := hd 2 (by omega)
    have k3 := hd 3 (by omega)
    rw [Nat.add_zero] at k0
    refine stage_skip (k := 7) rfl (w1 := quad X1 g fr ⟨op, a, s.out.length, c⟩) rfl (by kernel_rfl) rfl (by unfold quad; simp [go_sem, f0, f1, f2, f3, k0, k1, k2, k3]) trivial ?_
    refine stage_end (by kernel_rfl) ?_
    have HR := hid (HFin.out X1 1 S1.out F1.out)
    rw [lead_b] at HR
    clear f0 f1 f2 f3 k0 k1 k2 k3 hcur hd hL1 S1 F1 St HBx hPl hxl
    generalize quad X1 g fr ⟨op, a, s.out.length, c⟩ = Z2 at *
    go_wp2_with fail
    go_end0
    exact HR.out
  · subst hw
    obtain ⟨Z, hZ⟩ : ∃ Z, Y.setCell ⟨W.heap.size, 3, none⟩ (.int .i64 (s.out.length : Int)) = Z := ⟨_, rfl⟩
    have hbox := (box_set HA.out (.int .i64 (s.out.length : Int))).2.2
    have hst := HSt.out.box HB.out (Nat.le_refl _) 3 (.int .i64 (s.out.length : Int))
    have a1 := cell_of_heap HA.out 3
    have a2 := frozen_of_heap HA.out 3
    simp at a1
    rw [hZ] at hbox hst
    have HZ := hid hZ
    clear hZ
    go_upto_region 8 with fail
    rw [HZ.out]
    clear HZ a1 a2
    have HBx := hid hbox
    have St := hid hst
    have b2 := cell_of_heap St.out.1.blk 2
    have e0 := cell_of_heap HBx.out 0
    have e1 := cell_of_heap HBx.out 1
    have e2 := cell_of_heap HBx.out 2
    have e3 := cell_of_heap HBx.out 3
    simp at b2 e0 e1 e2 e3
    have hPl : Mb < Z.heap.size := heap_lt St.out.1.blk
    have hxl : W.heap.size < Z.heap.size := heap_lt HBx.out
    have q0 : ∀ y : Later Z.heap.size Z, y.w.cell? ⟨Mb, 2, none⟩ = _ := fun y => y.cell hPl b2
    have p0 : ∀ y : Later Z.heap.size Z, y.w.cell? ⟨W.heap.size, 0, none⟩ = _ := fun y => y.cell hxl e0
    have p1 : ∀ y : Later Z.heap.size Z, y.w.cell? ⟨W.heap.size, 1, none⟩ = _ := fun y => y.cell hxl e1
    have p2 : ∀ y : Later Z.heap.size Z, y.w.cell? ⟨W.heap.size, 2, none⟩ = _ := fun y => y.cell hxl e2
    have p3 : ∀ y : Later Z.heap.size Z, y.w.cell? ⟨W.heap.size, 3, none⟩ = _ := fun y => y.cell hxl e3
    clear b2 e0 e1 e2 e3 hbox hst
    refine till_begin (c := 6) (S := fun w' => ∃ x : Later Z.heap.size Z, w' = x.w) (by kernel_rfl) ?_
    refine till_walk (by kernel_rfl) 6 0 _ _ (by kernel_rfl) (by kernel_rfl) ⟨⟨Z.drew, (Below.refl _ _).drew⟩, rfl⟩ ?_
    simp only [List.drop_zero, List.take_succ_cons, List.take_zero]
    repeat (go_big_quiet_step (fail))
    refine wpQuiet_nil ?_
    rintro w7 ⟨x1, rfl⟩
    have hL1 := x1.h
    clear q0 p0 p1 p2 p3
    generalize x1.w = X1 at *
    have S1 := hid (St.out.1.below hL1)
    have F1 := hid (St.out.2.trans (hL1.mono St.out.2.size))
    refine till_cut (v := .pointer (some ⟨g, fr * 4, none⟩)) (w1 := X1) rfl (by kernel_rfl) rfl (by simp [go_sem, hf0, hf1]) (by simp [go_sem]; exact rfl) ?_
    refine any_stage (fun _ => True) ?_
    have hg1 := own_type S1.out.orow (g := g) rfl
    have hd : ∀ j, j < 4 → X1.cell? ⟨g, fr * 4 + j, none⟩ = some ((s.out.getD fr default).cell j) := fun j hj => by
      rw [S1.out.orow.cellAt (fr * 4 + j) (by omega), rowZ_get In.cell 4 (by decide) s.out _ (by omega)]
      rw [show (fr * 4 + j) / 4 = fr by omega, show (fr * 4 + j) % 4 = j by omega]
    obtain ⟨-, cur, hcur⟩ := hg1
    have f0 := frozen_of_heap hcur (fr * 4)
    have f1 := frozen_of_heap hcur (fr * 4 + 1)
    have f2 := frozen_of_heap hcur (fr * 4 + 2)
    have f3 := frozen_of_heap hcur (fr * 4 + 3)
    have k0 := hd 0 (by omega)
    have k1 := hd 1 (by omega)
    have k2 := hd 2 (by omega)
    have k3 := hd 3 (by omega)
    rw [Nat.add_zero] at k0
    refine stage_skip (k := 7) rfl (w1 := quad X1 g fr ⟨op, a, b, s.out.length⟩) rfl (by kernel_rfl) rfl (by unfold quad; simp [go_sem, f0, f1, f2, f3, k0, k1, k2, k3]) trivial ?_
    refine stage_end (by kernel_rfl) ?_
    have HR := hid (HFin.out X1 2 S1.out F1.out)
    rw [lead_c] at HR
    clear f0 f1 f2 f3 k0 k1 k2 k3 hcur hd hL1 S1 F1 St HBx hPl hxl
    generalize quad X1 g fr ⟨op, a, b, s.out.length⟩ = Z2 at *
    go_wp2_with fail
    go_end0
    exact HR.out

theorem lead_calls {W0 : World} {Mb : Nat} {ve vt : Value} {s : Cs} (fr wh : Nat) {W : World} (h : CmE W0 Mb ve vt s W) (hl : s.out.length ≤ 960000) (hfr : fr < s.out.length) (hwh : wh = 0 ∨ wh = 1 ∨ wh = 2) :
    Calls Tryd.prog 32 #[.pointer (some ⟨Mb, 0, none⟩), .int .i64 (fr : Int), .int .i64 (wh : Int)] W (LeadPost W0 Mb ve vt (s.lead fr wh) W) := (lead2_calls fr wh h hl hfr hwh).mono fun _ _ x => x.1

theorem later_cells (x0 x1 x2 x3 : Value) (h0 : x0.oneCell' = true) (h1 : x1.oneCell' = true) (h2 : x2.oneCell' = true) (h3 : x3.oneCell' = true) : ∀ u ∈ [x0, x1, x2, x3], u.oneCell' = true := fun u hu => by
  simp at hu
  rcases hu with rfl | rfl | rfl | rfl
  · exact h0
  · exact h1
  · exact h2
  · exact h3

set_option maxHeartbeats 2000000 in
set_option maxRecDepth 100000 in
theorem wait_calls {W0 : World} {Mb : Nat} {ve vt : Value} {s : Cs} (l : Lt) {v : Value} {W : World} (h : CmE W0 Mb ve vt s W) (hl : s.later.length ≤ 960000) (hn : NmT W v l.names) :
    Calls Tryd.prog 44 #[.pointer (some ⟨Mb, 0, none⟩), .int .i64 (l.t.at_ : Int), v, .int .i64 (l.fr : Int), .int .i64 (l.wh : Int)] W (LeadPost W0 Mb ve vt (s.wait l) W) := by
  obtain ⟨ls, vo, vl, h⟩ := h
  obtain ⟨adp, cpp, hvp⟩ := own_slice h.lrow
  subst hvp
  obtain ⟨adn, cpn, hvn⟩ := hn.is
  have hll : ls.length = s.later.length := by rw [← h.lfst, List.length_map]
  have hE := (MapKept.heap_alloc W (.cells #[.int .i64 (l.t.at_ : Int), v, .int .i64 (l.fr : Int), .int .i64 (l.wh : Int)] 71)).1
  have hB := (Below.refl W.heap.size W).alloc (Nat.le_refl _) (.cells #[.int .i64 (l.t.at_ : Int), v, .int .i64 (l.fr : Int), .int .i64 (l.wh : Int)] 71)
  have hone : v.oneCell' = true := by rw [hvn]; rfl
  have St2 := hid (h.below hB)
  have HN2 := hid (hn.frame (Cf.of_below hB))
  have HCf := hid (Cf.of_below hB)
  have HE := hid hE
  have HL := hid (And.intro hl hll)
  have HO := hid hone
  obtain ⟨i0, hi, hz0, hz1, hz2⟩ := info_parts info_later
  have d3 := cell_of_heap h.blk 3
  simp at d3
  have hcs : ∀ (j : Nat) (u : Value), [Value.int .i64 (l.t.at_ : Int), v, .int .i64 (l.fr : Int), .int .i64 (l.wh : Int)][j]? = some u → (W.alloc (.cells #[.int .i64 (l.t.at_ : Int), v, .int .i64 (l.fr : Int), .int .i64 (l.wh : Int)] 71)).cell? (Addr.add ⟨W.heap.size, 0, none⟩ j) = some u := fun j u hu => by
    rw [Addr.add_lit]
    match j, hu with
    | 0, hu => simp at hu; subst hu; exact cell_of_heap hE 0
    | 1, hu => simp at hu; subst hu; exact cell_of_heap hE 1
    | 2, hu => simp at hu; subst hu; exact cell_of_heap hE 2
    | 3, hu => simp at hu; subst hu; exact cell_of_heap hE 3
  have HCs := hid hcs
  have HOc := hid (later_cells (.int .i64 (l.t.at_ : Int)) v (.int .i64 (l.fr : Int)) (.int .i64 (l.wh : Int)) rfl hone rfl rfl)
  clear h hB hE hn hll hl hone hcs HO
  subst hvn
  go_enter Tryd.func44, Tryd.ntmps44
  go_wp2_with (at_builtin; refine wpList_append_own_at _ rfl _ _ 65 rfl W0.heap.size 71 i0 (.agg #[.int .i64 0, .slice none 0 0, .int .i64 0, .int .i64 0]) 4 48 Tryd.underlying65 hi hz0 hz1 hz2 rfl (by decide) _ _ _ rfl St2.out.lrow ⟨W.heap.size, 0, none⟩ 1 1 [.int .i64 (l.t.at_ : Int), .slice adn l.names.length cpn, .int .i64 (l.fr : Int), .int .i64 (l.wh : Int)] rfl rfl HCs.out HOc.out (by have := HL.out; unfold maxLen; omega) (by have := HL.out; omega) St2.out.size ?_; intro vp2 X3 hown hgrow hnil hat; obtain ⟨ad2, cp2, hv2⟩ := own_slice hown; subst hv2; have hnx := cm_wait St2.out l HN2.out hown hgrow; have hb3 := (hgrow.block Mb (heap_lt St2.out.blk) (row_ne St2.out.lrow St2.out.blk (by decide))).trans St2.out.blk; have w3 := frozen_of_heap hb3 3; have x3 := cell_of_heap hb3 3; simp at x3; have HNx := hid hnx.1; have HFr := hid (HCf.out.trans hnx.2); clear hown hgrow hnil hat hnx hb3)
  go_end0
  exact ⟨⟨_, rfl⟩, HNx.out, HFr.out⟩
end Go.Proofs.YtegjdgiegnofhaaDoor

/- Names put together, looked for; the place of a kid. -/
namespace Go.Proofs.YtegjdgiegnofhaaDoor
open Go.RowKit Go.Deep

theorem row_made (X : World) : (X.alloc (.cells #[] 9)).ownsRow X.heap.size 9 1 (.slice (some ⟨X.heap.size, 0, none⟩) 0 0) 0 (strRow []) := World.ownsRow_made X #[] 0 (Nat.le_refl _) (Nat.zero_le _) rfl

set_option maxHeartbeats 2000000 in
set_option maxRecDepth 100000 in
theorem withN_calls {v mv : Value} {ss ms : List ByteArray} (W : World) (h : NamesV W v ss) (hm : NamesV W mv ms) (hl : ss.length + ms.length ≤ 100000) :
    Calls Tryd.prog 45 #[v, mv] W fun e W' => ∃ u, e = .returned u ∧ NmT W' u (ss ++ ms) ∧ Below W.heap.size W W' := by
  have hb0 : Below W.heap.size W (W.alloc (.cells #[] 9)) := (Below.refl _ _).alloc (Nat.le_refl _) _
  obtain ⟨ad, cp, rfl⟩ := h.slice
  obtain ⟨adm, cpm, rfl⟩ := hm.slice
  have HV := hid (And.intro (h.below hb0) (And.intro hm (And.intro hl hb0)))
  clear h hm hl hb0
  go_enter Tryd.func45, Tryd.ntmps45
  go_wp2_with (first
    | (at_builtin; refine wpList_append_by rfl _ _ 61 rfl _ _ rfl rfl (fun ty => app_names ty (row_made W) HV.out.1 (by have := HV.out.2.2.1; simp; omega) (by simp)) ?_; rintro v5 w5 ⟨ho5, hg5, -⟩; have B5 : Hid (Below W.heap.size W w5) := HV.out.2.2.2.grown hg5 (by simp) (fun k hk => ((row_made W).lt k hk).1); have O5 := hid ho5; have M5 := hid (HV.out.2.1.below B5.out); clear ho5 hg5)
    | (at_builtin; refine wpList_append_by rfl _ _ 61 rfl _ _ rfl rfl (fun ty => app_names ty O5.out M5.out (by have := HV.out.2.2.1; simp; omega) B5.out.size) ?_; rintro v6 w6 ⟨ho6, hg6, -⟩; have B6 : Hid (Below W.heap.size W w6) := B5.out.grown hg6 B5.out.size (fun k hk => (O5.out.lt k hk).1); have O6 := hid ho6; clear ho6 hg6))
  go_ret
  exact ⟨_, rfl, nmT_owns O6.out, B6.out⟩

set_option maxHeartbeats 2000000 in
set_option maxRecDepth 100000 in
theorem index_calls {v : Value} {ss : List ByteArray} (x : ByteArray) (W : World) (h : NamesV W v ss) (hl : ss.length ≤ 100000) :
    Calls Tryd.prog 43 #[v, .string x] W fun e W' => e = .returned (.int .i64 (idxZ ss x)) ∧ W = W' := by
  obtain ⟨ad, cp, rfl⟩ := h.slice
  obtain ⟨L, hL⟩ : ∃ L, ss.length = L := ⟨_, rfl⟩
  have HV := hid h
  have HL := hid (And.intro hL hl)
  rw [hL] at HV ⊢
  obtain ⟨TG, hTG⟩ : ∃ TG, idxZ ss x = TG := ⟨_, rfl⟩
  have HTG : Hid (idxGo ss x L = TG) := by show _ = _; rw [← hL]; exact hTG
  rw [hTG]
  clear h hl hL hTG
  go_enter Tryd.func43, Tryd.ntmps43
  have HW1 : Hid (wrap64 ((L : Int) - 1) = (L : Int) - 1) := by show _ = _; have := HL.out; unfold wrap64; omega
  go_wp2_with fail
  rw [HW1.out]
  go_loopw [5] (fun i wr => ∃ (k : Nat) (z : Int), i = .int .i64 z ∧ z = (k : Int) - 1 ∧ k ≤ L ∧ Hid (idxGo ss x k = TG) ∧ wr = W) (fun i _ => (intOf i + 1).toNat)
  case atStart => exact ⟨L, _, rfl, rfl, Nat.le_refl _, HTG, rfl⟩
  case round =>
    obtain ⟨k, z, rfl, hz, hk, HI, rfl⟩ := hrel
    cases k with
    | zero =>
      have hzn : ¬ ((0 : Int) ≤ z) := by omega
      have HE : Hid (TG = -1) := by show _ = _; rw [← HI.out]; rfl
      clear hz
      go_wp2_with fail
      go_ret
      rw [HE.out]
      exact ⟨rfl, rfl⟩
    | succ k =>
      have hzk : z = (k : Int) := by omega
      subst hzk
      clear hz
      obtain ⟨-, g, o, rfl, hg, hc⟩ := HV.out.cell (by omega : 0 < L)
      have hcell := hc k (by omega)
      have HI2 : Hid ((if ((ss.getD k ⟨#[]⟩).toList == x.toList) = true then ((ss.length - 1 - k : Nat) : Int) else idxGo ss x k) = TG) := HI
      obtain ⟨y, hy⟩ : ∃ y, ss.getD k ⟨#[]⟩ = y := ⟨_, rfl⟩
      rw [hy] at hcell HI2
      have hk0 : (0 : Int) ≤ (k : Int) := by omega
      have hkL : (k : Int) < (L : Int) := by omega
      clear hc hy HI
      cases heq : (y.toList == x.toList) with
      | true =>
        rw [heq, if_pos rfl] at HI2
        have HW2 : Hid (wrap64 (wrap64 ((L : Int) - 1) - (k : Int)) = TG) := by show _ = _; rw [HW1.out, ← HI2.out]; have := HL.out; unfold wrap64; omega
        go_wp2_with fail
        go_ret
        rw [HW2.out]
        exact ⟨rfl, rfl⟩
      | false =>
        rw [heq, if_neg (by decide)] at HI2
        have HW2 : Hid (wrap64 ((k : Int) - 1) = (k : Int) - 1) := by show _ = _; have := HL.out; unfold wrap64; omega
        go_wp2_with fail
        rw [HW2.out]
        exact ⟨⟨k, _, rfl, rfl, by omega, HI2, trivial⟩, by simp only [intOf]; omega⟩

/- Where a kid stands. -/
theorem kidsAt_first (f : Fo) (p : Nat) (h : 0 < f.count) : ((kidsAt f p).getD 0 default).at_ = p := by
  cases f with
  | none => simp [Fo.count] at h
  | tree n k r => rfl

theorem kidsAt_next : ∀ (f : Fo) (p i : Nat), i + 1 < f.count → ((kidsAt f p).getD (i + 1) default).at_ = ((kidsAt f p).getD i default).at_ + 1 + ((kidsAt f p).getD i default).k.flat.length
  | .none, p, i, h => by simp [Fo.count] at h
  | .tree n k r, p, 0, h => by
    have h1 := kidsAt_first r (p + 1 + k.flat.length) (by simp only [Fo.count] at h; omega)
    simp only [kidsAt, List.getD_cons_succ, List.getD_cons_zero]
    exact h1
  | .tree n k r, p, i + 1, h => by
    have h1 := kidsAt_next r (p + 1 + k.flat.length) i (by simp only [Fo.count] at h; omega)
    simp only [kidsAt, List.getD_cons_succ]
    exact h1

theorem Stands.end {ns : List Nd} {t : Tp} (h : Stands ns t) : treeEnd ns (t.at_ : Int) = ((t.at_ + 1 + t.k.flat.length : Nat) : Int) := by
  obtain ⟨suf, hd⟩ := h.drop
  exact treeEnd_at hd h.kids h.good.wf

theorem Stands.first {ns : List Nd} {t : Tp} (_h : Stands ns t) (h0 : 0 < t.k.count) : (t.kid 0).at_ = t.at_ + 1 := kidsAt_first t.k _ h0
theorem Stands.next {ns : List Nd} {t : Tp} (h : Stands ns t) {i : Nat} (hi : i + 1 < t.k.count) : treeEnd ns ((t.kid i).at_ : Int) = ((t.kid (i + 1)).at_ : Int) := by
  rw [(h.kid (by omega)).end]
  exact congrArg _ (kidsAt_next t.k _ i hi).symm

theorem Stands.lt {ns : List Nd} {t : Tp} (h : Stands ns t) : t.at_ < ns.length ∧ ns.getD t.at_ default = t.n ∧ t.at_ + t.size ≤ ns.length := by
  obtain ⟨suf, hd⟩ := h.drop
  have hl := congrArg List.length hd
  simp only [List.length_drop, List.length_cons, List.length_append] at hl
  refine ⟨by omega, ?_, by unfold Tp.size; omega⟩
  have : ns.getD t.at_ default = (ns.drop t.at_).getD 0 default := by simp [List.getD, List.getElem?_drop]
  rw [this, hd]
  rfl

set_option maxHeartbeats 2000000 in
set_option maxRecDepth 100000 in
theorem kid_calls {b off cap : Nat} {ns : List Nd} {t : Tp} (i : Nat) (W : World) (hn : NodesAt W b off ns) (hm : ns.length ≤ 300) (h : Stands ns t) (hi : i < t.k.count) :
    Calls Tryd.prog 47 #[.slice (some ⟨b, off, none⟩) ns.length cap, .int .i64 (t.at_ : Int), .int .i64 (i : Int)] W fun e W' => e = .returned (.int .i64 ((t.kid i).at_ : Int)) ∧ W = W' := by
  have HE := hid (fun (at_ : Int) => specEnd_calls b off cap ns at_ W hn (by omega))
  have HS := hid (And.intro h (And.intro hi hm))
  have hlt := h.lt.1
  have HW : Hid (wrap64 ((t.at_ : Int) + 1) = ((t.kid 0).at_ : Int)) := by
    show _ = _
    rw [h.first (by omega)]
    unfold wrap64
    omega
  have HI : Hid (i ≤ 300) := by
    show _ ≤ _
    have h1 := t.kids_len
    have h2 := Fo.count_le t.k
    have h3 := h.lt.2.2
    unfold Tp.size at h3
    omega
  clear hn hm h hi hlt
  generalize ns.length = len at *
  generalize t.at_ = p at *
  go_enter Tryd.func47, Tryd.ntmps47
  go_wp2_with fail
  rw [HW.out]
  go_loopw [1, 7] (fun at_ j wr => ∃ (k : Nat), k ≤ i ∧ at_ = .int .i64 ((t.kid k).at_ : Int) ∧ j = .int .i64 (k : Int) ∧ wr = W) (fun _ j _ => i - (intOf j).toNat)
  case atStart => exact ⟨0, Nat.zero_le _, rfl, rfl, rfl⟩
  case round =>
    obtain ⟨k, hk, rfl, rfl, rfl⟩ := hrel
    by_cases hki : (k : Int) < (i : Int)
    · have hnx := HS.out.1.next (i := k) (by have := HS.out.2.1; omega)
      have HC := hid (HE.out ((t.kid k).at_ : Int))
      rw [hnx] at HC
      have hstep : i - (intOf (.int .i64 ((k + 1 : Nat) : Int))).toNat < i - (intOf (.int .i64 (k : Int))).toNat := by simp only [intOf, Int.toNat_natCast]; omega
      clear hnx
      go_wp2_with fail
      refine HC.out.mono ?_
      rintro e W1 ⟨rfl, rfl⟩
      go_wp2_with fail
      try rw [wrap_succ (by have := HI.out; omega)]
      exact ⟨⟨k + 1, by omega, rfl, rfl, trivial⟩, hstep⟩
    · have e : k = i := by omega
      subst e
      go_wp2_with fail
      go_ret
      exact ⟨rfl, rfl⟩
end Go.Proofs.YtegjdgiegnofhaaDoor
