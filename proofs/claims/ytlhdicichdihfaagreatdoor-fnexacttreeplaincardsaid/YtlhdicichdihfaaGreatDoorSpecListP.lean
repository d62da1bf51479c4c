/- A region in stages, more: what only reads may be taken first wherever it stands in the text; then each that makes something is alone ready. -/
import Derived.Test.YtlhdicichdihfaaGreatDoorStagesN
import Derived.Test.YtlhdicichdihfaaGreatDoorNameEnd
import Derived.Test.YtlhdicichdihfaaGreatDoorKeyWalks
import Derived.Sort.Walk0
namespace Go.Proofs.YtlhdicichdihfaaGreatDoor
open Go.RowKit
section
variable {P : Program} {l0 : List Oper} {Q : Exit → Act → World → Prop} {S : World → Prop}

theorem pick_begin {id n : Nat} {ls : Array Bool} {a : Act} {w : World} (hm : P.follows .mixedOrders = true) (hn : l0.length = n) (hl : Array.replicate l0.length false = ls) (h : wpAnyH P .any l0.toArray (NoPanic Q) S n ls a w.drew) : (Code.region id l0.toArray true).wp P Q a w := by
  refine wp_region_noPanic (wp_region_held (S := S) hm ?_)
  subst hn
  subst hl
  simpa using h

/-- One that only reads. -/
theorem pick_op {i n : Nat} {o : Oper} {v : Value} {ls ls' : Array Bool} {a a' : Act} {w : World} (hs : Region.noSelect l0.toArray = true) (ho : l0[i]? = some o) (hf : Region.free .any l0.toArray ls i = true) (hr : (Region.ready .any l0.toArray ls).contains i = true) (hl : ls.setIfInBounds i true = ls')
    (hw : Region.wanted o (yielded l0.toArray a.tmps) = true) (hy : ∀ w', S w' → (execOp a.eval o).run P w' = .ok (.value v) w') (hS : S w) (hput : a.put o.dst v = a') (h : wpAnyH P .any l0.toArray (NoPanic Q) S n ls' a' w) : wpAnyH P .any l0.toArray (NoPanic Q) S (n + 1) ls a w := by
  subst hl
  subst hput
  exact wpAnyH_take (v := v) (by simpa using ho) hs hf hr (fun c a w h => h) (Or.inl ⟨hw, hy⟩) hS h

/-- One that is alone ready, and makes something or not. -/
theorem pick_make {i n : Nat} {o : Oper} {v : Value} {ls ls' : Array Bool} {a a' : Act} {w w1 : World} (ho : l0[i]? = some o) (hr : (Region.ready .any l0.toArray ls == [i]) = true) (hl : ls.setIfInBounds i true = ls')
    (hw : Region.wanted o (yielded l0.toArray a.tmps) = true) (hrun : (execOp a.eval o).run P w = .ok (.value v) w1) (hS : S w1) (hput : a.put o.dst v = a') (h : wpAnyH P .any l0.toArray (NoPanic Q) S n ls' a' w1) : wpAnyH P .any l0.toArray (NoPanic Q) S (n + 1) ls a w := by
  subst hl
  subst hput
  have ho' : l0.toArray[i]? = some o := by simpa using ho
  refine wpAnyH_all (rs := [i]) (by simpa using hr) (by simp) (fun j hj => ?_)
  rw [List.mem_singleton] at hj
  subst hj
  unfold wpOp
  rw [ho']
  dsimp only
  rw [if_pos hw]
  refine Or.inl ?_
  unfold Oper.wp
  rw [hrun]
  exact ⟨hS, h⟩

/-- A call that is alone ready. -/
theorem pick_enter {i n : Nat} {o : Oper} {f : FuncId} {args : Array Value} {ls ls' : Array Bool} {a : Act} {w : World} (ho : l0[i]? = some o) (hr : (Region.ready .any l0.toArray ls == [i]) = true) (hl : ls.setIfInBounds i true = ls') (hw : Region.wanted o (yielded l0.toArray a.tmps) = true)
    (hrun : (execOp a.eval o).run P w = .ok (.enter f args) w) (h : Calls P f args w fun e w' => ∃ v, e = .returned v ∧ S w' ∧ wpAnyH P .any l0.toArray (NoPanic Q) S n ls' (a.put o.dst v) w') : wpAnyH P .any l0.toArray (NoPanic Q) S (n + 1) ls a w := by
  subst hl
  have ho' : l0.toArray[i]? = some o := by simpa using ho
  refine wpAnyH_all (rs := [i]) (by simpa using hr) (by simp) (fun j hj => ?_)
  rw [List.mem_singleton] at hj
  subst hj
  unfold wpOp
  rw [ho']
  dsimp only
  rw [if_pos hw]
  refine Or.inl ?_
  unfold Oper.wp
  rw [hrun]
  refine Calls.mono h ?_
  rintro e w3 ⟨v, rfl, hS, hn⟩
  exact ⟨hS, hn⟩

/-- One of two that are ready, each of which makes something. -/
def PickMk (P : Program) (l0 : List Oper) (Q : Exit → Act → World → Prop) (S : World → Prop) (n : Nat) (ls : Array Bool) (a : Act) (w : World) (i : Nat) : Prop :=
  ∃ o v w1, l0[i]? = some o ∧ Region.wanted o (yielded l0.toArray a.tmps) = true ∧ (execOp a.eval o).run P w = .ok (.value v) w1 ∧ S w1 ∧ wpAnyH P .any l0.toArray (NoPanic Q) S n (ls.setIfInBounds i true) (a.put o.dst v) w1

theorem pick_fork {i j n : Nat} {ls : Array Bool} {a : Act} {w : World} (hr : (Region.ready .any l0.toArray ls == [i, j]) = true) (h1 : PickMk P l0 Q S n ls a w i) (h2 : PickMk P l0 Q S n ls a w j) : wpAnyH P .any l0.toArray (NoPanic Q) S (n + 1) ls a w := by
  refine wpAnyH_all (rs := [i, j]) (by simpa using hr) (by simp) (fun k hk => ?_)
  have hk' : PickMk P l0 Q S n ls a w k := by
    simp only [List.mem_cons, List.not_mem_nil, or_false] at hk
    rcases hk with rfl | rfl
    · exact h1
    · exact h2
  obtain ⟨o, v, w1, ho, hw, hrun, hS, h⟩ := hk'
  have ho' : l0.toArray[k]? = some o := by simpa using ho
  unfold wpOp
  rw [ho']
  dsimp only
  rw [if_pos hw]
  refine Or.inl ?_
  unfold Oper.wp
  rw [hrun]
  exact ⟨hS, h⟩

/-- The frame, written out. -/
theorem pick_frame {n : Nat} {ls : Array Bool} {a a' : Act} {w : World} (ha : a = a') (h : wpAnyH P .any l0.toArray (NoPanic Q) S n ls a' w) : wpAnyH P .any l0.toArray (NoPanic Q) S n ls a w := by
  subst ha
  exact h

theorem pick_end {n : Nat} {ls : Array Bool} {a : Act} {w : World} (hr : (Region.ready .any l0.toArray ls).isEmpty = true) (h : Q .normal a w) : wpAnyH P .any l0.toArray (NoPanic Q) S n ls a w :=
  wpAnyH_done (Q := NoPanic Q) (by simpa using hr) (NoPanic.normal h) _
end
end Go.Proofs.YtlhdicichdihfaaGreatDoor

/- Lists of names, as the specification handles them. -/
namespace Go.Proofs.YtlhdicichdihfaaGreatDoor
open Go.RowKit Go.Deep

/-- A slice of names. -/
def NamesV (W : World) (v : Value) (ss : List ByteArray) : Prop :=
  (v = .slice none 0 0 ∧ ss = []) ∨ ∃ g o c, v = .slice (some ⟨g, o, none⟩) ss.length c ∧ g < W.heap.size ∧ ∀ j, j < ss.length → W.cell? ⟨g, o + j, none⟩ = some (.string (ss.getD j ⟨#[]⟩))

theorem names_none (W : World) : NamesV W (.slice none 0 0) [] := Or.inl ⟨rfl, rfl⟩

theorem NamesV.below {W W' : World} {v : Value} {ss : List ByteArray} (h : NamesV W v ss) (hb : Below W.heap.size W W') : NamesV W' v ss := by
  rcases h with h | ⟨g, o, c, e, hg, hc⟩
  · exact Or.inl h
  · exact Or.inr ⟨g, o, c, e, Nat.lt_of_lt_of_le hg hb.size, fun j hj => (hb.cell (p := ⟨g, o + j, none⟩) hg).trans (hc j hj)⟩

theorem NamesV.slice {W : World} {v : Value} {ss : List ByteArray} (h : NamesV W v ss) : ∃ ad c, v = .slice ad ss.length c := by
  rcases h with ⟨rfl, rfl⟩ | ⟨g, o, c, rfl, -⟩
  · exact ⟨none, 0, rfl⟩
  · exact ⟨_, _, rfl⟩

theorem NamesV.cell {W : World} {ad : Option Addr} {n c : Nat} {ss : List ByteArray} (h : NamesV W (.slice ad n c) ss) (hn : 0 < n) : n = ss.length ∧ ∃ g o, ad = some ⟨g, o, none⟩ ∧ g < W.heap.size ∧ ∀ j, j < n → W.cell? ⟨g, o + j, none⟩ = some (.string (ss.getD j ⟨#[]⟩)) := by
  rcases h with ⟨e, -⟩ | ⟨g, o, c', e, hg, hc⟩
  · cases e; omega
  · cases e
    exact ⟨rfl, g, o, rfl, hg, hc⟩

theorem strRow_len (ss : List ByteArray) : (strRow ss).length = ss.length := by unfold strRow; simp

theorem strRow_get (ss : List ByteArray) (j : Nat) (h : j < ss.length) : (strRow ss)[j]? = some (.string (ss.getD j ⟨#[]⟩)) := by
  unfold strRow
  simp [List.getD, h]

theorem names_owns {W : World} {B : Nat} {v : Value} {n : Nat} {ss : List ByteArray} (h : W.ownsRow B 9 1 v n (strRow ss)) : NamesV W v ss ∧ n = ss.length := by
  have hl : n = ss.length := by have := h.1; rw [strRow_len] at this; omega
  subst hl
  refine ⟨?_, rfl⟩
  have h' := h
  obtain ⟨-, ⟨rfl, h0⟩ | ⟨g, cap, cur, rfl, hB, hc, hr⟩⟩ := h
  · exact Or.inl ⟨rfl, List.eq_nil_of_length_eq_zero h0⟩
  · refine Or.inr ⟨g, 0, cap, rfl, heap_lt hc, fun j hj => ?_⟩
    rw [Nat.zero_add, h'.cellAt j (by omega), strRow_get ss j hj]

theorem names_lit (w : World) (o1 : Obj) (ss : List ByteArray) : NamesV ((w.alloc o1).alloc (.cells (strRow ss).toArray 9)) (.slice (some ⟨w.heap.size + 1, 0, none⟩) ss.length ss.length) ss := by
  have hh := (MapKept.heap_alloc (w.alloc o1) (.cells (strRow ss).toArray 9)).1
  rw [show (w.alloc o1).heap.size = w.heap.size + 1 by simp] at hh
  refine Or.inr ⟨_, 0, _, rfl, heap_lt hh, fun j hj => ?_⟩
  rw [Nat.zero_add, cell_of_heap hh j]
  simp only [List.getElem?_toArray]
  exact strRow_get ss j hj

/-- Names appended to a row of one's own. -/
theorem app_names {W : World} {B : Nat} {v xv : Value} {n : Nat} {ss ys : List ByteArray} (ty : TypeId) (hown : W.ownsRow B 9 1 v n (strRow ss)) (hx : NamesV W xv ys) (hm : ss.length + ys.length ≤ 200000) (hB : B ≤ W.heap.size) :
    ∃ v' W', (Builtin.append_ #[30, 30] ty #[v, xv]).run Tryz.prog W = .ok v' W' ∧ W'.ownsRow B 9 1 v' (ss ++ ys).length (strRow (ss ++ ys)) ∧ W.grownBy W' v.ownBlock ∧ (v'.ownBlock = v.ownBlock ∨ v'.ownBlock = some W.heap.size) := by
  obtain ⟨i0, hi, hz0, hz1, hz2⟩ := info_parts info_str
  have hn : n = ss.length := (names_owns hown).2
  subst hn
  rcases hx with ⟨rfl, rfl⟩ | ⟨g, o, c, rfl, hg, hc⟩
  · refine ⟨v, W, run_append_owned_none W B 30 ty 9 i0 1 Tryz.underlying30 hi v _ _ hown, ?_, ⟨rfl, rfl, rfl, Nat.le_refl _, fun _ _ _ => rfl⟩, Or.inl rfl⟩
    rw [List.append_nil]
    exact hown
  · obtain ⟨v', W', hr, h2, h3, -, h5⟩ := run_append_own_at (P := Tryz.prog) W B 30 ty 9 i0 _ 1 16 Tryz.underlying30 hi hz0 hz1 hz2 rfl (by decide) v ss.length (strRow ss) hown ⟨g, o, none⟩ ys.length c (strRow ys) (by rw [strRow_len]; omega)
      (fun j u hu => by
        have hj : j < ys.length := by
          have := (List.getElem?_eq_some_iff.1 hu).1
          rwa [strRow_len] at this
        rw [strRow_get ys j hj] at hu
        cases hu
        rw [Addr.add_lit]
        exact hc j hj)
      (fun u hu => by unfold strRow at hu; rw [List.mem_map] at hu; obtain ⟨x, -, rfl⟩ := hu; rfl) (by unfold maxLen; omega) (by omega) hB
    refine ⟨v', W', hr, ?_, h3, h5⟩
    rw [List.length_append]
    have e : strRow (ss ++ ys) = strRow ss ++ strRow ys := by unfold strRow; rw [List.map_append]
    rw [e]
    exact h2

set_option maxHeartbeats 2000000 in
set_option maxRecDepth 100000 in
theorem binds_calls (n : Nd) (i : Nat) (w : World) (hk2 : n.kind = 9 → i < 2) :
    Calls Tryz.prog 36 #[ndV n, .int .i64 (i : Int)] w fun e w' => ∃ sv, e = .returned sv ∧ NamesV w' sv (knownZ n i) ∧ Below w.heap.size w w' := by
  obtain ⟨kd, num, a, b, c, kids⟩ := n
  have h1 : ∀ i : Nat, ((i : Int) = 1) ↔ (i = 1) := fun i => by omega
  have h2 : ∀ i : Nat, ((i : Int) = 2) ↔ (i = 2) := fun i => by omega
  unfold ndV
  dsimp only at hk2 ⊢
  go_enter Tryz.func36, Tryz.ntmps36
  by_cases k6 : kd = 6
  · have hz : knownZ ⟨kd, num, a, b, c, kids⟩ i = [a] := by unfold knownZ; rw [if_pos (Or.inl k6)]
    rw [hz]
    subst k6
    go_wp2_with fail
    go_ret
    exact ⟨_, rfl, names_lit w _ [a], below_two w _ _⟩
  by_cases k25 : kd = 25
  · have hz : knownZ ⟨kd, num, a, b, c, kids⟩ i = [a] := by unfold knownZ; rw [if_pos (Or.inr k25)]
    rw [hz]
    subst k25
    go_wp2_with fail
    go_ret
    exact ⟨_, rfl, names_lit w _ [a], below_two w _ _⟩
  by_cases k8 : kd = 8
  · subst k8
    by_cases i1 : (i : Int) = 1
    · have hz : knownZ ⟨8, num, a, b, c, kids⟩ i = [a] := by unfold knownZ; rw [if_neg (by dsimp only; decide), if_pos (Or.inl ⟨rfl, (h1 i).1 i1⟩)]
      rw [hz]
      go_wp2_with fail
      go_ret
      exact ⟨_, rfl, names_lit w _ [a], below_two w _ _⟩
    · have hz : knownZ ⟨8, num, a, b, c, kids⟩ i = [] := by
        unfold knownZ
        rw [if_neg (by dsimp only; decide), if_neg (by rintro (⟨-, h⟩ | ⟨h, -⟩); exact i1 ((h1 i).2 h); cases h), if_neg (by rintro (h | ⟨h, -⟩) <;> cases h), if_neg (by dsimp only; decide)]
      rw [hz]
      go_wp2_with fail
      go_ret
      exact ⟨_, rfl, names_none _, one_new' w _⟩
  by_cases k9 : kd = 9
  · subst k9
    by_cases i1 : (i : Int) = 0
    · have hz : knownZ ⟨9, num, a, b, c, kids⟩ i = [a, b] := by
        unfold knownZ
        rw [if_neg (by dsimp only; decide), if_neg (by rintro (⟨h, -⟩ | ⟨-, h⟩); cases h; omega), if_pos (Or.inl rfl)]
      rw [hz]
      go_wp2_with fail
      go_ret
      exact ⟨_, rfl, names_lit w _ [a, b], below_two w _ _⟩
    · have i1' : i = 1 := by
        have := hk2 rfl
        omega
      have hz : knownZ ⟨9, num, a, b, c, kids⟩ i = [a] := by unfold knownZ; rw [if_neg (by dsimp only; decide), if_pos (Or.inr ⟨rfl, i1'⟩)]
      rw [hz]
      go_wp2_with fail
      go_ret
      exact ⟨_, rfl, names_lit w _ [a], below_two w _ _⟩
  by_cases k20 : kd = 20
  · subst k20
    by_cases i2 : (i : Int) = 2
    · have hz : knownZ ⟨20, num, a, b, c, kids⟩ i = [a, b] := by
        unfold knownZ
        rw [if_neg (by dsimp only; decide), if_neg (by rintro (⟨h, -⟩ | ⟨h, -⟩) <;> cases h), if_pos (Or.inr ⟨rfl, (h2 i).1 i2⟩)]
      rw [hz]
      go_wp2_with fail
      go_ret
      exact ⟨_, rfl, names_lit w _ [a, b], below_two w _ _⟩
    · have hz : knownZ ⟨20, num, a, b, c, kids⟩ i = [] := by
        unfold knownZ
        rw [if_neg (by dsimp only; decide), if_neg (by rintro (⟨h, -⟩ | ⟨h, -⟩) <;> cases h), if_neg (by rintro (h | ⟨-, h⟩); cases h; exact i2 ((h2 i).2 h)), if_neg (by dsimp only; decide)]
      rw [hz]
      go_wp2_with fail
      go_ret
      exact ⟨_, rfl, names_none _, one_new' w _⟩
  by_cases k26 : kd = 26
  · subst k26
    have hz : knownZ ⟨26, num, a, b, c, kids⟩ i = [b, c] := by
      unfold knownZ
      rw [if_neg (by dsimp only; decide), if_neg (by rintro (⟨h, -⟩ | ⟨h, -⟩) <;> cases h), if_neg (by rintro (h | ⟨h, -⟩) <;> cases h), if_pos rfl]
    rw [hz]
    go_wp2_with fail
    go_ret
    exact ⟨_, rfl, names_lit w _ [b, c], below_two w _ _⟩
  · have hz : knownZ ⟨kd, num, a, b, c, kids⟩ i = [] := by
      unfold knownZ
      rw [if_neg (by rintro (h | h); exact k6 h; exact k25 h), if_neg (by rintro (⟨h, -⟩ | ⟨h, -⟩); exact k8 h; exact k9 h), if_neg (by rintro (h | ⟨h, -⟩); exact k9 h; exact k20 h), if_neg k26]
    rw [hz]
    have b6 : (kd == 6) = false := beq_eq_false_iff_ne.2 k6
    have b25 : (kd == 25) = false := beq_eq_false_iff_ne.2 k25
    have b8 : (kd == 8) = false := beq_eq_false_iff_ne.2 k8
    have b9 : (kd == 9) = false := beq_eq_false_iff_ne.2 k9
    have b20 : (kd == 20) = false := beq_eq_false_iff_ne.2 k20
    have b26 : (kd == 26) = false := beq_eq_false_iff_ne.2 k26
    clear hz h1 h2
    go_wp2_with fail
    go_ret
    exact ⟨_, rfl, names_none _, one_new' w _⟩
end Go.Proofs.YtlhdicichdihfaaGreatDoor

/- A name in a list, and a name put into a list where it belongs, as the specification does it. -/
namespace Go.Proofs.YtlhdicichdihfaaGreatDoor
open Go.RowKit Go.Deep

def bys (l : List Tx) : List ByteArray := l.map fun x => ⟨x.toArray⟩

theorem bys_len (l : List Tx) : (bys l).length = l.length := by unfold bys; simp

theorem bys_get (l : List Tx) (j : Nat) (h : j < l.length) : (bys l).getD j ⟨#[]⟩ = ⟨(l.getD j []).toArray⟩ := by
  unfold bys
  simp [List.getD, h]

/-- The list with the name put in, as a loop puts it. -/
def addGo (s : Tx) : List Tx → Bool → List Tx → List Tx
  | [], pt, acc => if pt then acc else acc ++ [s]
  | y :: r, pt, acc => if pt = false ∧ s < y then addGo s r true (acc ++ [s] ++ [y]) else addGo s r pt (acc ++ [y])

theorem addGo_true (s : Tx) : ∀ (l acc : List Tx), addGo s l true acc = acc ++ l
  | [], acc => by simp [addGo]
  | y :: r, acc => by simp [addGo, addGo_true s r]

theorem addGo_false (s : Tx) : ∀ (l acc : List Tx), addGo s l false acc = acc ++ insL l s
  | [], acc => by simp [addGo, insL]
  | y :: r, acc => by
    unfold addGo insL
    by_cases h : s < y
    · rw [if_pos ⟨rfl, h⟩, if_pos h, addGo_true]
      simp
    · rw [if_neg (fun x => h x.2), if_neg h, addGo_false s r]
      simp

def memB (ss : List ByteArray) (s : ByteArray) : Bool := ss.any fun x => x.toList == s.toList

theorem memB_iff (ss : List ByteArray) (s : ByteArray) : memB ss s = true ↔ s ∈ ss := by
  unfold memB
  rw [List.any_eq_true]
  constructor
  · rintro ⟨x, hx, h⟩
    rw [str_eq, decide_eq_true_eq] at h
    rwa [← h]
  · intro h
    exact ⟨s, h, by rw [str_eq, decide_eq_true_eq]⟩

set_option maxRecDepth 100000 in
theorem in_none (s : ByteArray) (w : World) : Calls Tryz.prog 46 #[.slice none 0 0, .string s] w fun e w' => e = .returned (.bool false) ∧ w' = w := by
  go_enter Tryz.func46, Tryz.ntmps46
  go_wp2_with fail
  refine wp_loop_rounds 1 ?_
  rw [rounds_succ]
  go_wp2_with fail
  go_ret
  exact ⟨rfl, rfl⟩

theorem in_any {v : Value} {ss : List ByteArray} (s : ByteArray) (w : World) (h : NamesV w v ss) (hl : ss.length ≤ 1000000) : Calls Tryz.prog 46 #[v, .string s] w fun e w' => e = .returned (.bool (memB ss s)) ∧ w' = w := by
  rcases h with ⟨rfl, rfl⟩ | ⟨g, o, c, rfl, hg, hc⟩
  · exact in_none s w
  · refine (in_calls g o ss.length c ss s w (Nat.le_refl _) hl hc).mono ?_
    rintro e w' ⟨rfl, rfl⟩
    rw [List.take_length]
    exact ⟨rfl, rfl⟩

theorem add_step {w wr W' : World} {out v' : Value} {acc : List Tx} {y : Tx} {yb : ByteArray} {o : Obj} (hy : (⟨y.toArray⟩ : ByteArray) = yb) (h : wr.ownsRow w.heap.size 9 1 out acc.length (strRow (bys acc)) ∧ Below w.heap.size w wr) (hown : W'.ownsRow w.heap.size 9 1 v' (acc.length + 1) (strRow (bys acc) ++ [.string yb])) (hg : (wr.alloc o).grownBy W' out.ownBlock) :
    W'.ownsRow w.heap.size 9 1 v' (acc ++ [y]).length (strRow (bys (acc ++ [y]))) ∧ Below w.heap.size w W' := by
  subst hy
  have hs := h.2.size
  refine ⟨?_, Below.grown (h.2.alloc (by omega) _) hg (by simp; omega) (fun j hj => (h.1.lt _ hj).1)⟩
  rw [List.length_append, show bys (acc ++ [y]) = bys acc ++ [⟨y.toArray⟩] by unfold bys; rw [List.map_append]; rfl, strRow_snoc]
  exact hown

theorem bytes_back (s : ByteArray) : (⟨s.data.toList.toArray⟩ : ByteArray) = s := rfl

set_option maxHeartbeats 4000000 in
set_option maxRecDepth 100000 in
theorem add_calls {v : Value} {l : List Tx} (s : ByteArray) (w : World) (hv : NamesV w v (bys l)) (hl : l.length ≤ 90000) :
    Calls Tryz.prog 47 #[v, .string s] w fun e w' => ∃ u, e = .returned u ∧ NamesV w' u (bys (addL l s.data.toList)) ∧ Below w.heap.size w w' := by
  obtain ⟨ad, cp, rfl⟩ := hv.slice
  rw [bys_len] at hv ⊢
  obtain ⟨L, hL⟩ : ∃ L, l.length = L := ⟨_, rfl⟩
  have HV := hid hv
  have HL := hid (And.intro hL hl)
  rw [hL] at HV ⊢
  clear hv hl hL
  obtain ⟨i0, hinf, hz0, hz1, hz2⟩ := info_parts info_str
  go_enter Tryz.func47, Tryz.ntmps47
  go_wp2_with fail
  go_loopw [5, 6, 7] (fun out put i wr => ∃ (i' : Nat) (pt : Bool) (acc : List Tx), i = .int .i64 i' ∧ put = .bool pt ∧ i' ≤ L ∧ Hid (wr.ownsRow w.heap.size 9 1 out acc.length (strRow (bys acc)) ∧ Below w.heap.size w wr) ∧ Hid (s.data.toList ∉ l.take i' ∧ addGo s.data.toList (l.drop i') pt acc = insL l s.data.toList ∧ acc.length ≤ i' + pt.toNat)) (fun _ _ i _ => L - (intOf i).toNat)
  case atStart => exact ⟨0, false, [], rfl, rfl, Nat.zero_le _, ⟨World.ownsRow_nil _ _ _ _, Below.refl _ _⟩, ⟨by simp, by rw [List.drop_zero, addGo_false]; rfl, Nat.zero_le _⟩⟩
  case round =>
    obtain ⟨i', pt, acc, rfl, rfl, hle, HO, HA⟩ := hrel
    by_cases hi : (i' : Int) < (L : Int)
    · have hcx := HV.out.cell (by omega : 0 < L)
      obtain ⟨-, g, o, rfl, hg, hc⟩ := hcx
      have hcell := (HO.out.2.cell (p := ⟨g, o + i', none⟩) hg).trans (hc i' (by omega))
      have hil : i' < l.length := by have := HL.out.1; omega
      rw [bys_get l i' hil] at hcell
      obtain ⟨y, hy⟩ : ∃ y, l.getD i' [] = y := ⟨_, rfl⟩
      rw [hy] at hcell
      have hyd : l.drop i' = y :: l.drop (i' + 1) := by rw [List.drop_eq_getElem_cons hil, ← hy]; simp [List.getD, hil]
      have hyt : l.take (i' + 1) = l.take i' ++ [y] := by rw [List.take_add_one, ← hy]; simp [List.getD, hil]
      have HY := hid (And.intro hyd hyt)
      obtain ⟨yb, hyb⟩ : ∃ yb : ByteArray, (⟨y.toArray⟩ : ByteArray) = yb := ⟨_, rfl⟩
      rw [hyb] at hcell
      have HYb := hid hyb
      have hyl : yb.toList = y := by rw [← hyb]; simp
      have HYl := hid hyl
      have HC0 : Hid (w.cell? ⟨g, o + i', none⟩ = some (.string yb)) := (HO.out.2.cell (p := ⟨g, o + i', none⟩) hg).symm.trans hcell
      have HLn : Hid (acc.length ≤ 90001) := by show _ ≤ _; have := HA.out.2.2; have := HL.out; have : pt.toNat ≤ 1 := (by cases pt <;> decide); omega
      clear hc hy hyb hyd hyt hil hyl
      have hi0 : (0 : Int) ≤ (i' : Int) := by omega
      cases heq : (yb.toList == s.toList) with
      | true =>
        have HM : Hid (s.data.toList ∈ l) := by
          show _ ∈ _
          have e1 : y = s.data.toList := by rw [← HYl.out, ← ByteArray.toList_eq]; simpa using heq
          have := List.mem_of_mem_drop (i := i') (l := l) (a := y) (by rw [HY.out.1]; exact List.mem_cons_self)
          rwa [e1] at this
        go_wp2_with fail
        go_ret
        refine ⟨_, rfl, ?_, HO.out.2⟩
        unfold addL
        rw [if_pos HM.out]
        exact HV.out.below HO.out.2
      | false =>
        have hne : y ≠ s.data.toList := by
          intro e1
          rw [HYl.out, e1, ByteArray.toList_eq] at heq
          simp at heq
        have HNe : Hid (s.data.toList ∉ l.take (i' + 1)) := by
          show _ ∉ _
          rw [HY.out.2, List.mem_append, List.mem_singleton]
          rintro (h | h)
          · exact HA.out.1 h
          · exact hne h.symm
        clear hne
        have hstep : L - (intOf (.int .i64 ((i' + 1 : Nat) : Int))).toNat < L - (intOf (.int .i64 (i' : Int))).toNat := lt_step' hi
        cases pt with
        | true =>
          have HG : Hid (addGo s.data.toList (l.drop (i' + 1)) true (acc ++ [y]) = insL l s.data.toList) := by
            show _ = _
            rw [← HA.out.2.1, HY.out.1]
            conv => rhs; unfold addGo
            rw [if_neg (by simp)]
          have HAl := hid HA.out.2.2
          clear HA
          go_wp2_with (first
            | (at_builtin; refine wpList_append_own_at _ rfl _ _ 30 rfl w.heap.size 9 i0 (.string ⟨#[]⟩) 1 16 Tryz.underlying30 hinf hz0 hz1 hz2 rfl (by decide) _ _ _ rfl (HO.out.1.alloc _) ⟨wr.heap.size, 0, none⟩ 1 1 [.string yb] rfl rfl (cell_one_new _ _ rfl _ _) (fun x hx => by simp at hx; subst hx; rfl) (by have := HLn.out; unfold maxLen; omega) (by have := HLn.out; omega) (by have := HO.out.2.size; simp; omega) ?_
               intro v5HOa w5HOa hown' hgrow hnil hat
               have HOa := hid (add_step HYb.out HO.out hown' hgrow)
               clear hown' hgrow hnil hat))
          try rw [wrap_succ (by have := HL.out; omega)]
          exact ⟨⟨i' + 1, true, acc ++ [y], rfl, rfl, by omega, HOa, ⟨HNe.out, HG.out, by have hq := HAl.out; rw [List.length_append]; simp [Bool.toNat] at hq ⊢; omega⟩⟩, hstep⟩
        | false =>
          cases hlt : Op.bytesLess s.toList yb.toList with
          | true =>
            have hsy : s.data.toList < y := by rw [bytesLess_eq, HYl.out, ByteArray.toList_eq] at hlt; exact of_decide_eq_true hlt
            have HG : Hid (addGo s.data.toList (l.drop (i' + 1)) true (acc ++ [s.data.toList] ++ [y]) = insL l s.data.toList) := by
              show _ = _
              rw [← HA.out.2.1, HY.out.1]
              conv => rhs; unfold addGo
              rw [if_pos ⟨rfl, hsy⟩]
            have HAl := hid HA.out.2.2
            have HLn2 : Hid ((acc ++ [s.data.toList]).length ≤ 90002) := by show _ ≤ _; rw [List.length_append]; exact Nat.succ_le_succ HLn.out
            clear HA hsy
            go_wp2_with (first
              | (at_builtin; refine wpList_append_own_at _ rfl _ _ 30 rfl w.heap.size 9 i0 (.string ⟨#[]⟩) 1 16 Tryz.underlying30 hinf hz0 hz1 hz2 rfl (by decide) _ _ _ rfl (HO.out.1.alloc _) ⟨wr.heap.size, 0, none⟩ 1 1 [.string s] rfl rfl (cell_one_new _ _ rfl _ _) (fun x hx => by simp at hx; subst hx; rfl) (by have := HLn.out; unfold maxLen; omega) (by have := HLn.out; omega) (by have := HO.out.2.size; simp; omega) ?_
                 intro v5HOb w5HOb hown' hgrow hnil hat
                 have HOb := hid (add_step (bytes_back s) HO.out hown' hgrow)
                 have hcell2 := (HOb.out.2.cell (p := ⟨g, o + i', none⟩) hg).trans HC0.out
                 clear hown' hgrow hnil hat)
              | (at_builtin; refine wpList_append_own_at _ rfl _ _ 30 rfl w.heap.size 9 i0 (.string ⟨#[]⟩) 1 16 Tryz.underlying30 hinf hz0 hz1 hz2 rfl (by decide) _ _ _ rfl (HOb.out.1.alloc _) ⟨w5HOb.heap.size, 0, none⟩ 1 1 [.string yb] rfl rfl (cell_one_new _ _ rfl _ _) (fun x hx => by simp at hx; subst hx; rfl) (by have := HLn2.out; unfold maxLen; omega) (by have := HLn2.out; omega) (by have := HOb.out.2.size; simp; omega) ?_
                 intro v5HOc w5HOc hown' hgrow hnil hat
                 have HOc := hid (add_step HYb.out HOb.out hown' hgrow)
                 clear hown' hgrow hnil hat))
            try rw [wrap_succ (by have := HL.out; omega)]
            exact ⟨⟨i' + 1, true, acc ++ [s.data.toList] ++ [y], rfl, rfl, by omega, HOc, ⟨HNe.out, HG.out, by have hq := HAl.out; rw [List.length_append, List.length_append]; simp [Bool.toNat] at hq ⊢; omega⟩⟩, hstep⟩
          | false =>
            have hsy : ¬ s.data.toList < y := by rw [bytesLess_eq, HYl.out, ByteArray.toList_eq] at hlt; exact of_decide_eq_false hlt
            have HG : Hid (addGo s.data.toList (l.drop (i' + 1)) false (acc ++ [y]) = insL l s.data.toList) := by
              show _ = _
              rw [← HA.out.2.1, HY.out.1]
              conv => rhs; unfold addGo
              rw [if_neg (fun x => hsy x.2)]
            have HAl := hid HA.out.2.2
            clear HA hsy
            go_wp2_with (first
              | (at_builtin; refine wpList_append_own_at _ rfl _ _ 30 rfl w.heap.size 9 i0 (.string ⟨#[]⟩) 1 16 Tryz.underlying30 hinf hz0 hz1 hz2 rfl (by decide) _ _ _ rfl (HO.out.1.alloc _) ⟨wr.heap.size, 0, none⟩ 1 1 [.string yb] rfl rfl (cell_one_new _ _ rfl _ _) (fun x hx => by simp at hx; subst hx; rfl) (by have := HLn.out; unfold maxLen; omega) (by have := HLn.out; omega) (by have := HO.out.2.size; simp; omega) ?_
                 intro v5HOd w5HOd hown' hgrow hnil hat
                 have HOd := hid (add_step HYb.out HO.out hown' hgrow)
                 clear hown' hgrow hnil hat))
            try rw [wrap_succ (by have := HL.out; omega)]
            exact ⟨⟨i' + 1, false, acc ++ [y], rfl, rfl, by omega, HOd, ⟨HNe.out, HG.out, by have hq := HAl.out; rw [List.length_append]; simp [Bool.toNat] at hq ⊢; omega⟩⟩, hstep⟩
    · have e : i' = L := by omega
      subst e
      have hdn : l.drop i' = [] := List.drop_eq_nil_of_le (by have := HL.out.1; omega)
      have htk : l.take i' = l := List.take_of_length_le (by have := HL.out.1; omega)
      have HAd : Hid (addL l s.data.toList = insL l s.data.toList) := by
        show _ = _
        unfold addL
        rw [if_neg]
        have := HA.out.1
        rwa [htk] at this
      have HLn : Hid (acc.length ≤ 90001) := by show _ ≤ _; have := HA.out.2.2; have := HL.out; have : pt.toNat ≤ 1 := (by cases pt <;> decide); omega
      cases pt with
      | true =>
        have HG : Hid (acc = insL l s.data.toList) := by
          show _ = _
          rw [← HA.out.2.1, hdn]
          simp [addGo]
        clear HA hdn htk
        go_wp2_with fail
        go_ret
        refine ⟨_, rfl, ?_, HO.out.2⟩
        rw [HAd.out, ← HG.out]
        exact (names_owns HO.out.1).1
      | false =>
        have HG : Hid (acc ++ [s.data.toList] = insL l s.data.toList) := by
          show _ = _
          rw [← HA.out.2.1, hdn]
          simp [addGo]
        clear HA hdn htk
        go_wp2_with (first
          | (at_builtin; refine wpList_append_own_at _ rfl _ _ 30 rfl w.heap.size 9 i0 (.string ⟨#[]⟩) 1 16 Tryz.underlying30 hinf hz0 hz1 hz2 rfl (by decide) _ _ _ rfl (HO.out.1.alloc _) ⟨wr.heap.size, 0, none⟩ 1 1 [.string s] rfl rfl (cell_one_new _ _ rfl _ _) (fun x hx => by simp at hx; subst hx; rfl) (by have := HLn.out; unfold maxLen; omega) (by have := HLn.out; omega) (by have := HO.out.2.size; simp; omega) ?_
             intro v5HOe w5HOe hown' hgrow hnil hat
             have HOe := hid (add_step (bytes_back s) HO.out hown' hgrow)
             clear hown' hgrow hnil hat))
        go_ret
        refine ⟨_, rfl, ?_, HOe.out.2⟩
        rw [HAd.out, ← HG.out]
        exact (names_owns HOe.out.1).1
end Go.Proofs.YtlhdicichdihfaaGreatDoor
