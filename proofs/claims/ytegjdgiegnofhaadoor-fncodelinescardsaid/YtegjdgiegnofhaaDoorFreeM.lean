/- Lists of names, as the specification handles them. -/
import Derived.Test.YtegjdgiegnofhaaDoorNameM
import Derived.Test.YtegjdgiegnofhaaDoorStg
import Derived.Test.YtegjdgiegnofhaaDoorKeyWalks
import Derived.Sort.Walk0
import Derived.Test.YtegjdgiegnofhaaDoorTreeAll
namespace Go.Proofs.YtegjdgiegnofhaaDoor
open Go.RowKit Go.Deep

/-- A slice of names. -/
def NamesV (W : World) (v : Value) (ss : List ByteArray) : Prop :=
  (v = .slice none 0 0 ∧ ss = []) ∨ ∃ g o c, v = .slice (some ⟨g, o, none⟩) ss.length c ∧ g < W.heap.size ∧ ∀ j, j < ss.length → W.cell? ⟨g, o + j, none⟩ = some (.string (ss.getD j ⟨#[]⟩))

theorem names_none (W : World) : NamesV W (.slice none 0 0) [] := Or.inl ⟨rfl, rfl⟩

theorem NamesV.below {W W' : World} {v : Value} {ss : List ByteArray} (h : NamesV W v ss) (hb : Below W.heap.size W W') : NamesV W' v ss := by
  rcases h with h | ⟨g, o, c, e, hg, hc⟩
  · exact Or.inl h
  · exact Or.inr ⟨g, o, c, e, Nat.lt_of_lt_of_le hg hb.size, fun j hj => (hb.cell (p := ⟨g, o + j, none⟩) hg).trans (hc j hj)⟩

theorem NamesV.slice {W : World} {v : Value} {ss : List ByteArray} (h : NamesV W v ss) : ∃ ad c, v = .slice ad ss.length c := by
  rcases h with ⟨rfl, rfl⟩ | ⟨g, o, c, rfl, -⟩
  · exact ⟨none, 0, rfl⟩
  · exact ⟨_, _, rfl⟩

theorem NamesV.cell {W : World} {ad : Option Addr} {n c : Nat} {ss : List ByteArray} (h : NamesV W (.slice ad n c) ss) (hn : 0 < n) : n = ss.length ∧ ∃ g o, ad = some ⟨g, o, none⟩ ∧ g < W.heap.size ∧ ∀ j, j < n → W.cell? ⟨g, o + j, none⟩ = some (.string (ss.getD j ⟨#[]⟩)) := by
  rcases h with ⟨e, -⟩ | ⟨g, o, c', e, hg, hc⟩
  · cases e; omega
  · cases e
    exact ⟨rfl, g, o, rfl, hg, hc⟩

theorem strRow_len (ss : List ByteArray) : (strRow ss).length = ss.length := by unfold strRow; simp

theorem strRow_get (ss : List ByteArray) (j : Nat) (h : j < ss.length) : (strRow ss)[j]? = some (.string (ss.getD j ⟨#[]⟩)) := by
  unfold strRow
  simp [List.getD, h]

theorem names_owns {W : World} {B : Nat} {v : Value} {n : Nat} {ss : List ByteArray} (h : W.ownsRow B 9 1 v n (strRow ss)) : NamesV W v ss ∧ n = ss.length := by
  have hl : n = ss.length := by have := h.1; rw [strRow_len] at this; omega
  subst hl
  refine ⟨?_, rfl⟩
  have h' := h
  obtain ⟨-, ⟨rfl, h0⟩ | ⟨g, cap, cur, rfl, hB, hc, hr⟩⟩ := h
  · exact Or.inl ⟨rfl, List.eq_nil_of_length_eq_zero h0⟩
  · refine Or.inr ⟨g, 0, cap, rfl, heap_lt hc, fun j hj => ?_⟩
    rw [Nat.zero_add, h'.cellAt j (by omega), strRow_get ss j hj]

theorem names_lit (w : World) (o1 : Obj) (ss : List ByteArray) : NamesV ((w.alloc o1).alloc (.cells (strRow ss).toArray 9)) (.slice (some ⟨w.heap.size + 1, 0, none⟩) ss.length ss.length) ss := by
  have hh := (MapKept.heap_alloc (w.alloc o1) (.cells (strRow ss).toArray 9)).1
  rw [show (w.alloc o1).heap.size = w.heap.size + 1 by simp] at hh
  refine Or.inr ⟨_, 0, _, rfl, heap_lt hh, fun j hj => ?_⟩
  rw [Nat.zero_add, cell_of_heap hh j]
  simp only [List.getElem?_toArray]
  exact strRow_get ss j hj

/-- Names appended to a row of one's own. -/
theorem app_names {W : World} {B : Nat} {v xv : Value} {n : Nat} {ss ys : List ByteArray} (ty : TypeId) (hown : W.ownsRow B 9 1 v n (strRow ss)) (hx : NamesV W xv ys) (hm : ss.length + ys.length ≤ 200000) (hB : B ≤ W.heap.size) :
    ∃ v' W', (Builtin.append_ #[61, 61] ty #[v, xv]).run Tryd.prog W = .ok v' W' ∧ W'.ownsRow B 9 1 v' (ss ++ ys).length (strRow (ss ++ ys)) ∧ W.grownBy W' v.ownBlock ∧ (v'.ownBlock = v.ownBlock ∨ v'.ownBlock = some W.heap.size) := by
  obtain ⟨i0, hi, hz0, hz1, hz2⟩ := info_parts info_str
  have hn : n = ss.length := (names_owns hown).2
  subst hn
  rcases hx with ⟨rfl, rfl⟩ | ⟨g, o, c, rfl, hg, hc⟩
  · refine ⟨v, W, run_append_owned_none W B 61 ty 9 i0 1 Tryd.underlying61 hi v _ _ hown, ?_, ⟨rfl, rfl, rfl, Nat.le_refl _, fun _ _ _ => rfl⟩, Or.inl rfl⟩
    rw [List.append_nil]
    exact hown
  · obtain ⟨v', W', hr, h2, h3, -, h5⟩ := run_append_own_at (P := Tryd.prog) W B 61 ty 9 i0 _ 1 16 Tryd.underlying61 hi hz0 hz1 hz2 rfl (by decide) v ss.length (strRow ss) hown ⟨g, o, none⟩ ys.length c (strRow ys) (by rw [strRow_len]; omega)
      (fun j u hu => by
        have hj : j < ys.length := by
          have := (List.getElem?_eq_some_iff.1 hu).1
          rwa [strRow_len] at this
        rw [strRow_get ys j hj] at hu
        cases hu
        rw [Addr.add_lit]
        exact hc j hj)
      (fun u hu => by unfold strRow at hu; rw [List.mem_map] at hu; obtain ⟨x, -, rfl⟩ := hu; rfl) (by unfold maxLen; omega) (by omega) hB
    refine ⟨v', W', hr, ?_, h3, h5⟩
    rw [List.length_append]
    have e : strRow (ss ++ ys) = strRow ss ++ strRow ys := by unfold strRow; rw [List.map_append]
    rw [e]
    exact h2

set_option maxHeartbeats 2000000 in
set_option maxRecDepth 100000 in
theorem binds_calls (n : Nd) (i : Nat) (w : World) (hk2 : n.kind = 9 → i < 2) :
    Calls Tryd.prog 71 #[ndV n, .int .i64 (i : Int)] w fun e w' => ∃ sv, e = .returned sv ∧ NamesV w' sv (knownZ n i) ∧ Below w.heap.size w w' := by
  obtain ⟨kd, num, a, b, c, kids⟩ := n
  have h1 : ∀ i : Nat, ((i : Int) = 1) ↔ (i = 1) := fun i => by omega
  have h2 : ∀ i : Nat, ((i : Int) = 2) ↔ (i = 2) := fun i => by omega
  unfold ndV
  dsimp only at hk2 ⊢
  go_enter Tryd.func71, Tryd.ntmps71
  by_cases k6 : kd = 6
  · have hz : knownZ ⟨kd, num, a, b, c, kids⟩ i = [a] := by unfold knownZ; rw [if_pos (Or.inl k6)]
    rw [hz]
    subst k6
    go_wp2_with fail
    go_ret
    exact ⟨_, rfl, names_lit w _ [a], below_two w _ _⟩
  by_cases k25 : kd = 25
  · have hz : knownZ ⟨kd, num, a, b, c, kids⟩ i = [a] := by unfold knownZ; rw [if_pos (Or.inr k25)]
    rw [hz]
    subst k25
    go_wp2_with fail
    go_ret
    exact ⟨_, rfl, names_lit w _ [a], below_two w _ _⟩
  by_cases k8 : kd = 8
  · subst k8
    by_cases i1 : (i : Int) = 1
    · have hz : knownZ ⟨8, num, a, b, c, kids⟩ i = [a] := by unfold knownZ; rw [if_neg (by dsimp only; decide), if_pos (Or.inl ⟨rfl, (h1 i).1 i1⟩)]
      rw [hz]
      go_wp2_with fail
      go_ret
      exact ⟨_, rfl, names_lit w _ [a], below_two w _ _⟩
    · have hz : knownZ ⟨8, num, a, b, c, kids⟩ i = [] := by
        unfold knownZ
        rw [if_neg (by dsimp only; decide), if_neg (by rintro (⟨-, h⟩ | ⟨h, -⟩); exact i1 ((h1 i).2 h); cases h), if_neg (by rintro (h | ⟨h, -⟩) <;> cases h), if_neg (by dsimp only; decide)]
      rw [hz]
      go_wp2_with fail
      go_ret
      exact ⟨_, rfl, names_none _, one_new' w _⟩
  by_cases k9 : kd = 9
  · subst k9
    by_cases i1 : (i : Int) = 0
    · have hz : knownZ ⟨9, num, a, b, c, kids⟩ i = [a, b] := by
        unfold knownZ
        rw [if_neg (by dsimp only; decide), if_neg (by rintro (⟨h, -⟩ | ⟨-, h⟩); cases h; omega), if_pos (Or.inl rfl)]
      rw [hz]
      go_wp2_with fail
      go_ret
      exact ⟨_, rfl, names_lit w _ [a, b], below_two w _ _⟩
    · have i1' : i = 1 := by
        have := hk2 rfl
        omega
      have hz : knownZ ⟨9, num, a, b, c, kids⟩ i = [a] := by unfold knownZ; rw [if_neg (by dsimp only; decide), if_pos (Or.inr ⟨rfl, i1'⟩)]
      rw [hz]
      go_wp2_with fail
      go_ret
      exact ⟨_, rfl, names_lit w _ [a], below_two w _ _⟩
  by_cases k20 : kd = 20
  · subst k20
    by_cases i2 : (i : Int) = 2
    · have hz : knownZ ⟨20, num, a, b, c, kids⟩ i = [a, b] := by
        unfold knownZ
        rw [if_neg (by dsimp only; decide), if_neg (by rintro (⟨h, -⟩ | ⟨h, -⟩) <;> cases h), if_pos (Or.inr ⟨rfl, (h2 i).1 i2⟩)]
      rw [hz]
      go_wp2_with fail
      go_ret
      exact ⟨_, rfl, names_lit w _ [a, b], below_two w _ _⟩
    · have hz : knownZ ⟨20, num, a, b, c, kids⟩ i = [] := by
        unfold knownZ
        rw [if_neg (by dsimp only; decide), if_neg (by rintro (⟨h, -⟩ | ⟨h, -⟩) <;> cases h), if_neg (by rintro (h | ⟨-, h⟩); cases h; exact i2 ((h2 i).2 h)), if_neg (by dsimp only; decide)]
      rw [hz]
      go_wp2_with fail
      go_ret
      exact ⟨_, rfl, names_none _, one_new' w _⟩
  by_cases k26 : kd = 26
  · subst k26
    have hz : knownZ ⟨26, num, a, b, c, kids⟩ i = [b, c] := by
      unfold knownZ
      rw [if_neg (by dsimp only; decide), if_neg (by rintro (⟨h, -⟩ | ⟨h, -⟩) <;> cases h), if_neg (by rintro (h | ⟨h, -⟩) <;> cases h), if_pos rfl]
    rw [hz]
    go_wp2_with fail
    go_ret
    exact ⟨_, rfl, names_lit w _ [b, c], below_two w _ _⟩
  · have hz : knownZ ⟨kd, num, a, b, c, kids⟩ i = [] := by
      unfold knownZ
      rw [if_neg (by rintro (h | h); exact k6 h; exact k25 h), if_neg (by rintro (⟨h, -⟩ | ⟨h, -⟩); exact k8 h; exact k9 h), if_neg (by rintro (h | ⟨h, -⟩); exact k9 h; exact k20 h), if_neg k26]
    rw [hz]
    have b6 : (kd == 6) = false := beq_eq_false_iff_ne.2 k6
    have b25 : (kd == 25) = false := beq_eq_false_iff_ne.2 k25
    have b8 : (kd == 8) = false := beq_eq_false_iff_ne.2 k8
    have b9 : (kd == 9) = false := beq_eq_false_iff_ne.2 k9
    have b20 : (kd == 20) = false := beq_eq_false_iff_ne.2 k20
    have b26 : (kd == 26) = false := beq_eq_false_iff_ne.2 k26
    clear hz h1 h2
    go_wp2_with fail
    go_ret
    exact ⟨_, rfl, names_none _, one_new' w _⟩
end Go.Proofs.YtegjdgiegnofhaaDoor

/- A name in a list, and a name put into a list where it belongs, as the specification does it. -/
namespace Go.Proofs.YtegjdgiegnofhaaDoor
open Go.RowKit Go.Deep

def bys (l : List Tx) : List ByteArray := l.map fun x => ⟨x.toArray⟩

theorem bys_len (l : List Tx) : (bys l).length = l.length := by unfold bys; simp

theorem bys_get (l : List Tx) (j : Nat) (h : j < l.length) : (bys l).getD j ⟨#[]⟩ = ⟨(l.getD j []).toArray⟩ := by
  unfold bys
  simp [List.getD, h]

/-- The list with the name put in, as a loop puts it. -/
def addGo (s : Tx) : List Tx → Bool → List Tx → List Tx
  | [], pt, acc => if pt then acc else acc ++ [s]
  | y :: r, pt, acc => if pt = false ∧ s < y then addGo s r true (acc ++ [s] ++ [y]) else addGo s r pt (acc ++ [y])

theorem addGo_true (s : Tx) : ∀ (l acc : List Tx), addGo s l true acc = acc ++ l
  | [], acc => by simp [addGo]
  | y :: r, acc => by simp [addGo, addGo_true s r]

theorem addGo_false (s : Tx) : ∀ (l acc : List Tx), addGo s l false acc = acc ++ insL l s
  | [], acc => by simp [addGo, insL]
  | y :: r, acc => by
    unfold addGo insL
    by_cases h : s < y
    · rw [if_pos ⟨rfl, h⟩, if_pos h, addGo_true]
      simp
    · rw [if_neg (fun x => h x.2), if_neg h, addGo_false s r]
      simp

def memB (ss : List ByteArray) (s : ByteArray) : Bool := ss.any fun x => x.toList == s.toList

theorem memB_iff (ss : List ByteArray) (s : ByteArray) : memB ss s = true ↔ s ∈ ss := by
  unfold memB
  rw [List.any_eq_true]
  constructor
  · rintro ⟨x, hx, h⟩
    rw [str_eq, decide_eq_true_eq] at h
    rwa [← h]
  · intro h
    exact ⟨s, h, by rw [str_eq, decide_eq_true_eq]⟩

set_option maxRecDepth 100000 in
theorem in_none (s : ByteArray) (w : World) : Calls Tryd.prog 69 #[.slice none 0 0, .string s] w fun e w' => e = .returned (.bool false) ∧ w' = w := by
  go_enter Tryd.func69, Tryd.ntmps69
  go_wp2_with fail
  refine wp_loop_rounds 1 ?_
  rw [rounds_succ]
  go_wp2_with fail
  go_ret
  exact ⟨rfl, rfl⟩

theorem in_any {v : Value} {ss : List ByteArray} (s : ByteArray) (w : World) (h : NamesV w v ss) (hl : ss.length ≤ 1000000) : Calls Tryd.prog 69 #[v, .string s] w fun e w' => e = .returned (.bool (memB ss s)) ∧ w' = w := by
  rcases h with ⟨rfl, rfl⟩ | ⟨g, o, c, rfl, hg, hc⟩
  · exact in_none s w
  · refine (in_calls g o ss.length c ss s w (Nat.le_refl _) hl hc).mono ?_
    rintro e w' ⟨rfl, rfl⟩
    rw [List.take_length]
    exact ⟨rfl, rfl⟩

theorem add_step {w wr W' : World} {out v' : Value} {acc : List Tx} {y : Tx} {yb : ByteArray} {o : Obj} (hy : (⟨y.toArray⟩ : ByteArray) = yb) (h : wr.ownsRow w.heap.size 9 1 out acc.length (strRow (bys acc)) ∧ Below w.heap.size w wr) (hown : W'.ownsRow w.heap.size 9 1 v' (acc.length + 1) (strRow (bys acc) ++ [.string yb])) (hg : (wr.alloc o).grownBy W' out.ownBlock) :
    W'.ownsRow w.heap.size 9 1 v' (acc ++ [y]).length (strRow (bys (acc ++ [y]))) ∧ Below w.heap.size w W' := by
  subst hy
  have hs := h.2.size
  refine ⟨?_, Below.grown (h.2.alloc (by omega) _) hg (by simp; omega) (fun j hj => (h.1.lt _ hj).1)⟩
  rw [List.length_append, show bys (acc ++ [y]) = bys acc ++ [⟨y.toArray⟩] by unfold bys; rw [List.map_append]; rfl, strRow_snoc]
  exact hown

theorem bytes_back (s : ByteArray) : (⟨s.data.toList.toArray⟩ : ByteArray) = s := rfl

set_option maxHeartbeats 4000000 in
set_option maxRecDepth 100000 in
theorem add_calls {v : Value} {l : List Tx} (s : ByteArray) (w : World) (hv : NamesV w v (bys l)) (hl : l.length ≤ 90000) :
    Calls Tryd.prog 70 #[v, .string s] w fun e w' => ∃ u, e = .returned u ∧ NamesV w' u (bys (addL l s.data.toList)) ∧ Below w.heap.size w w' := by
  obtain ⟨ad, cp, rfl⟩ := hv.slice
  rw [bys_len] at hv ⊢
  obtain ⟨L, hL⟩ : ∃ L, l.length = L := ⟨_, rfl⟩
  have HV := hid hv
  have HL := hid (And.intro hL hl)
  rw [hL] at HV ⊢
  clear hv hl hL
  obtain ⟨i0, hinf, hz0, hz1, hz2⟩ := info_parts info_str
  go_enter Tryd.func70, Tryd.ntmps70
  go_wp2_with fail
  go_loopw [5, 6, 7] (fun out put i wr => ∃ (i' : Nat) (pt : Bool) (acc : List Tx), i = .int .i64 i' ∧ put = .bool pt ∧ i' ≤ L ∧ Hid (wr.ownsRow w.heap.size 9 1 out acc.length (strRow (bys acc)) ∧ Below w.heap.size w wr) ∧ Hid (s.data.toList ∉ l.take i' ∧ addGo s.data.toList (l.drop i') pt acc = insL l s.data.toList ∧ acc.length ≤ i' + pt.toNat)) (fun _ _ i _ => L - (intOf i).toNat)
  case atStart => exact ⟨0, false, [], rfl, rfl, Nat.zero_le _, ⟨World.ownsRow_nil _ _ _ _, Below.refl _ _⟩, ⟨by simp, by rw [List.drop_zero, addGo_false]; rfl, Nat.zero_le _⟩⟩
  case round =>
    obtain ⟨i', pt, acc, rfl, rfl, hle, HO, HA⟩ := hrel
    by_cases hi : (i' : Int) < (L : Int)
    · have hcx := HV.out.cell (by omega : 0 < L)
      obtain ⟨-, g, o, rfl, hg, hc⟩ := hcx
      have hcell := (HO.out.2.cell (p := ⟨g, o + i', none⟩) hg).trans (hc i' (by omega))
      have hil : i' < l.length := by have := HL.out.1; omega
      rw [bys_get l i' hil] at hcell
      obtain ⟨y, hy⟩ : ∃ y, l.getD i' [] = y := ⟨_, rfl⟩
      rw [hy] at hcell
      have hyd : l.drop i' = y :: l.drop (i' + 1) := by rw [List.drop_eq_getElem_cons hil, ← hy]; simp [List.getD, hil]
      have hyt : l.take (i' + 1) = l.take i' ++ [y] := by rw [List.take_add_one, ← hy]; simp [List.getD, hil]
      have HY := hid (And.intro hyd hyt)
      obtain ⟨yb, hyb⟩ : ∃ yb : ByteArray, (⟨y.toArray⟩ : ByteArray) = yb := ⟨_, rfl⟩
      rw [hyb] at hcell
      have HYb := hid hyb
      have hyl : yb.toList = y := by rw [← hyb]; simp
      have HYl := hid hyl
      have HC0 : Hid (w.cell? ⟨g, o + i', none⟩ = some (.string yb)) := (HO.out.2.cell (p := ⟨g, o + i', none⟩) hg).symm.trans hcell
      have HLn : Hid (acc.length ≤ 90001) := by show _ ≤ _; have := HA.out.2.2; have := HL.out; have : pt.toNat ≤ 1 := (by cases pt <;> decide); omega
      clear hc hy hyb hyd hyt hil hyl
      have hi0 : (0 : Int) ≤ (i' : Int) := by omega
      cases heq : (yb.toList == s.toList) with
      | true =>
        have HM : Hid (s.data.toList ∈ l) := by
          show _ ∈ _
          have e1 : y = s.data.toList := by rw [← HYl.out, ← ByteArray.toList_eq]; simpa using heq
          have := List.mem_of_mem_drop (i := i') (l := l) (a := y) (by rw [HY.out.1]; exact List.mem_cons_self)
          rwa [e1] at this
        go_wp2_with fail
        go_ret
        refine ⟨_, rfl, ?_, HO.out.2⟩
        unfold addL
        rw [if_pos HM.out]
        exact HV.out.below HO.out.2
      | false =>
        have hne : y ≠ s.data.toList := by
          intro e1
          rw [HYl.out, e1, ByteArray.toList_eq] at heq
          simp at heq
        have HNe : Hid (s.data.toList ∉ l.take (i' + 1)) := by
          show _ ∉ _
          rw [HY.out.2, List.mem_append, List.mem_singleton]
          rintro (h | h)
          · exact HA.out.1 h
          · exact hne h.symm
        clear hne
        have hstep : L - (intOf (.int .i64 ((i' + 1 : Nat) : Int))).toNat < L - (intOf (.int .i64 (i' : Int))).toNat := lt_step' hi
        cases pt with
        | true =>
          have HG : Hid (addGo s.data.toList (l.drop (i' + 1)) true (acc ++ [y]) = insL l s.data.toList) := by
            show _ = _
            rw [← HA.out.2.1, HY.out.1]
            conv => rhs; unfold addGo
            rw [if_neg (by simp)]
          have HAl := hid HA.out.2.2
          clear HA
          go_wp2_with (first
            | (at_builtin; refine wpList_append_own_at _ rfl _ _ 61 rfl w.heap.size 9 i0 (.string ⟨#[]⟩) 1 16 Tryd.underlying61 hinf hz0 hz1 hz2 rfl (by decide) _ _ _ rfl (HO.out.1.alloc _) ⟨wr.heap.size, 0, none⟩ 1 1 [.string yb] rfl rfl (cell_one_new _ _ rfl _ _) (fun x hx => by simp at hx; subst hx; rfl) (by have := HLn.out; unfold maxLen; omega) (by have := HLn.out; omega) (by have := HO.out.2.size; simp; omega) ?_
               intro v5HOa w5HOa hown' hgrow hnil hat
               have HOa := hid (add_step HYb.out HO.out hown' hgrow)
               clear hown' hgrow hnil hat))
          try rw [wrap_succ (by have := HL.out; omega)]
          exact ⟨⟨i' + 1, true, acc ++ [y], rfl, rfl, by omega, HOa, ⟨HNe.out, HG.out, by have hq := HAl.out; rw [List.length_append]; simp [Bool.toNat] at hq ⊢; omega⟩⟩, hstep⟩
        | false =>
          cases hlt : Op.bytesLess s.toList yb.toList with
          | true =>
            have hsy : s.data.toList < y := by rw [bytesLess_eq, HYl.out, ByteArray.toList_eq] at hlt; exact of_decide_eq_true hlt
            have HG : Hid (addGo s.data.toList (l.drop (i' + 1)) true (acc ++ [s.data.toList] ++ [y]) = insL l s.data.toList) := by
              show _ = _
              rw [← HA.out.2.1, HY.out.1]
              conv => rhs; unfold addGo
              rw [if_pos ⟨rfl, hsy⟩]
            have HAl := hid HA.out.2.2
            have HLn2 : Hid ((acc ++ [s.data.toList]).length ≤ 90002) := by show _ ≤ _; rw [List.length_append]; exact Nat.succ_le_succ HLn.out
            clear HA hsy
            go_wp2_with (first
              | (at_builtin; refine wpList_append_own_at _ rfl _ _ 61 rfl w.heap.size 9 i0 (.string ⟨#[]⟩) 1 16 Tryd.underlying61 hinf hz0 hz1 hz2 rfl (by decide) _ _ _ rfl (HO.out.1.alloc _) ⟨wr.heap.size, 0, none⟩ 1 1 [.string s] rfl rfl (cell_one_new _ _ rfl _ _) (fun x hx => by simp at hx; subst hx; rfl) (by have := HLn.out; unfold maxLen; omega) (by have := HLn.out; omega) (by have := HO.out.2.size; simp; omega) ?_
                 intro v5HOb w5HOb hown' hgrow hnil hat
                 have HOb := hid (add_step (bytes_back s) HO.out hown' hgrow)
                 have hcell2 := (HOb.out.2.cell (p := ⟨g, o + i', none⟩) hg).trans HC0.out
                 clear hown' hgrow hnil hat)
              | (at_builtin; refine wpList_append_own_at _ rfl _ _ 61 rfl w.heap.size 9 i0 (.string ⟨#[]⟩) 1 16 Tryd.underlying61 hinf hz0 hz1 hz2 rfl (by decide) _ _ _ rfl (HOb.out.1.alloc _) ⟨w5HOb.heap.size, 0, none⟩ 1 1 [.string yb] rfl rfl (cell_one_new _ _ rfl _ _) (fun x hx => by simp at hx; subst hx; rfl) (by have := HLn2.out; unfold maxLen; omega) (by have := HLn2.out; omega) (by have := HOb.out.2.size; simp; omega) ?_
                 intro v5HOc w5HOc hown' hgrow hnil hat
                 have HOc := hid (add_step HYb.out HOb.out hown' hgrow)
                 clear hown' hgrow hnil hat))
            try rw [wrap_succ (by have := HL.out; omega)]
            exact ⟨⟨i' + 1, true, acc ++ [s.data.toList] ++ [y], rfl, rfl, by omega, HOc, ⟨HNe.out, HG.out, by have hq := HAl.out; rw [List.length_append, List.length_append]; simp [Bool.toNat] at hq ⊢; omega⟩⟩, hstep⟩
          | false =>
            have hsy : ¬ s.data.toList < y := by rw [bytesLess_eq, HYl.out, ByteArray.toList_eq] at hlt; exact of_decide_eq_false hlt
            have HG : Hid (addGo s.data.toList (l.drop (i' + 1)) false (acc ++ [y]) = insL l s.data.toList) := by
              show _ = _
              rw [← HA.out.2.1, HY.out.1]
              conv => rhs; unfold addGo
              rw [if_neg (fun x => hsy x.2)]
            have HAl := hid HA.out.2.2
            clear HA hsy
            go_wp2_with (first
              | (at_builtin; refine wpList_append_own_at _ rfl _ _ 61 rfl w.heap.size 9 i0 (.string ⟨#[]⟩) 1 16 Tryd.underlying61 hinf hz0 hz1 hz2 rfl (by decide) _ _ _ rfl (HO.out.1.alloc _) ⟨wr.heap.size, 0, none⟩ 1 1 [.string yb] rfl rfl (cell_one_new _ _ rfl _ _) (fun x hx => by simp at hx; subst hx; rfl) (by have := HLn.out; unfold maxLen; omega) (by have := HLn.out; omega) (by have := HO.out.2.size; simp; omega) ?_
                 intro v5HOd w5HOd hown' hgrow hnil hat
                 have HOd := hid (add_step HYb.out HO.out hown' hgrow)
                 clear hown' hgrow hnil hat))
            try rw [wrap_succ (by have := HL.out; omega)]
            exact ⟨⟨i' + 1, false, acc ++ [y], rfl, rfl, by omega, HOd, ⟨HNe.out, HG.out, by have hq := HAl.out; rw [List.length_append]; simp [Bool.toNat] at hq ⊢; omega⟩⟩, hstep⟩
    · have e : i' = L := by omega
      subst e
      have hdn : l.drop i' = [] := List.drop_eq_nil_of_le (by have := HL.out.1; omega)
      have htk : l.take i' = l := List.take_of_length_le (by have := HL.out.1; omega)
      have HAd : Hid (addL l s.data.toList = insL l s.data.toList) := by
        show _ = _
        unfold addL
        rw [if_neg]
        have := HA.out.1
        rwa [htk] at this
      have HLn : Hid (acc.length ≤ 90001) := by show _ ≤ _; have := HA.out.2.2; have := HL.out; have : pt.toNat ≤ 1 := (by cases pt <;> decide); omega
      cases pt with
      | true =>
        have HG : Hid (acc = insL l s.data.toList) := by
          show _ = _
          rw [← HA.out.2.1, hdn]
          simp [addGo]
        clear HA hdn htk
        go_wp2_with fail
        go_ret
        refine ⟨_, rfl, ?_, HO.out.2⟩
        rw [HAd.out, ← HG.out]
        exact (names_owns HO.out.1).1
      | false =>
        have HG : Hid (acc ++ [s.data.toList] = insL l s.data.toList) := by
          show _ = _
          rw [← HA.out.2.1, hdn]
          simp [addGo]
        clear HA hdn htk
        go_wp2_with (first
          | (at_builtin; refine wpList_append_own_at _ rfl _ _ 61 rfl w.heap.size 9 i0 (.string ⟨#[]⟩) 1 16 Tryd.underlying61 hinf hz0 hz1 hz2 rfl (by decide) _ _ _ rfl (HO.out.1.alloc _) ⟨wr.heap.size, 0, none⟩ 1 1 [.string s] rfl rfl (cell_one_new _ _ rfl _ _) (fun x hx => by simp at hx; subst hx; rfl) (by have := HLn.out; unfold maxLen; omega) (by have := HLn.out; omega) (by have := HO.out.2.size; simp; omega) ?_
             intro v5HOe w5HOe hown' hgrow hnil hat
             have HOe := hid (add_step (bytes_back s) HO.out hown' hgrow)
             clear hown' hgrow hnil hat))
        go_ret
        refine ⟨_, rfl, ?_, HOe.out.2⟩
        rw [HAd.out, ← HG.out]
        exact (names_owns HOe.out.1).1
end Go.Proofs.YtegjdgiegnofhaaDoor

/- The names that stand free in a tree, as the specification finds them. -/
namespace Go.Proofs.YtegjdgiegnofhaaDoor
open Go.RowKit Go.Deep

/-- The kids of a node from the one at i on. -/
def freeK (old : Nd) : Nat → Fo → List ByteArray → List Tx → List Tx
  | _, .none, _, out => out
  | i, .tree n k r, bd, out => freeK old (i + 1) r bd (if n.kind = 5 then (if memB (bd ++ knownZ old i) n.a then out else addL out n.a.data.toList) else freeK n 0 k (bd ++ knownZ old i) out)

/-- A tree. -/
def freeN (n : Nd) (k : Fo) (bd : List ByteArray) (out : List Tx) : List Tx := if n.kind = 5 then (if memB bd n.a then out else addL out n.a.data.toList) else freeK n 0 k bd out

theorem freeK_tree (old n : Nd) (k r : Fo) (i : Nat) (bd : List ByteArray) (out : List Tx) : freeK old i (.tree n k r) bd out = freeK old (i + 1) r bd (freeN n k (bd ++ knownZ old i) out) := by
  unfold freeN
  rw [freeK]

theorem insL_len (s : Tx) : ∀ l : List Tx, (insL l s).length = l.length + 1
  | [] => rfl
  | x :: r => by
    unfold insL
    split
    · rfl
    · rw [List.length_cons, insL_len s r, List.length_cons]

theorem addL_len (l : List Tx) (s : Tx) : (addL l s).length ≤ l.length + 1 := by
  unfold addL
  split
  · omega
  · rw [insL_len]
    exact Nat.le_refl _

theorem freeK_len : ∀ (f : Fo) (old : Nd) (i : Nat) (bd : List ByteArray) (out : List Tx), (freeK old i f bd out).length ≤ out.length + f.flat.length
  | .none, _, _, _, _ => by simp [freeK, Fo.flat]
  | .tree n k r, old, i, bd, out => by
    rw [freeK]
    have h1 := freeK_len r old (i + 1) bd (if n.kind = 5 then (if memB (bd ++ knownZ old i) n.a then out else addL out n.a.data.toList) else freeK n 0 k (bd ++ knownZ old i) out)
    have h2 := freeK_len k n 0 (bd ++ knownZ old i) out
    have h3 := addL_len out n.a.data.toList
    have h4 : (if n.kind = 5 then (if memB (bd ++ knownZ old i) n.a then out else addL out n.a.data.toList) else freeK n 0 k (bd ++ knownZ old i) out).length ≤ out.length + 1 + k.flat.length := by
      repeat' split
      all_goals omega
    simp only [Fo.flat, List.length_cons, List.length_append]
    omega

theorem freeN_len (n : Nd) (k : Fo) (bd : List ByteArray) (out : List Tx) : (freeN n k bd out).length ≤ out.length + 1 + k.flat.length := by
  have h2 := freeK_len k n 0 bd out
  have h3 := addL_len out n.a.data.toList
  unfold freeN
  repeat' split
  all_goals omega

set_option maxHeartbeats 4000000 in
set_option maxRecDepth 100000 in
theorem free_calls (b off cap : Nat) (ns : List Nd) (hm : ns.length ≤ 300) (hok : ∀ m ∈ ns, m.kind = 9 → m.kids ≤ 2) : ∀ (N : Nat) (n : Nd) (k : Fo) (suf : List Nd) (p : Nat) (bd : List ByteArray) (out : List Tx) (bv ov : Value) (w : World), b < w.heap.size → NodesAt w b off ns → ns.drop p = n :: (k.flat ++ suf) → n.kids = k.count → k.wf → k.flat.length < N → NamesV w bv bd → NamesV w ov (bys out) → bd.length + 2 * k.flat.length ≤ 1000 → out.length + k.flat.length ≤ 1000 →
    Calls Tryd.prog 42 #[.slice (some ⟨b, off, none⟩) ns.length cap, .int .i64 (p : Int), bv, ov] w fun e w' => ∃ u, e = .returned u ∧ NamesV w' u (bys (freeN n k bd out)) ∧ Below w.heap.size w w' := by
  intro N
  induction N with
  | zero => intro n k suf p bd out bv ov w _ _ _ _ _ h; omega
  | succ N ih =>
    intro n k suf p bd out bv ov w hbw hn hp hkc hk hN hbd hov hbl hol
    obtain ⟨hpl, hpn, hp1⟩ := at_drop hp
    have c0 := hn p hpl 0 (by omega)
    have c1 := hn p hpl 1 (by omega)
    have c2 := hn p hpl 2 (by omega)
    have c3 := hn p hpl 3 (by omega)
    have c4 := hn p hpl 4 (by omega)
    have c5 := hn p hpl 5 (by omega)
    rw [hpn] at c0 c1 c2 c3 c4 c5
    simp only [Nd.cell, Nat.add_zero] at c0 c1 c2 c3 c4 c5
    have HIH := hid ih
    have HN := hid hn
    have HM := hid hm
    have HP1 := hid hp1
    have HWf := hid hk
    have HNl := hid hN
    have HBd := hid hbd
    have HOv := hid hov
    have HLs := hid (And.intro hbl hol)
    have HK9 := hid (hok n (by rw [← List.take_append_drop p ns, hp]; simp))
    have HPl := hid hpl
    have HCt : Hid (k.count ≤ 1000) := by
      show _ ≤ _
      have := Fo.count_le k
      omega
    obtain ⟨ad3, cp3, rfl⟩ := hov.slice
    obtain ⟨ad2, cp2, rfl⟩ := hbd.slice
    obtain ⟨kd, num, a, bb, cc, kids⟩ := n
    dsimp only at *
    obtain ⟨kc, hkc'⟩ : ∃ kc, k.count = kc := ⟨_, rfl⟩
    rw [hkc'] at hkc
    have HKc := hid hkc'
    subst hkc
    obtain ⟨len, hlen⟩ : ∃ len, ns.length = len := ⟨_, rfl⟩
    have Hlen := hid hlen
    rw [hlen] at hpl ⊢
    have hpl2 : (p : Int) < (len : Int) := by omega
    have hp0 : (0 : Int) ≤ (p : Int) := by omega
    obtain ⟨bl, hbl2⟩ : ∃ bl, bd.length = bl := ⟨_, rfl⟩
    obtain ⟨ol, hol2⟩ : ∃ ol, (bys out).length = ol := ⟨_, rfl⟩
    rw [hbl2, hol2]
    rw [hbl2] at HBd
    rw [hol2] at HOv
    clear ih hn hm hp1 hk hN hbd hov hbl hol hp hpn hkc' hlen hok hbl2 hol2
    go_enter Tryd.func42, Tryd.ntmps42
    by_cases k5 : (kd == 5) = true
    · have hba := (Below.refl w.heap.size w).alloc (Nat.le_refl _) (.cells #[.int .i64 kd, .int .i64 num, .string a, .string bb, .string cc, .int .i64 (kc : Int)] 90)
      have HIn := hid (in_any a _ (HBd.out.below hba) (by have := HLs.out.1; omega))
      have HAd := hid (fun X (hb : Below w.heap.size w X) => add_calls a X (HOv.out.below hb) (by have := HLs.out.2; omega))
      have e5 := hid (show kd = 5 from eq_of_beq k5)
      have HBa := hid hba
      clear hba HIH
      go_wp2_with fail
      refine HIn.out.mono ?_
      rintro e w2 ⟨rfl, rfl⟩
      cases hmb : memB bd a with
      | true =>
        have HT : Hid (freeN ⟨kd, num, a, bb, cc, kc⟩ k bd out = out) := by
          show _ = _
          unfold freeN
          rw [if_pos e5.out, if_pos hmb]
        go_wp2_with fail
        go_ret
        refine ⟨_, rfl, ?_, HBa.out⟩
        rw [HT.out]
        exact HOv.out.below HBa.out
      | false =>
        have HT : Hid (freeN ⟨kd, num, a, bb, cc, kc⟩ k bd out = addL out a.data.toList) := by
          show _ = _
          unfold freeN
          rw [if_pos e5.out, if_neg (by rw [hmb]; decide)]
        go_wp2_with fail
        refine (HAd.out _ HBa.out).mono ?_
        rintro e w3 ⟨u, rfl, hu, hb3⟩
        have HU := hid (And.intro hu hb3)
        clear hu hb3
        go_wp2_with fail
        go_ret
        refine ⟨_, rfl, ?_, HBa.out.trans (HU.out.2.mono HBa.out.size)⟩
        rw [HT.out]
        exact HU.out.1
    · have hne5 := hid (show kd ≠ 5 from fun e => k5 (by rw [e]; rfl))
      obtain ⟨TG, hTG⟩ : ∃ TG, freeN ⟨kd, num, a, bb, cc, kc⟩ k bd out = TG := ⟨_, rfl⟩
      have HTG : Hid (freeK ⟨kd, num, a, bb, cc, kc⟩ 0 k bd out = TG) := by
        show _ = _
        rw [← hTG]
        unfold freeN
        rw [if_neg hne5.out]
      rw [hTG]
      clear hTG
      have hA := (MapKept.heap_alloc w (.cells #[.int .i64 kd, .int .i64 num, .string a, .string bb, .string cc, .int .i64 (kc : Int)] 90)).1
      have hba := (Below.refl w.heap.size w).alloc (Nat.le_refl _) (.cells #[.int .i64 kd, .int .i64 num, .string a, .string bb, .string cc, .int .i64 (kc : Int)] 90)
      have HA := hid (And.intro hA hba)
      clear hA hba
      go_wp2_with fail
      clear c0 c1 c2 c3 c4 c5
      generalize w.alloc (.cells #[.int .i64 kd, .int .i64 num, .string a, .string bb, .string cc, .int .i64 (kc : Int)] 90) = wA at *
      rw [wrap_succ (by have := HPl.out; have := HM.out; omega)]
      generalize p + 1 = p1 at *
      go_loopw [3, 10, 11] (fun o q i wr => ∃ (q' i' : Nat) (r : Fo) (ot : List Tx), q = .int .i64 q' ∧ i = .int .i64 i' ∧ Hid (ns.drop q' = r.flat ++ suf ∧ r.wf ∧ i' + r.count = kc ∧ r.flat.length < N + 1 ∧ r.flat.length ≤ k.flat.length ∧ freeK ⟨kd, num, a, bb, cc, kc⟩ i' r bd ot = TG ∧ ot.length + r.flat.length ≤ 1000) ∧ Hid (NamesV wr o (bys ot)) ∧ Hid (Below wA.heap.size wA wr)) (fun _ _ i _ => kc - (intOf i).toNat)
      case atStart => exact ⟨p1, 0, k, out, rfl, rfl, ⟨HP1.out, HWf.out, by rw [HKc.out]; omega, HNl.out, Nat.le_refl _, HTG.out, by have := HLs.out.2; omega⟩, HOv.out.below HA.out.2, Below.refl _ _⟩
      case round =>
        obtain ⟨q', i', r, ot, rfl, rfl, HR, HOt, HB⟩ := hrel
        have hx := (HB.out.block _ (heap_lt HA.out.1)).trans HA.out.1
        have c0 := cell_of_heap hx 0
        have c1 := cell_of_heap hx 1
        have c2 := cell_of_heap hx 2
        have c3 := cell_of_heap hx 3
        have c4 := cell_of_heap hx 4
        have c5 := cell_of_heap hx 5
        simp at c0 c1 c2 c3 c4 c5
        have HX := hid hx
        clear hx
        cases r with
        | none =>
          obtain ⟨_, _, h1, _, _, h2, _⟩ := HR.out
          simp only [Fo.count, freeK] at h1 h2
          have h1' : i' = kc := by omega
          subst h1'
          subst h2
          clear HR h1
          go_wp2_with fail
          go_ret
          exact ⟨_, rfl, HOt.out, HA.out.2.trans (HB.out.mono HA.out.2.size)⟩
        | tree n' k' r' =>
          obtain ⟨h0, hw, h1, h3, h3', h4, h5⟩ := HR.out
          obtain ⟨hw0, hw1, hw2⟩ := hw
          simp only [Fo.count, Fo.flat, List.length_cons, List.length_append] at h1 h3 h3' h5
          simp only [Fo.flat, List.cons_append, List.append_assoc] at h0
          obtain ⟨hql, hqn, hq1⟩ := at_drop h0
          have hend : treeEnd ns q' = _ := treeEnd_at h0 hw0 hw1
          have hnew := drop_past hq1
          rw [freeK_tree] at h4
          have hi : (i' : Int) < (kc : Int) := by omega
          have hfl := freeN_len n' k' (bd ++ knownZ ⟨kd, num, a, bb, cc, kc⟩ i') ot
          have HNx : Hid (ns.drop (q' + 1 + k'.flat.length) = r'.flat ++ suf ∧ r'.wf ∧ i' + 1 + r'.count = kc ∧ r'.flat.length < N + 1 ∧ r'.flat.length ≤ k.flat.length ∧ freeK ⟨kd, num, a, bb, cc, kc⟩ (i' + 1) r' bd (freeN n' k' (bd ++ knownZ ⟨kd, num, a, bb, cc, kc⟩ i') ot) = TG ∧ (freeN n' k' (bd ++ knownZ ⟨kd, num, a, bb, cc, kc⟩ i') ot).length + r'.flat.length ≤ 1000) := ⟨hnew, hw2, by omega, by omega, by omega, h4, by omega⟩
          have hkl := knownZ_len ⟨kd, num, a, bb, cc, kc⟩ i'
          have HC := hid (fun (X : World) (bv ov : Value) (h1 : b < X.heap.size) (h2 : NodesAt X b off ns) (h3 : NamesV X bv (bd ++ knownZ ⟨kd, num, a, bb, cc, kc⟩ i')) (h4 : NamesV X ov (bys ot)) => HIH.out n' k' (r'.flat ++ suf) q' (bd ++ knownZ ⟨kd, num, a, bb, cc, kc⟩ i') ot bv ov X h1 h2 h0 hw0 hw1 (by omega) h3 h4 (by rw [List.length_append]; have := HLs.out.1; omega) (by omega))
          have HQ := hid (And.intro hql hend)
          have HBi := hid (fun X => binds_calls ⟨kd, num, a, bb, cc, kc⟩ i' X (fun e => by have := HK9.out e; omega))
          unfold ndV at HBi
          dsimp only at HBi
          have HKl : Hid (bd.length + (knownZ ⟨kd, num, a, bb, cc, kc⟩ i').length ≤ 2000) := by show _ ≤ _; have := HLs.out.1; omega
          clear HR h0 hw0 hw1 hw2 hql hqn hq1 hend hnew h4 h1 h3 h3' h5 hfl hkl
          obtain ⟨ad5, cp5, ho5⟩ := HOt.out.slice
          rw [Hlen.out] at HC
          subst ho5
          have hS : Below wr.heap.size wr wr.drew := (Below.refl _ _).drew
          have q0 := fun (y : World) (h : Below wr.heap.size wr y) => (h.cell (p := ⟨w.heap.size, 0, none⟩) (heap_lt HX.out)).trans c0
          have q1 := fun (y : World) (h : Below wr.heap.size wr y) => (h.cell (p := ⟨w.heap.size, 1, none⟩) (heap_lt HX.out)).trans c1
          have q2 := fun (y : World) (h : Below wr.heap.size wr y) => (h.cell (p := ⟨w.heap.size, 2, none⟩) (heap_lt HX.out)).trans c2
          have q3 := fun (y : World) (h : Below wr.heap.size wr y) => (h.cell (p := ⟨w.heap.size, 3, none⟩) (heap_lt HX.out)).trans c3
          have q4 := fun (y : World) (h : Below wr.heap.size wr y) => (h.cell (p := ⟨w.heap.size, 4, none⟩) (heap_lt HX.out)).trans c4
          have q5 := fun (y : World) (h : Below wr.heap.size wr y) => (h.cell (p := ⟨w.heap.size, 5, none⟩) (heap_lt HX.out)).trans c5
          go_upto_region 1 with fail
          refine pick_begin (S := fun w' => Below wr.heap.size wr w') (by kernel_rfl) rfl rfl ?_
          refine pick_op (i := 0) (v := .slice (some ⟨b, off, none⟩) len cap) (by kernel_rfl) rfl (by kernel_rfl) (by kernel_rfl) rfl rfl (fun w' hw' => by simp [go_sem]) hS (by simp [go_sem]; exact rfl) ?_
          refine pick_op (i := 1) (v := .int .i64 (q' : Int)) (by kernel_rfl) rfl (by kernel_rfl) (by kernel_rfl) rfl rfl (fun w' hw' => by simp [go_sem]) hS (by simp [go_sem]; exact rfl) ?_
          refine pick_op (i := 3) (v := .slice ad2 bl cp2) (by kernel_rfl) rfl (by kernel_rfl) (by kernel_rfl) rfl rfl (fun w' hw' => by simp [go_sem]) hS (by simp [go_sem]; exact rfl) ?_
          refine pick_op (i := 5) (v := .agg #[.int .i64 kd, .int .i64 num, .string a, .string bb, .string cc, .int .i64 (kc : Int)]) (by kernel_rfl) rfl (by kernel_rfl) (by kernel_rfl) rfl rfl (fun w' hw' => by simp [go_sem, q0 w' hw', q1 w' hw', q2 w' hw', q3 w' hw', q4 w' hw', q5 w' hw']) hS (by simp [go_sem]; exact rfl) ?_
          refine pick_op (i := 6) (v := .int .i64 (i' : Int)) (by kernel_rfl) rfl (by kernel_rfl) (by kernel_rfl) rfl rfl (fun w' hw' => by simp [go_sem]) hS (by simp [go_sem]; exact rfl) ?_
          refine pick_op (i := 9) (v := .slice ad5 (bys ot).length cp5) (by kernel_rfl) rfl (by kernel_rfl) (by kernel_rfl) rfl rfl (fun w' hw' => by simp [go_sem]) hS (by simp [go_sem]; exact rfl) ?_
          refine pick_make (i := 2) (v := .slice (some ⟨wr.heap.size, 0, none⟩) 0 0) (w1 := wr.drew.alloc (.cells #[] 9)) rfl (by kernel_rfl) rfl rfl (by simp [go_sem]) (hS.alloc (Nat.le_refl _) _) (by simp [go_sem]; exact rfl) ?_
          clear c0 c1 c2 c3 c4 c5 q0 q1 q2 q3 q4 q5
          have hX0 := hS.alloc (Nat.le_refl _) (.cells #[] 9)
          have hown0 : (wr.drew.alloc (.cells #[] 9)).ownsRow wr.heap.size 9 1 (.slice (some ⟨wr.heap.size, 0, none⟩) 0 0) 0 (strRow []) := World.ownsRow_made wr.drew #[] 0 (Nat.le_refl _) (Nat.zero_le _) rfl
          generalize wr.drew.alloc (.cells #[] 9) = X0 at *
          have HBdr := hid ((HBd.out.below HA.out.2).below HB.out)
          obtain ⟨v1, X1, hrun1, hown1, hg1, -⟩ := app_names (ss := []) (ys := bd) 61 hown0 (HBdr.out.below hX0) (by have := HKl.out; simp; omega) hX0.size
          have hX1 : Below wr.heap.size wr X1 := Below.grown hX0 hg1 hX0.size (fun j hj => (hown0.lt _ hj).1)
          refine pick_make (i := 4) (v := v1) (w1 := X1) rfl (by kernel_rfl) rfl rfl (append_run (s := .tmp 38) (x := .tmp 39) (t := 61) rfl rfl rfl hrun1) hX1 (by simp [go_sem]; exact rfl) ?_
          rw [List.nil_append] at hown1
          clear hrun1 hg1 hown0 hX0
          refine pick_enter (i := 7) (f := 71) (args := #[.agg #[.int .i64 kd, .int .i64 num, .string a, .string bb, .string cc, .int .i64 (kc : Int)], .int .i64 (i' : Int)]) rfl (by kernel_rfl) rfl rfl (by simp [go_sem]) ?_
          refine (HBi.out X1).mono ?_
          rintro e X2 ⟨sv, rfl, hnv, hb2⟩
          have hX2 := hX1.trans (hb2.mono hX1.size)
          refine ⟨sv, rfl, hX2, ?_⟩
          refine pick_frame (by simp [go_sem]; exact rfl) ?_
          have hown2 := owns_below hown1 hb2
          obtain ⟨v3, X3, hrun3, hown3, hg3, -⟩ := app_names 61 hown2 hnv (by have := HKl.out; omega) (Nat.le_trans hX1.size hb2.size)
          have hX3 : Below wr.heap.size wr X3 := Below.grown hX2 hg3 hX2.size (fun j hj => (hown2.lt _ hj).1)
          refine pick_make (i := 8) (v := v3) (w1 := X3) rfl (by kernel_rfl) rfl rfl (append_run (s := .tmp 40) (x := .tmp 43) (t := 61) rfl rfl rfl hrun3) hX3 (by simp [go_sem]; exact rfl) ?_
          clear hrun3 hg3 hown1 hown2 hnv hb2 hX2 hX1
          have hw3 := HA.out.2.trans ((HB.out.trans (hX3.mono HB.out.size)).mono HA.out.2.size)
          refine pick_enter (i := 10) (f := 42) (args := #[.slice (some ⟨b, off, none⟩) len cap, .int .i64 (q' : Int), v3, .slice ad5 (bys ot).length cp5]) rfl (by kernel_rfl) rfl rfl (by simp [go_sem]) ?_
          refine (HC.out X3 v3 _ (by have := hw3.size; omega) (HN.out.below hw3 hbw) (names_owns hown3).1 (HOt.out.below hX3)).mono ?_
          rintro e X4 ⟨u, rfl, hu, hb4⟩
          have hX4 := hX3.trans (hb4.mono hX3.size)
          refine ⟨u, rfl, hX4, ?_⟩
          refine pick_frame (by simp [go_sem]; exact rfl) ?_
          refine pick_make (i := 11) (v := u) (w1 := X4) rfl (by kernel_rfl) rfl rfl (by simp [go_sem]) hX4 (by simp [go_sem]; exact rfl) ?_
          refine pick_end (by kernel_rfl) ?_
          have hw4 := HB.out.trans (hX4.mono HB.out.size)
          have hw5 := HA.out.2.trans (hw4.mono HA.out.2.size)
          have hT := specEnd_calls b off cap ns q' X4 (HN.out.below hw5 hbw) (by have := HM.out; omega)
          rw [HQ.out.2, Hlen.out] at hT
          have HT := hid hT
          have HU := hid (And.intro hu hw4)
          clear hT hu hb4 hw3 hX3 hX4 hw4 hw5 hown3 HC HBi hS
          have hi9 : i' ≤ 1048576 := by have := HNx.out.2.2.1; have := HKc.out; have := HCt.out; omega
          generalize q' + 1 + k'.flat.length = ee at *
          go_wp2_with fail
          refine HT.out.mono ?_
          rintro e w6 ⟨rfl, rfl⟩
          go_wp2_with fail
          try rw [wrap_succ hi9]
          exact ⟨⟨ee, i' + 1, r', _, rfl, rfl, HNx, HU.out.1, HU.out.2⟩, lt_step hi⟩
end Go.Proofs.YtegjdgiegnofhaaDoor

/- The specification's TreeFree: the names that the program's walk finds free, each once, sorted. -/
namespace Go.Proofs.YtegjdgiegnofhaaDoor
open Go.RowKit Go.Deep

/-- A name's node bears no kids. -/
def leaf5 : Fo → Prop
  | .none => True
  | .tree n k r => (n.kind = 5 → k = .none) ∧ leaf5 k ∧ leaf5 r

theorem leaf5_of : ∀ (f : Fo), f.wf → (∀ m ∈ f.flat, m.kind = 5 → m.kids = 0) → leaf5 f
  | .none, _, _ => trivial
  | .tree n k r, hw, h => by
    obtain ⟨h1, h2, h3⟩ := hw
    refine ⟨fun e => ?_, leaf5_of k h2 (fun m hm => h m (by simp [Fo.flat, hm])), leaf5_of r h3 (fun m hm => h m (by simp [Fo.flat, hm]))⟩
    have h0 := h n (by simp [Fo.flat]) e
    cases k with
    | none => rfl
    | tree n' k' r' =>
      simp only [Fo.count] at h1
      omega

theorem findS_open : ∀ (xs ys : List ByteArray) (sc : Sco) (x : ByteArray), xs.length = ys.length → (findS ((xs.zip ys).foldl (fun s p => p :: s) sc) x ≠ none ↔ x ∈ xs ∨ findS sc x ≠ none)
  | [], ys, sc, x, _ => by simp
  | a :: xs, [], sc, x, h => by simp at h
  | a :: xs, b :: ys, sc, x, h => by
    rw [List.zip_cons_cons, List.foldl_cons, findS_open xs ys ((a, b) :: sc) x (by simpa using h), List.mem_cons]
    by_cases e : a = x
    · subst e
      simp [findS]
    · simp only [findS, if_neg e]
      constructor
      · rintro (h | h)
        · exact Or.inl (Or.inr h)
        · exact Or.inr h
      · rintro ((h | h) | h)
        · exact absurd h.symm e
        · exact Or.inl h
        · exact Or.inr h

theorem texts_app (a b : List ByteArray) : textsOf (a ++ b) = textsOf a ++ textsOf b := by unfold textsOf; rw [List.map_append]

theorem free_pure : ∀ (f : Fo) (old new : Nd) (i : Nat) (bd : List ByteArray) (sc : Sco) (s : Wst), leaf5 f → old.kind = new.kind → (∀ x, x ∈ bd ↔ findS sc x ≠ none) → freeK old i f bd ((textsOf s.free).foldl addL []) = (textsOf (kidsW old new i f sc s).free).foldl addL []
  | .none, _, _, _, _, _, _, _, _, _ => rfl
  | .tree n k r, old, new, i, bd, sc, s, hl, hk, hb => by
    obtain ⟨h1, h2, h3⟩ := hl
    have hb2 : ∀ x, x ∈ bd ++ knownZ old i ↔ findS (openS old new i sc) x ≠ none := fun x => by
      unfold openS
      rw [findS_open _ _ _ _ (knownZ_same hk i), List.mem_append, ← hb x, or_comm]
    rw [freeK, kidsW, ← free_pure r old new (i + 1) bd sc _ h3 hk hb]
    congr 1
    by_cases e : n.kind = 5
    · rw [if_pos e, h1 e]
      simp only [kidsW, stepW]
      unfold lostZ
      by_cases hf : findS (openS old new i sc) n.a = none
      · rw [if_neg (by rw [memB_iff, hb2]; exact fun h => h hf), if_pos ⟨e, hf⟩, texts_app, List.foldl_append]
        rfl
      · rw [if_pos (by rw [memB_iff, hb2]; exact hf), if_neg (fun h => hf h.2), List.append_nil]
    · rw [if_neg e, ← free_pure k n _ 0 _ _ _ h2 (renZ_kind _ _ _).symm hb2]
      congr 1
      unfold stepW lostZ
      rw [if_neg (fun h => e h.1)]
      simp

theorem free_whole (n : Nd) (k : Fo) (hl : leaf5 (.tree n k .none)) : freeN n k [] [] = freeOf (wholeW n k) := by
  obtain ⟨h1, h2, -⟩ := hl
  unfold freeN freeOf wholeW walkW
  by_cases e : n.kind = 5
  · rw [if_pos e, h1 e, if_neg (by rw [memB_iff]; simp)]
    simp only [kidsW, stepW, lostZ, findS]
    rw [if_pos ⟨e, trivial⟩]
    rfl
  · rw [if_neg e, ← free_pure k n _ 0 [] [] _ h2 (renZ_kind _ _ _).symm (fun x => by simp [findS])]
    congr 1
    unfold stepW lostZ
    rw [if_neg (fun h => e h.1)]
    rfl

theorem own_kids {m : Nd} (h : ownOk m = true) : (m.kind = 9 → m.kids ≤ 2) ∧ (m.kind = 5 → m.kids = 0) := by
  simp only [ownOk, Bool.and_eq_true] at h
  have hk := h.1
  constructor
  · intro e
    rw [e] at hk
    have : m.kids = 2 := of_decide_eq_true hk
    omega
  · intro e
    rw [e] at hk
    exact of_decide_eq_true hk

set_option maxRecDepth 100000 in
theorem specFree_calls {b off cap : Nat} {ns : List Nd} {n : Nd} {k : Fo} (w : World) (hm : ns.length ≤ 300) (hbw : b < w.heap.size) (hn : NodesAt w b off ns) (hA : SpecAns ns true) (hall : ns.all ownOk = true) (h1 : ns = n :: k.flat) (h2 : n.kids = k.count) (h3 : k.wf) :
    Calls Tryd.prog 29 #[.slice (some ⟨b, off, none⟩) ns.length cap] w fun e w' => ∃ u, e = .returned u ∧ NamesV w' u (bys (freeOf (wholeW n k))) ∧ Below w.heap.size w w' := by
  have HT := hid (specTree_calls b off cap ns w true (by omega) hbw hn hA)
  have hown : ∀ m ∈ ns, ownOk m = true := fun m hm => List.all_eq_true.1 hall m hm
  have hl : leaf5 (.tree n k .none) := leaf5_of _ ⟨h2, h3, trivial⟩ (fun m hm => (own_kids (hown m (by rw [h1]; simpa [Fo.flat] using hm))).2)
  have hkl : k.flat.length ≤ 300 := by rw [h1, List.length_cons] at hm; omega
  have HF := hid (fun X (hb : Below w.heap.size w X) => free_calls b off cap ns hm (fun m hm => (own_kids (hown m hm)).1) (k.flat.length + 1) n k [] 0 [] [] _ _ X (by have := hb.size; omega) (hn.below hb hbw) (by rw [h1]; simp) h2 h3 (Nat.lt_succ_self _) (names_none X) (names_none X) (by simp; omega) (by simp; omega))
  rw [← free_whole n k hl]
  clear hn hA hall hown hl hkl hm
  generalize ns.length = len at *
  go_enter Tryd.func29, Tryd.ntmps29
  go_wp2_with fail
  refine HT.out.mono ?_
  rintro e w2 ⟨rfl, hb2⟩
  go_wp2_with fail
  refine (HF.out w2 hb2).mono ?_
  rintro e w3 ⟨u, rfl, hu, hb3⟩
  have HU := hid (And.intro hu (hb2.trans (hb3.mono hb2.size)))
  clear hu hb3
  go_wp2_with fail
  go_ret
  exact ⟨_, rfl, HU.out.1, HU.out.2⟩

set_option maxRecDepth 100000 in
theorem specFree_bad {b off cap : Nat} {ns : List Nd} (w : World) (hm : ns.length ≤ 1048576) (hbw : b < w.heap.size) (hn : NodesAt w b off ns) (hA : SpecAns ns false) :
    Calls Tryd.prog 29 #[.slice (some ⟨b, off, none⟩) ns.length cap] w fun e w' => e = .returned (.slice none 0 0) ∧ Below w.heap.size w w' := by
  have HT := hid (specTree_calls b off cap ns w false hm hbw hn hA)
  clear hm hbw hn hA
  generalize ns.length = len at *
  go_enter Tryd.func29, Tryd.ntmps29
  go_wp2_with fail
  refine HT.out.mono ?_
  rintro e w2 ⟨rfl, hb2⟩
  go_wp2_with fail
  go_ret
  exact ⟨rfl, hb2⟩
end Go.Proofs.YtegjdgiegnofhaaDoor
