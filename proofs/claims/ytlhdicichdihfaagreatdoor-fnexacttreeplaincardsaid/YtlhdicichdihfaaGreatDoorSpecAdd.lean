/- A name in a list, and a name put into a list where it belongs, as the specification does it. -/
import Derived.Test.YtlhdicichdihfaaGreatDoorSpecNames
import Derived.Sort.Walk0
namespace Go.Proofs.YtlhdicichdihfaaGreatDoor
open Go.RowKit Go.Deep

def bys (l : List Tx) : List ByteArray := l.map fun x => ⟨x.toArray⟩

theorem bys_len (l : List Tx) : (bys l).length = l.length := by unfold bys; simp

theorem bys_get (l : List Tx) (j : Nat) (h : j < l.length) : (bys l).getD j ⟨#[]⟩ = ⟨(l.getD j []).toArray⟩ := by
  unfold bys
  simp [List.getD, h]

/-- The list with the name put in, as a loop puts it. -/
def addGo (s : Tx) : List Tx → Bool → List Tx → List Tx
  | [], pt, acc => if pt then acc else acc ++ [s]
  | y :: r, pt, acc => if pt = false ∧ s < y then addGo s r true (acc ++ [s] ++ [y]) else addGo s r pt (acc ++ [y])

theorem addGo_true (s : Tx) : ∀ (l acc : List Tx), addGo s l true acc = acc ++ l
  | [], acc => by simp [addGo]
  | y :: r, acc => by simp [addGo, addGo_true s r]

theorem addGo_false (s : Tx) : ∀ (l acc : List Tx), addGo s l false acc = acc ++ insL l s
  | [], acc => by simp [addGo, insL]
  | y :: r, acc => by
    unfold addGo insL
    by_cases h : s < y
    · rw [if_pos ⟨rfl, h⟩, if_pos h, addGo_true]
      simp
    · rw [if_neg (fun x => h x.2), if_neg h, addGo_false s r]
      simp

def memB (ss : List ByteArray) (s : ByteArray) : Bool := ss.any fun x => x.toList == s.toList

theorem memB_iff (ss : List ByteArray) (s : ByteArray) : memB ss s = true ↔ s ∈ ss := by
  unfold memB
  rw [List.any_eq_true]
  constructor
  · rintro ⟨x, hx, h⟩
    rw [str_eq, decide_eq_true_eq] at h
    rwa [← h]
  · intro h
    exact ⟨s, h, by rw [str_eq, decide_eq_true_eq]⟩

set_option maxRecDepth 100000 in
theorem in_none (s : ByteArray) (w : World) : Calls Tryz.prog 46 #[.slice none 0 0, .string s] w fun e w' => e = .returned (.bool false) ∧ w' = w := by
  go_enter Tryz.func46, Tryz.ntmps46
  go_wp2_with fail
  refine wp_loop_rounds 1 ?_
  rw [rounds_succ]
  go_wp2_with fail
  go_ret
  exact ⟨rfl, rfl⟩

theorem in_any {v : Value} {ss : List ByteArray} (s : ByteArray) (w : World) (h : NamesV w v ss) (hl : ss.length ≤ 1000000) : Calls Tryz.prog 46 #[v, .string s] w fun e w' => e = .returned (.bool (memB ss s)) ∧ w' = w := by
  rcases h with ⟨rfl, rfl⟩ | ⟨g, o, c, rfl, hg, hc⟩
  · exact in_none s w
  · refine (in_calls g o ss.length c ss s w (Nat.le_refl _) hl hc).mono ?_
    rintro e w' ⟨rfl, rfl⟩
    rw [List.take_length]
    exact ⟨rfl, rfl⟩

theorem add_step {w wr W' : World} {out v' : Value} {acc : List Tx} {y : Tx} {yb : ByteArray} {o : Obj} (hy : (⟨y.toArray⟩ : ByteArray) = yb) (h : wr.ownsRow w.heap.size 9 1 out acc.length (strRow (bys acc)) ∧ Below w.heap.size w wr) (hown : W'.ownsRow w.heap.size 9 1 v' (acc.length + 1) (strRow (bys acc) ++ [.string yb])) (hg : (wr.alloc o).grownBy W' out.ownBlock) :
    W'.ownsRow w.heap.size 9 1 v' (acc ++ [y]).length (strRow (bys (acc ++ [y]))) ∧ Below w.heap.size w W' := by
  subst hy
  have hs := h.2.size
  refine ⟨?_, Below.grown (h.2.alloc (by omega) _) hg (by simp; omega) (fun j hj => (h.1.lt _ hj).1)⟩
  rw [List.length_append, show bys (acc ++ [y]) = bys acc ++ [⟨y.toArray⟩] by unfold bys; rw [List.map_append]; rfl, strRow_snoc]
  exact hown

theorem bytes_back (s : ByteArray) : (⟨s.data.toList.toArray⟩ : ByteArray) = s := rfl

set_option maxHeartbeats 4000000 in
set_option maxRecDepth 100000 in
theorem add_calls {v : Value} {l : List Tx} (s : ByteArray) (w : World) (hv : NamesV w v (bys l)) (hl : l.length ≤ 90000) :
    Calls Tryz.prog 47 #[v, .string s] w fun e w' => ∃ u, e = .returned u ∧ NamesV w' u (bys (addL l s.data.toList)) ∧ Below w.heap.size w w' := by
  obtain ⟨ad, cp, rfl⟩ := hv.slice
  rw [bys_len] at hv ⊢
  obtain ⟨L, hL⟩ : ∃ L, l.length = L := ⟨_, rfl⟩
  have HV := hid hv
  have HL := hid (And.intro hL hl)
  rw [hL] at HV ⊢
  clear hv hl hL
  obtain ⟨i0, hinf, hz0, hz1, hz2⟩ := info_parts info_str
  go_enter Tryz.func47, Tryz.ntmps47
  go_wp2_with fail
  go_loopw [5, 6, 7] (fun out put i wr => ∃ (i' : Nat) (pt : Bool) (acc : List Tx), i = .int .i64 i' ∧ put = .bool pt ∧ i' ≤ L ∧ Hid (wr.ownsRow w.heap.size 9 1 out acc.length (strRow (bys acc)) ∧ Below w.heap.size w wr) ∧ Hid (s.data.toList ∉ l.take i' ∧ addGo s.data.toList (l.drop i') pt acc = insL l s.data.toList ∧ acc.length ≤ i' + pt.toNat)) (fun _ _ i _ => L - (intOf i).toNat)
  case atStart => exact ⟨0, false, [], rfl, rfl, Nat.zero_le _, ⟨World.ownsRow_nil _ _ _ _, Below.refl _ _⟩, ⟨by simp, by rw [List.drop_zero, addGo_false]; rfl, Nat.zero_le _⟩⟩
  case round =>
    obtain ⟨i', pt, acc, rfl, rfl, hle, HO, HA⟩ := hrel
    by_cases hi : (i' : Int) < (L : Int)
    · have hcx := HV.out.cell (by omega : 0 < L)
      obtain ⟨-, g, o, rfl, hg, hc⟩ := hcx
      have hcell := (HO.out.2.cell (p := ⟨g, o + i', none⟩) hg).trans (hc i' (by omega))
      have hil : i' < l.length := by have := HL.out.1; omega
      rw [bys_get l i' hil] at hcell
      obtain ⟨y, hy⟩ : ∃ y, l.getD i' [] = y := ⟨_, rfl⟩
      rw [hy] at hcell
      have hyd : l.drop i' = y :: l.drop (i' + 1) := by rw [List.drop_eq_getElem_cons hil, ← hy]; simp [List.getD, hil]
      have hyt : l.take (i' + 1) = l.take i' ++ [y] := by rw [List.take_add_one, ← hy]; simp [List.getD, hil]
      have HY := hid (And.intro hyd hyt)
      obtain ⟨yb, hyb⟩ : ∃ yb : ByteArray, (⟨y.toArray⟩ : ByteArray) = yb := ⟨_, rfl⟩
      rw [hyb] at hcell
      have HYb := hid hyb
      have hyl : yb.toList = y := by rw [← hyb]; simp
      have HYl := hid hyl
      have HC0 : Hid (w.cell? ⟨g, o + i', none⟩ = some (.string yb)) := (HO.out.2.cell (p := ⟨g, o + i', none⟩) hg).symm.trans hcell
      have HLn : Hid (acc.length ≤ 90001) := by show _ ≤ _; have := HA.out.2.2; have := HL.out; have : pt.toNat ≤ 1 := (by cases pt <;> decide); omega
      clear hc hy hyb hyd hyt hil hyl
      have hi0 : (0 : Int) ≤ (i' : Int) := by omega
      cases heq : (yb.toList == s.toList) with
      | true =>
        have HM : Hid (s.data.toList ∈ l) := by
          show _ ∈ _
          have e1 : y = s.data.toList := by rw [← HYl.out, ← ByteArray.toList_eq]; simpa using heq
          have := List.mem_of_mem_drop (i := i') (l := l) (a := y) (by rw [HY.out.1]; exact List.mem_cons_self)
          rwa [e1] at this
        go_wp2_with fail
        go_ret
        refine ⟨_, rfl, ?_, HO.out.2⟩
        unfold addL
        rw [if_pos HM.out]
        exact HV.out.below HO.out.2
      | false =>
        have hne : y ≠ s.data.toList := by
          intro e1
          rw [HYl.out, e1, ByteArray.toList_eq] at heq
          simp at heq
        have HNe : Hid (s.data.toList ∉ l.take (i' + 1)) := by
          show _ ∉ _
          rw [HY.out.2, List.mem_append, List.mem_singleton]
          rintro (h | h)
          · exact HA.out.1 h
          · exact hne h.symm
        clear hne
        have hstep : L - (intOf (.int .i64 ((i' + 1 : Nat) : Int))).toNat < L - (intOf (.int .i64 (i' : Int))).toNat := lt_step' hi
        cases pt with
        | true =>
          have HG : Hid (addGo s.data.toList (l.drop (i' + 1)) true (acc ++ [y]) = insL l s.data.toList) := by
            show _ = _
            rw [← HA.out.2.1, HY.out.1]
            conv => rhs; unfold addGo
            rw [if_neg (by simp)]
          have HAl := hid HA.out.2.2
          clear HA
          go_wp2_with (first
            | (at_builtin; refine wpList_append_own_at _ rfl _ _ 30 rfl w.heap.size 9 i0 (.string ⟨#[]⟩) 1 16 Tryz.underlying30 hinf hz0 hz1 hz2 rfl (by decide) _ _ _ rfl (HO.out.1.alloc _) ⟨wr.heap.size, 0, none⟩ 1 1 [.string yb] rfl rfl (cell_one_new _ _ rfl _ _) (fun x hx => by simp at hx; subst hx; rfl) (by have := HLn.out; unfold maxLen; omega) (by have := HLn.out; omega) (by have := HO.out.2.size; simp; omega) ?_
               intro v5HOa w5HOa hown' hgrow hnil hat
               have HOa := hid (add_step HYb.out HO.out hown' hgrow)
               clear hown' hgrow hnil hat))
          try rw [wrap_succ (by have := HL.out; omega)]
          exact ⟨⟨i' + 1, true, acc ++ [y], rfl, rfl, by omega, HOa, ⟨HNe.out, HG.out, by have hq := HAl.out; rw [List.length_append]; simp [Bool.toNat] at hq ⊢; omega⟩⟩, hstep⟩
        | false =>
          cases hlt : Op.bytesLess s.toList yb.toList with
          | true =>
            have hsy : s.data.toList < y := by rw [bytesLess_eq, HYl.out, ByteArray.toList_eq] at hlt; exact of_decide_eq_true hlt
            have HG : Hid (addGo s.data.toList (l.drop (i' + 1)) true (acc ++ [s.data.toList] ++ [y]) = insL l s.data.toList) := by
              show _ = _
              rw [← HA.out.2.1, HY.out.1]
              conv => rhs; unfold addGo
              rw [if_pos ⟨rfl, hsy⟩]
            have HAl := hid HA.out.2.2
            have HLn2 : Hid ((acc ++ [s.data.toList]).length ≤ 90002) := by show _ ≤ _; rw [List.length_append]; exact Nat.succ_le_succ HLn.out
            clear HA hsy
            go_wp2_with (first
              | (at_builtin; refine wpList_append_own_at _ rfl _ _ 30 rfl w.heap.size 9 i0 (.string ⟨#[]⟩) 1 16 Tryz.underlying30 hinf hz0 hz1 hz2 rfl (by decide) _ _ _ rfl (HO.out.1.alloc _) ⟨wr.heap.size, 0, none⟩ 1 1 [.string s] rfl rfl (cell_one_new _ _ rfl _ _) (fun x hx => by simp at hx; subst hx; rfl) (by have := HLn.out; unfold maxLen; omega) (by have := HLn.out; omega) (by have := HO.out.2.size; simp; omega) ?_
                 intro v5HOb w5HOb hown' hgrow hnil hat
                 have HOb := hid (add_step (bytes_back s) HO.out hown' hgrow)
                 have hcell2 := (HOb.out.2.cell (p := ⟨g, o + i', none⟩) hg).trans HC0.out
                 clear hown' hgrow hnil hat)
              | (at_builtin; refine wpList_append_own_at _ rfl _ _ 30 rfl w.heap.size 9 i0 (.string ⟨#[]⟩) 1 16 Tryz.underlying30 hinf hz0 hz1 hz2 rfl (by decide) _ _ _ rfl (HOb.out.1.alloc _) ⟨w5HOb.heap.size, 0, none⟩ 1 1 [.string yb] rfl rfl (cell_one_new _ _ rfl _ _) (fun x hx => by simp at hx; subst hx; rfl) (by have := HLn2.out; unfold maxLen; omega) (by have := HLn2.out; omega) (by have := HOb.out.2.size; simp; omega) ?_
                 intro v5HOc w5HOc hown' hgrow hnil hat
                 have HOc := hid (add_step HYb.out HOb.out hown' hgrow)
                 clear hown' hgrow hnil hat))
            try rw [wrap_succ (by have := HL.out; omega)]
            exact ⟨⟨i' + 1, true, acc ++ [s.data.toList] ++ [y], rfl, rfl, by omega, HOc, ⟨HNe.out, HG.out, by have hq := HAl.out; rw [List.length_append, List.length_append]; simp [Bool.toNat] at hq ⊢; omega⟩⟩, hstep⟩
          | false =>
            have hsy : ¬ s.data.toList < y := by rw [bytesLess_eq, HYl.out, ByteArray.toList_eq] at hlt; exact of_decide_eq_false hlt
            have HG : Hid (addGo s.data.toList (l.drop (i' + 1)) false (acc ++ [y]) = insL l s.data.toList) := by
              show _ = _
              rw [← HA.out.2.1, HY.out.1]
              conv => rhs; unfold addGo
              rw [if_neg (fun x => hsy x.2)]
            have HAl := hid HA.out.2.2
            clear HA hsy
            go_wp2_with (first
              | (at_builtin; refine wpList_append_own_at _ rfl _ _ 30 rfl w.heap.size 9 i0 (.string ⟨#[]⟩) 1 16 Tryz.underlying30 hinf hz0 hz1 hz2 rfl (by decide) _ _ _ rfl (HO.out.1.alloc _) ⟨wr.heap.size, 0, none⟩ 1 1 [.string yb] rfl rfl (cell_one_new _ _ rfl _ _) (fun x hx => by simp at hx; subst hx; rfl) (by have := HLn.out; unfold maxLen; omega) (by have := HLn.out; omega) (by have := HO.out.2.size; simp; omega) ?_
                 intro v5HOd w5HOd hown' hgrow hnil hat
                 have HOd := hid (add_step HYb.out HO.out hown' hgrow)
                 clear hown' hgrow hnil hat))
            try rw [wrap_succ (by have := HL.out; omega)]
            exact ⟨⟨i' + 1, false, acc ++ [y], rfl, rfl, by omega, HOd, ⟨HNe.out, HG.out, by have hq := HAl.out; rw [List.length_append]; simp [Bool.toNat] at hq ⊢; omega⟩⟩, hstep⟩
    · have e : i' = L := by omega
      subst e
      have hdn : l.drop i' = [] := List.drop_eq_nil_of_le (by have := HL.out.1; omega)
      have htk : l.take i' = l := List.take_of_length_le (by have := HL.out.1; omega)
      have HAd : Hid (addL l s.data.toList = insL l s.data.toList) := by
        show _ = _
        unfold addL
        rw [if_neg]
        have := HA.out.1
        rwa [htk] at this
      have HLn : Hid (acc.length ≤ 90001) := by show _ ≤ _; have := HA.out.2.2; have := HL.out; have : pt.toNat ≤ 1 := (by cases pt <;> decide); omega
      cases pt with
      | true =>
        have HG : Hid (acc = insL l s.data.toList) := by
          show _ = _
          rw [← HA.out.2.1, hdn]
          simp [addGo]
        clear HA hdn htk
        go_wp2_with fail
        go_ret
        refine ⟨_, rfl, ?_, HO.out.2⟩
        rw [HAd.out, ← HG.out]
        exact (names_owns HO.out.1).1
      | false =>
        have HG : Hid (acc ++ [s.data.toList] = insL l s.data.toList) := by
          show _ = _
          rw [← HA.out.2.1, hdn]
          simp [addGo]
        clear HA hdn htk
        go_wp2_with (first
          | (at_builtin; refine wpList_append_own_at _ rfl _ _ 30 rfl w.heap.size 9 i0 (.string ⟨#[]⟩) 1 16 Tryz.underlying30 hinf hz0 hz1 hz2 rfl (by decide) _ _ _ rfl (HO.out.1.alloc _) ⟨wr.heap.size, 0, none⟩ 1 1 [.string s] rfl rfl (cell_one_new _ _ rfl _ _) (fun x hx => by simp at hx; subst hx; rfl) (by have := HLn.out; unfold maxLen; omega) (by have := HLn.out; omega) (by have := HO.out.2.size; simp; omega) ?_
             intro v5HOe w5HOe hown' hgrow hnil hat
             have HOe := hid (add_step (bytes_back s) HO.out hown' hgrow)
             clear hown' hgrow hnil hat))
        go_ret
        refine ⟨_, rfl, ?_, HOe.out.2⟩
        rw [HAd.out, ← HG.out]
        exact (names_owns HOe.out.1).1
end Go.Proofs.YtlhdicichdihfaaGreatDoor
