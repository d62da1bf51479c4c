/- Where clauses stand, as the specification asks it: the kids one after the other. -/
import Derived.Test.YtgiejnmphfgmgaaGreatDoorSpecClauses
import Derived.BigQuiet
namespace Go.Proofs.YtgiejnmphfgmgaaGreatDoor
open Go.RowKit

theorem info_str : (Tryz.prog.info? 9).map (fun i => (i.zero, i.size, i.bytes)) = some (some (.string ⟨#[]⟩), 1, 16) := by kernel_rfl

theorem cell_one_new (w : World) (n : Nat) (hn : n = w.heap.size) (a : Value) (t : TypeId) : ∀ j u, [a][j]? = some u → (w.alloc (.cells #[a] t)).cell? ((⟨n, 0, none⟩ : Addr).add j) = some u := by
  subst hn
  intro j u hj
  match j, hj with
  | 0, hj => simp at hj; subst hj; simp [Addr.add]
  | j + 1, hj => simp at hj

theorem kids_false {n : Nd} {k r : Fo} {pk : Int} {i : Nat} {ops : List ByteArray} (h : specTree n k (role pk i) = false) : specKids (.tree n k r) pk i ops = false := by
  simp only [specKids]
  unfold specTree at h
  rw [← Bool.and_assoc, h, Bool.false_and]

theorem kids_next {n : Nd} {k r : Fo} {pk : Int} {i : Nat} {ops : List ByteArray} (h : specTree n k (role pk i) = true) (hc : role pk i ≠ 2) : specKids (.tree n k r) pk i ops = specKids r pk (i + 1) ops := by
  simp only [specKids]
  unfold specTree at h
  rw [← Bool.and_assoc, h, Bool.true_and, if_neg hc]

theorem kids_in_false {n : Nd} {k r : Fo} {pk : Int} {i : Nat} {ops : List ByteArray} (hc : role pk i = 2) (hi : isIn ops n.a = true) : specKids (.tree n k r) pk i ops = false := by
  simp only [specKids]
  rw [if_pos hc, hi, Bool.not_true, Bool.false_and, Bool.and_false, Bool.and_false]

theorem kids_in_next {n : Nd} {k r : Fo} {pk : Int} {i : Nat} {ops : List ByteArray} (h : specTree n k (role pk i) = true) (hc : role pk i = 2) (hi : isIn ops n.a = false) : specKids (.tree n k r) pk i ops = specKids r pk (i + 1) (ops ++ [n.a]) := by
  simp only [specKids]
  unfold specTree at h
  rw [← Bool.and_assoc, h, Bool.true_and, if_pos hc, hi, Bool.not_false, Bool.true_and]

theorem role_cases (pk : Int) (i : Nat) (h : role pk i ≠ 2) : ((pk == 23) = false ∧ (pk == 24) = false ∧ role pk i = 0) ∨ ((pk == 23) = true ∧ (i : Int) ≤ 2 ∧ ((i : Int) == 2) = false ∧ role pk i = i) ∨ ((pk == 23) = false ∧ (pk == 24) = true ∧ (i : Int) ≤ 2 ∧ ((i : Int) == 2) = false ∧ role pk i = i) := by
  simp only [beq_iff_eq, beq_eq_false_iff_ne]
  unfold role at *
  split at h
  · rename_i hp
    rw [if_pos hp]
    split at h
    · exact absurd rfl h
    · rename_i h2
      rw [if_neg h2]
      omega
  · rename_i hp
    rw [if_neg hp]
    omega

theorem role_cases2 (pk : Int) (i : Nat) (h : role pk i = 2) : ((pk == 23) = true ∧ (i : Int) ≤ 2 ∧ ((i : Int) == 2) = true ∧ role pk i = i) ∨ ((pk == 23) = true ∧ (2 : Int) < (i : Int)) ∨ ((pk == 23) = false ∧ (pk == 24) = true ∧ (i : Int) ≤ 2 ∧ ((i : Int) == 2) = true ∧ role pk i = i) ∨ ((pk == 23) = false ∧ (pk == 24) = true ∧ (2 : Int) < (i : Int)) := by
  rw [h]
  simp only [beq_iff_eq, beq_eq_false_iff_ne]
  unfold role at h
  split at h
  · split at h <;> omega
  · omega

set_option maxHeartbeats 4000000 in
set_option maxRecDepth 100000 in
theorem clauses_calls (b off cap : Nat) (ns : List Nd) (hm : ns.length ≤ 1000000) : ∀ (N : Nat) (n : Nd) (k : Fo) (suf : List Nd) (p c : Nat) (w : World), c ≤ 2 → b < w.heap.size → NodesAt w b off ns → ns.drop p = n :: (k.flat ++ suf) → n.kids = k.count → k.wf → k.flat.length < N →
    Calls Tryz.prog 71 #[.slice (some ⟨b, off, none⟩) ns.length cap, .int .i64 p, .int .i64 c] w fun e w' => e = .returned (.bool (specTree n k c)) ∧ Below w.heap.size w w' := by
  intro N
  induction N with
  | zero => intro n k suf p c w _ _ _ _ _ _ h; omega
  | succ N ih =>
    intro n k suf p c w hc hbw hn hp hkc hk hN
    obtain ⟨hpl, hnd, hp1⟩ := at_drop hp
    have c0 := hn p hpl 0 (by omega)
    have c1 := hn p hpl 1 (by omega)
    have c2 := hn p hpl 2 (by omega)
    have c3 := hn p hpl 3 (by omega)
    have c4 := hn p hpl 4 (by omega)
    have c5 := hn p hpl 5 (by omega)
    rw [hnd] at c0 c1 c2 c3 c4 c5
    simp only [Nd.cell, Nat.add_zero] at c0 c1 c2 c3 c4 c5
    cases hh : headOk n c with
    | false => exact clauses_bad b off ns.length cap n k p c w hpl c0 c1 c2 c3 c4 c5 hc hh
    | true =>
      have hR : specTree n k c = specKids k n.kind 0 [] := by rw [specTree, hh]; rfl
      rw [hR]
      obtain ⟨R, hRd⟩ : ∃ R, specKids k n.kind 0 [] = R := ⟨_, rfl⟩
      rw [hRd]
      have hkl : k.flat.length ≤ ns.length := by
        have : (ns.drop (p + 1)).length = k.flat.length + suf.length := by rw [hp1, List.length_append]
        rw [List.length_drop] at this
        omega
      have hkk := Fo.count_le k
      rw [hkc] at c5
      have HS : Hid (specKids k n.kind 0 [] = R) := hRd
      have HI : Hid (∀ (n : Nd) (k : Fo) (suf : List Nd) (p c : Nat) (w : World), _) := ih
      have HN : Hid (NodesAt w b off ns) := hn
      have HM : Hid (ns.length ≤ 1048576) := by show _ ≤ _; omega
      have H1 : Hid (ns.drop (p + 1) = k.flat ++ suf) := hp1
      have Hk : Hid k.wf := hk
      obtain ⟨len, hlen⟩ : ∃ len, ns.length = len := ⟨_, rfl⟩
      have Hlen : Hid (ns.length = len) := hlen
      rw [hlen] at hm hpl hkl ⊢
      clear ih hn hp hp1 hk hnd hlen hkc hR hRd
      obtain ⟨kc, hkc⟩ : ∃ kc, k.count = kc := ⟨_, rfl⟩
      have Hkc : Hid (k.count = kc) := hkc
      rw [hkc] at c5 hkk
      have HP : Hid (len ≤ 1000000 ∧ p < len ∧ k.flat.length ≤ len ∧ kc ≤ k.flat.length ∧ k.flat.length < N + 1) := ⟨hm, hpl, hkl, hkk, hN⟩
      clear hkc hm hkl hkk hN
      have cases3 : (n.kind == 25) = true ∧ (n.kind == 26) = false ∧ c = 1 ∨ (n.kind == 25) = false ∧ (n.kind == 26) = true ∧ c = 2 ∧ (n.b.toList == n.c.toList) = false ∨ (n.kind == 25) = false ∧ (n.kind == 26) = false ∧ c = 0 := by
        have hc3 : c = 0 ∨ c = 1 ∨ c = 2 := by omega
        have hx : ¬ ((n.kind == 25) = true ∧ (n.kind == 26) = true) := by
          simp only [beq_iff_eq]
          omega
        simp only [headOk, ok26] at hh
        revert hh hx
        rcases hc3 with rfl | rfl | rfl <;> cases (n.kind == 25) <;> cases (n.kind == 26) <;> cases (n.b.toList == n.c.toList) <;> decide
      have cases4 : (n.kind == 25) = true ∧ (n.kind == 26) = false ∧ (c : Int) = 1 ∨ (n.kind == 25) = false ∧ (n.kind == 26) = true ∧ (c : Int) = 2 ∧ (n.b.toList == n.c.toList) = false ∨ (n.kind == 25) = false ∧ (n.kind == 26) = false ∧ (c : Int) = 0 := by
        rcases cases3 with ⟨k5, k6, rfl⟩ | ⟨k5, k6, rfl, h4⟩ | ⟨k5, k6, rfl⟩
        · exact Or.inl ⟨k5, k6, rfl⟩
        · exact Or.inr (Or.inl ⟨k5, k6, rfl, h4⟩)
        · exact Or.inr (Or.inr ⟨k5, k6, rfl⟩)
      clear hh hc cases3
      generalize (c : Int) = ci at cases4 ⊢
      clear c
      obtain ⟨kd, num, a, bb, cc, kids⟩ := n
      dsimp only at *
      have htt : (true != true) = false := rfl
      have hff : (false != false) = false := rfl
      rcases cases4 with ⟨k5, k6, rfl⟩ | ⟨k5, k6, rfl, h4⟩ | ⟨k5, k6, rfl⟩
      all_goals
        go_enter Tryz.func71, Tryz.ntmps71
        go_wp2_with fail
      all_goals
        clear c0 c1 c2 c3 c4 c5 htt hff
        go_loopw [8, 9, 10] (fun q o i wr => ∃ (q' i' : Nat) (r : Fo) (ops : List ByteArray), q = .int .i64 q' ∧ i = .int .i64 i' ∧ Hid (ns.drop q' = r.flat ++ suf ∧ r.wf ∧ i' + r.count = kc ∧ r.flat.length < N + 1 ∧ specKids r kd i' ops = R ∧ ops.length ≤ i') ∧ wr.ownsRow (w.heap.size + 1) 9 1 o ops.length (strs ops) ∧ wr.heap[w.heap.size]? = some (.cells #[.int .i64 kd, .int .i64 num, .string a, .string bb, .string cc, .int .i64 kc] 81) ∧ Below w.heap.size w wr) (fun _ _ i _ => kc - (intOf i).toNat)
        case atStart =>
          rw [wrap_succ (by have := HP.out; omega)]
          exact ⟨p + 1, 0, k, [], rfl, rfl, ⟨H1.out, Hk.out, by rw [Hkc.out]; omega, HP.out.2.2.2.2, HS.out, Nat.le_refl _⟩, World.ownsRow_nil _ _ _ _, (MapKept.heap_alloc w _).1, (Below.refl _ _).alloc (Nat.le_refl _) _⟩
        case round =>
          obtain ⟨q', i', r, ops, rfl, rfl, HR, hown, eA, hnx⟩ := hrel
          have a0 := cell_of_heap eA 0
          have a5 := cell_of_heap eA 5
          simp at a0 a5
          have hltA := heap_lt eA
          cases r with
          | none =>
            obtain ⟨_, _, h1, _, h2, _⟩ := HR.out
            simp only [Fo.count, specKids] at h1 h2
            have h1' : i' = kc := by omega
            subst h1' h2
            clear HR h1 HI HN HM H1 Hk Hlen Hkc HS eA hown
            go_wp2_with fail
            go_ret
            exact ⟨rfl, hnx⟩
          | tree n' k' r' =>
            obtain ⟨h0, hw, h1, h3, h4', h5'⟩ := HR.out
            obtain ⟨hw0, hw1, hw2⟩ := hw
            simp only [Fo.count, Fo.flat, List.length_cons, List.length_append] at h1 h3
            simp only [Fo.flat, List.cons_append, List.append_assoc] at h0
            obtain ⟨hql, hqn, hq1⟩ := at_drop h0
            have hnw : NodesAt wr b off ns := HN.out.below hnx hbw
            have hend : treeEnd ns q' = _ := treeEnd_at h0 hw0 hw1
            have hnew := drop_past hq1
            have hrl := role_le kd i'
            have hIH := fun w (hb : b < w.heap.size) (hn : NodesAt w b off ns) => HI.out n' k' (r'.flat ++ suf) q' (role kd i') w hrl hb hn h0 hw0 hw1 (by omega)
            have hi : (i' : Int) < (kc : Int) := by omega
            have HX : Hid (ns.drop (q' + 1 + k'.flat.length) = r'.flat ++ suf ∧ r'.wf ∧ i' + 1 + r'.count = kc ∧ r'.flat.length < N + 1 ∧ ops.length ≤ i') := ⟨hnew, hw2, by omega, by omega, h5'⟩
            have HC : Hid (∀ w, _) := hIH
            have HQ : Hid (q' < ns.length ∧ ns.getD q' default = n' ∧ treeEnd ns q' = ((q' + 1 + k'.flat.length : Nat) : Int)) := ⟨hql, hqn, hend⟩
            have HV : Hid (specKids (.tree n' k' r') kd i' ops = R) := h4'
            have HW : Hid (NodesAt wr b off ns) := hnw
            clear HR h0 hw0 hw1 hw2 hql hqn hq1 hnw hend hnew hIH h4' h5' h1 h3 HI
            rw [Hlen.out] at HC
            by_cases hc2 : role kd i' = 2
            · have hf : specTree n' k' (role kd i') = false → Hid (R = false) := fun h => by rw [← HV.out]; exact kids_false h
              have ht : specTree n' k' (role kd i') = true → isIn ops n'.a = false → Hid (specKids r' kd (i' + 1) (ops ++ [n'.a]) = R) := fun h h' => by rw [← HV.out]; exact (kids_in_next h hc2 h').symm
              have hin : isIn ops n'.a = true → Hid (R = false) := fun h => by rw [← HV.out]; exact kids_in_false hc2 h
              rcases role_cases2 kd i' hc2 with ⟨k23, hi2, heq, hr⟩ | ⟨k23, hgt⟩ | ⟨k23, k24, hi2, heq, hr⟩ | ⟨k23, k24, hgt⟩
              all_goals
                try (exfalso; have e := eq_of_beq k23; subst e; revert k5 k6; decide)
                try (exfalso; have e := eq_of_beq k24; subst e; revert k5 k6; decide)
              all_goals
                first
                  | rw [hr] at HC hf ht
                  | rw [hc2] at HC hf ht
                try clear hr
                clear hc2 hrl HV
                go_wp2_with fail
                refine (HC.out wr (by have := hnx.size; omega) HW.out).mono ?_
                rintro e w3 ⟨rfl, hb3⟩
                have eA3 := (hb3.block w.heap.size hltA).trans eA
                have hltA3 := heap_lt eA3
                have hown3 := owns_below hown hb3
                have hnx3 := hnx.trans (hb3.mono hnx.size)
                have HT : Hid (∀ w, NodesAt w b off ns → _) := fun w h => specEnd_calls b off cap ns q' w h HM.out
                rw [HQ.out.2.2, Hlen.out] at HT
                have hqi : q' < len := by have := HQ.out.1; rw [Hlen.out] at this; exact this
                have q2 := HN.out.below hnx3 hbw q' HQ.out.1 2 (by omega)
                rw [HQ.out.2.1] at q2
                simp only [Nd.cell] at q2
                have hA := isIn_calls _ _ ops n'.a w3 (by have := HP.out; have := HX.out; omega) hown3
                clear HC HW hb3 eA hown hnx a0 a5 hltA
                generalize q' + 1 + k'.flat.length = ee at *
                cases hst : specTree n' k' _ with
                | false =>
                  have HF := hf hst
                  clear hf ht hin hA
                  go_wp2_with fail
                  go_ret
                  exact ⟨by rw [HF.out]; rfl, hnx3⟩
                | true =>
                  cases hii : isIn ops n'.a with
                  | true =>
                    have HF := hin hii
                    rw [hii] at hA
                    have HA : Hid (Calls _ _ _ _ _) := hA
                    clear hf ht hin hA
                    go_wp2_with fail
                    refine HA.out.mono ?_
                    rintro e w4 ⟨rfl, rfl⟩
                    go_wp2_with fail
                    go_ret
                    exact ⟨by rw [HF.out]; rfl, hnx3⟩
                  | false =>
                    have HG := ht hst hii
                    rw [hii] at hA
                    have HA : Hid (Calls _ _ _ _ _) := hA
                    clear hf ht hin hA
                    go_wp2_with fail
                    refine HA.out.mono ?_
                    rintro e w4 ⟨rfl, rfl⟩
                    have hol : Hid (ops.length ≤ 1048576) := by show _ ≤ _; have := HP.out; have := HX.out; omega
                    obtain ⟨i0, hinf, hz0, hz1, hz2⟩ := info_parts info_str
                    go_wp2_with (first
                      | (at_builtin; refine wpList_append_own _ rfl _ _ 43 rfl (w.heap.size + 1) 9 i0 (.string ⟨#[]⟩) 1 16 Tryz.underlying43 hinf hz0 hz1 hz2 rfl (by decide) _ _ _ rfl (hown3.alloc _) ⟨w3.heap.size, 0, none⟩ 1 1 [.string n'.a] rfl rfl (cell_one_new _ _ rfl _ _) (fun x hx => by simp at hx; subst hx; rfl) (by have := hol.out; unfold maxLen; omega) (by have := hol.out; omega) (by simp; omega) ?_
                         intro v' w5 hown' hgrow hnil
                         have eA5 : Hid (w5.heap[w.heap.size]? = some (.cells #[.int .i64 kd, .int .i64 num, .string a, .string bb, .string cc, .int .i64 kc] 81)) := by
                           show w5.heap[w.heap.size]? = _
                           rw [hgrow.block w.heap.size (by simp; omega) (fun h => by have := (hown3.lt _ h.symm).1; omega), Below.heap_alloc _ _ _ hltA3]
                           exact eA3
                         have hnx5 : Below w.heap.size w w5 := Below.grown (hnx3.alloc (by omega) _) hgrow (by simp; omega) (fun j hj => by have := (hown3.lt _ hj).1; omega)
                         clear hgrow hnil eA3 hown3 hnx3 q2))
                    refine (HT.out w5 (HN.out.below hnx5 hbw)).mono ?_
                    rintro e w6 ⟨rfl, rfl⟩
                    go_wp2_with fail
                    have hi9 : i' ≤ 1048576 := by have := HP.out; omega
                    try rw [wrap_succ hi9]
                    refine ⟨⟨ee, i' + 1, r', ops ++ [n'.a], rfl, rfl, ⟨HX.out.1, HX.out.2.1, HX.out.2.2.1, HX.out.2.2.2.1, HG.out, ?_⟩, ?_, eA5.out, hnx5⟩, lt_step hi⟩
                    · rw [List.length_append]
                      exact Nat.succ_le_succ HX.out.2.2.2.2
                    · rw [List.length_append, strs, List.map_append]
                      exact hown'
            · have hf : specTree n' k' (role kd i') = false → Hid (R = false) := fun h => by rw [← HV.out]; exact kids_false h
              have ht : specTree n' k' (role kd i') = true → Hid (specKids r' kd (i' + 1) ops = R) := fun h => by rw [← HV.out]; exact (kids_next h hc2).symm
              rcases role_cases kd i' hc2 with ⟨k23, k24, hr⟩ | ⟨k23, hi2, hne, hr⟩ | ⟨k23, k24, hi2, hne, hr⟩
              all_goals
                try (exfalso; have e := eq_of_beq k23; subst e; revert k5 k6; decide)
                try (exfalso; have e := eq_of_beq k24; subst e; revert k5 k6; decide)
              all_goals
                rw [hr] at HC hf ht
                clear hc2 hrl hr HV
                go_wp2_with fail
                refine (HC.out wr (by have := hnx.size; omega) HW.out).mono ?_
                rintro e w3 ⟨rfl, hb3⟩
                have eA3 := (hb3.block w.heap.size hltA).trans eA
                have hown3 := owns_below hown hb3
                have hnx3 := hnx.trans (hb3.mono hnx.size)
                have hE := specEnd_calls b off cap ns q' w3 (HN.out.below hnx3 hbw) HM.out
                rw [HQ.out.2.2, Hlen.out] at hE
                have HT : Hid (Calls _ _ _ _ _) := hE
                clear HC HW hb3 eA hown hnx hE a0 a5 hltA
                generalize q' + 1 + k'.flat.length = ee at *
                cases hst : specTree n' k' _ with
                | false =>
                  have HF := hf hst
                  clear hf ht
                  go_wp2_with fail
                  go_ret
                  exact ⟨by rw [HF.out]; rfl, hnx3⟩
                | true =>
                  have HG := ht hst
                  clear hf ht
                  go_wp2_with fail
                  refine HT.out.mono ?_
                  rintro e w4 ⟨rfl, rfl⟩
                  go_wp2_with fail
                  have hi9 : i' ≤ 1048576 := by have := HP.out; omega
                  try rw [wrap_succ hi9]
                  exact ⟨⟨ee, i' + 1, r', ops, rfl, rfl, ⟨HX.out.1, HX.out.2.1, HX.out.2.2.1, HX.out.2.2.2.1, HG.out, Nat.le_succ_of_le HX.out.2.2.2.2⟩, hown3, eA3, hnx3⟩, lt_step hi⟩
end Go.Proofs.YtgiejnmphfgmgaaGreatDoor
