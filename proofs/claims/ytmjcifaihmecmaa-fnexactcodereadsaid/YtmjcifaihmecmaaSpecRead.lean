/- The specification's reading of code is the plain one: the walk. -/
import Derived.Test.YtmjcifaihmecmaaSpecReadA
namespace Go.Proofs.Ytmjcifaihmecmaa
open Go.RowKit

set_option maxHeartbeats 4000000 in
set_option maxRecDepth 100000 in
theorem specRead_rows (b off : Nat) (bs : List Int) (w : World) (hb : b < w.heap.size) (hn : BytesAt w b off bs) (hB : ∀ x ∈ bs, IsB x) :
    Calls Try.prog 18 #[.slice (some ⟨b, off, none⟩) bs.length bs.length] w fun e w' => (∃ v, e = .returned (.tuple #[v, .bool (readZ bs).isSome]) ∧ OwnsI w.heap.size w' v ((readZ bs).getD [])) ∧ Below w.heap.size w w' := by
  obtain ⟨len, hlen⟩ : ∃ len, bs.length = len := ⟨_, rfl⟩
  have Hlen := hid hlen
  have HN := hid hn
  have HB := hid hB
  clear hn hB
  rw [hlen]
  by_cases hbig : (20000 : Int) < (len : Int)
  · have hz : readZ bs = none := by unfold readZ; rw [if_pos (Or.inl (by omega))]
    rw [hz]
    go_enter Try.func18, Try.ntmps18
    go_wp2_with fail
    go_ret2
    exact ⟨⟨_, rfl, World.ownsRow_nil _ _ _ _⟩, Below.refl _ _⟩
  by_cases hsm : (len : Int) < 3
  · have hz : readZ bs = none := by
      unfold readZ
      rw [if_pos (Or.inr (fun h => by
        have := congrArg List.length h
        simp [headBytes] at this
        omega))]
    rw [hz]
    go_enter Try.func18, Try.ntmps18
    go_wp2_with fail
    go_ret2
    exact ⟨⟨_, rfl, World.ownsRow_nil _ _ _ _⟩, Below.refl _ _⟩
  have HM : Hid (3 ≤ len ∧ len ≤ 20000) := ⟨by omega, by omega⟩
  obtain ⟨RZ, hRZ⟩ : ∃ RZ, readZ bs = RZ := ⟨_, rfl⟩
  have HRZ := hid hRZ
  rw [hRZ]
  clear hRZ hlen
  go_enter Try.func18, Try.ntmps18
  go_wp2_with fail
  obtain ⟨i0, hi, hz0, hz1, hz2⟩ := info_parts info_ins
  go_loopw [4, 5] (fun o i wr => ∃ (p : Nat) (c : List In), i = .int .i64 p ∧ 3 ≤ p ∧ p ≤ len ∧ OwnsI w.heap.size wr o c ∧ Hid (parse (bs.drop 3) = (parse (bs.drop p)).map (c ++ ·)) ∧ Hid (c.length ≤ p) ∧ Below w.heap.size w wr) (fun _ i _ => len - (intOf i).toNat)
  case atStart => exact ⟨3, [], rfl, Nat.le_refl _, HM.out.1, World.ownsRow_nil _ _ _ _, by simp [Hid], Nat.zero_le _, Below.refl _ _⟩
  case round =>
    obtain ⟨p, c, rfl, hp3, hpl, hown, HP, HCL, hnx⟩ := hrel
    have hszr := hnx.size
    by_cases hlt : (p : Int) < (len : Int)
    · have hpn : p < bs.length := by rw [Hlen.out]; omega
      have hcell := fun k (hk : k < bs.length) => (hnx.cell (p := ⟨b, off + k, none⟩) hb).trans (HN.out k hk)
      have c0 := hcell p hpn
      have HD : Hid (bs.drop p = bs.getD p 0 :: bs.drop (p + 1)) := by
        show _ = _
        rw [List.drop_eq_getElem_cons hpn]
        simp [List.getD, List.getElem?_eq_getElem hpn]
      have HCE := hid hcell
      have HOP : Hid (IsB (bs.getD p 0)) := HB.out _ (by simp [List.getD, List.getElem?_eq_getElem hpn])
      have HG : Hid (∀ j, (bs.drop (p + 1)).getD j 0 = bs.getD (p + 1 + j) 0) := fun j => by simp [List.getD, List.getElem?_drop]
      have HRL : Hid ((bs.drop (p + 1)).length = len - (p + 1)) := by show _ = _; rw [List.length_drop, Hlen.out]
      clear hcell hpn
      generalize bs.getD p 0 = op at *
      have hwr : wrap64 op = op := by have := HOP.out; unfold IsB at this; unfold wrap64; omega
      go_wp2_with fail
      refine (l5Many_calls _ _).mono ?_
      rintro e W5 ⟨rfl, rfl⟩
      have hp20 : (p : Int) < 20000 := by have := HM.out.2; omega
      by_cases hneg : manyZ op < 0
      · have HF : Hid (RZ = none) := by
          show _ = _
          rw [← HRZ.out]
          have := HP.out
          rw [HD.out] at this
          exact read_bad bs this hneg
        generalize manyZ op = mo at *
        go_wp2_with fail
        go_ret2
        rw [HF.out]
        exact ⟨⟨_, rfl, World.ownsRow_nil _ _ _ _⟩, hnx.alloc hszr _⟩
      obtain ⟨mm, hmm⟩ : ∃ mm : Nat, manyZ op = (mm : Int) := ⟨(manyZ op).toNat, by omega⟩
      have HMA : Hid (insMany op = mm) := by show _ = _; rw [← many_eq, hmm, Int.toNat_natCast]
      have hm3 : mm ≤ 3 := by rw [← HMA.out]; exact insMany_le op
      rw [hmm]
      clear hneg hmm
      by_cases hover : (len : Int) < (p : Int) + 1 + 4 * (mm : Int)
      · have HF : Hid (RZ = none) := by
          show _ = _
          rw [← HRZ.out]
          have h1 := HP.out
          rw [HD.out, parse_cons, HMA.out, if_neg (by rw [HRL.out]; omega)] at h1
          exact read_none bs h1
        clear HP HD HCE HG HRL HOP hown
        have hm4 : (mm : Int) < 4 := by omega
        go_wp2_with fail
        go_ret2
        rw [HF.out]
        exact ⟨⟨_, rfl, World.ownsRow_nil _ _ _ _⟩, hnx.alloc hszr _⟩
      have HSZ : Hid (p + 1 + 4 * mm ≤ len) := by show _ ≤ _; omega
      have HPN : Hid (parse (bs.drop 3) = (parse (bs.drop (p + 1 + 4 * mm))).map ((c ++ [insOf op (bs.drop (p + 1))]) ++ ·)) := by
        show _ = _
        have h1 := HP.out
        rw [HD.out, parse_cons, HMA.out, if_pos (by rw [HRL.out]; omega), List.drop_drop] at h1
        rw [h1, Option.map_map]
        congr 1
        funext l
        simp
      have HII : Hid (insOf op (bs.drop (p + 1)) = ⟨op, if 0 < mm then numAt (bs.drop (p + 1)) 0 else 0, if 1 < mm then numAt (bs.drop (p + 1)) 4 else 0, if 2 < mm then numAt (bs.drop (p + 1)) 8 else 0⟩) := by
        show _ = _
        unfold insOf
        rw [HMA.out]
      clear HP HD
      have HPB : Hid (p + 1 + 4 * mm ≤ len) := HSZ
      obtain ⟨mi, hmi⟩ : ∃ mi : Int, (mm : Int) = mi := ⟨_, rfl⟩
      have HMI := hid hmi
      have hp1 : (0 : Int) ≤ (p : Int) + 1 := by omega
      have hq : mi = 0 ∨ mi = 1 ∨ mi = 2 ∨ mi = 3 := by omega
      rw [hmi] at hover
      rw [hmi]
      clear hmi hm3
      have h6 := (MapKept.heap_alloc wr (.cells #[.int .i64 op, .int .i64 0, .int .i64 0, .int .i64 0] 25)).1
      have hownc := World.ownsRow.alloc hown (.cells #[.int .i64 op, .int .i64 0, .int .i64 0, .int .i64 0] 25)
      have hnxc := hnx.alloc hszr (.cells #[.int .i64 op, .int .i64 0, .int .i64 0, .int .i64 0] 25)
      have hne : some wr.heap.size ≠ u4.ownBlock := fun e => by have := (World.ownsRow.lt hown _ e.symm).2; omega
      have hlt6 := heap_lt h6
      have hB6 : w.heap.size ≤ wr.heap.size := hszr
      clear hown hnx c0 hszr
      generalize wr.alloc (.cells #[.int .i64 op, .int .i64 0, .int .i64 0, .int .i64 0] 25) = WA at *
      generalize wr.heap.size = B6 at *
      rcases hq with rfl | rfl | rfl | rfl
      · skip
        have d0 := cell_of_heap h6 0
        have d1 := cell_of_heap h6 1
        have d2 := cell_of_heap h6 2
        have d3 := cell_of_heap h6 3
        simp at d0 d1 d2 d3
        have HIV : Hid (insOf op (bs.drop (p + 1)) = ⟨op, 0, 0, 0⟩) := by
          show _ = _
          have hm : mm = 0 := by have := HMI.out; omega
          rw [HII.out, hm]
          rfl
        have HOW := hid hownc
        have HNX := hid hnxc
        have hszx := hnxc.size
        clear hownc hnxc h6 HII
        go_wp2_with (first
          | (at_builtin; refine wpList_append_own _ rfl _ _ 33 rfl w.heap.size 25 i0 (.agg #[.int .i64 0, .int .i64 0, .int .i64 0, .int .i64 0]) 4 32 Try.underlying33 hi hz0 hz1 hz2 rfl (by decide) _ _ _ rfl (World.ownsRow.alloc HOW.out _) ⟨_, 0, none⟩ 1 1 [.int .i64 op, .int .i64 0, .int .i64 0, .int .i64 0] rfl rfl (cell_four_new _ _ (by simp) _ _ _ _ _) (fun u hu => by simp at hu; rcases hu with rfl | rfl | rfl | rfl <;> rfl) (by have := HCL.out; have := HM.out.2; unfold maxLen; omega) (by have := HCL.out; have := HM.out.2; omega) (by simp; omega) ?_
             intro v' w3 hown3 hgrow3 _
             have HX3 : Hid (OwnsI w.heap.size w3 v' (c ++ [insOf op (bs.drop (p + 1))])) := by
               rw [HIV.out]
               unfold OwnsI
               rw [List.length_append, show insRow (c ++ [⟨op, 0, 0, 0⟩]) = insRow c ++ [.int .i64 op, .int .i64 0, .int .i64 0, .int .i64 0] by simp [insRow]]
               exact hown3
             have hnx3 : Below w.heap.size w w3 := Below.grown (HNX.out.alloc (by omega) _) hgrow3 (by simp; omega) (fun j hj => by have := (World.ownsRow.lt HOW.out _ hj).1; omega)
             clear hown3 hgrow3 HOW HNX HIV))
        rw [show ((p : Int) + 1) = ((p + 1 + 4 * mm : Nat) : Int) by have := HMI.out; omega]
        exact ⟨⟨p + 1 + 4 * mm, c ++ [insOf op (bs.drop (p + 1))], rfl, by omega, HSZ.out, HX3.out, HPN, by show _ ≤ _; have := HCL.out; rw [List.length_append, List.length_singleton]; omega, hnx3⟩, by simp only [intOf, Int.toNat_natCast]; have := HSZ.out; omega⟩
      · skip
        have hs1 : (p : Int) + 1 ≤ (len : Int) := by omega
        have hr1 : (0 : Int) ≤ (p : Int) + 1 := by omega
        go_wp2_with fail
        refine (l5Num_at b off bs (p + 1) _ _ (HN.out.below hnxc hb) HB.out (by have := HSZ.out; have := HMI.out; rw [Hlen.out]; omega) (by have := HSZ.out; have := HMI.out; omega)).mono ?_
        rintro e W1 ⟨rfl, hbd⟩
        have h6d := (hbd.block B6 hlt6).trans h6
        have d0 := cell_of_heap h6d 0
        have d1 := cell_of_heap h6d 1
        have d2 := cell_of_heap h6d 2
        have d3 := cell_of_heap h6d 3
        have ff := frozen_of_heap h6d 1
        simp at d0 d1 d2 d3 ff
        have hltd := heap_lt h6d
        have hownd := kept_owns hownc hbd
        have hnxd := hnxc.trans (hbd.mono hnxc.size)
        have HN1 := hid (show numAt bs (p + 1) = numAt (bs.drop (p + 1)) 0 from (numAt_drop bs (p + 1) 0).symm)
        generalize numAt bs (p + 1) = N1 at *
        clear hownc hnxc h6 hbd hlt6
        have h6 := ins_set1 h6d (.int .i64 N1)
        have hownc := owns_set (off := 1) (u := .int .i64 N1) hownd hne
        have hnxc := hnxd.setCell (p := ⟨B6, 1, none⟩) hB6 (.int .i64 N1)
        have hlt6 := heap_lt h6
        clear h6d hownd hnxd
        have HIV : Hid (insOf op (bs.drop (p + 1)) = ⟨op, N1, 0, 0⟩) := by
          show _ = _
          have hm : mm = 1 := by have := HMI.out; omega
          rw [HII.out, hm, HN1.out]
          rfl
        have HOW := hid hownc
        have HNX := hid hnxc
        have hszx := hnxc.size
        clear hownc hnxc h6 HII
        go_wp2_with (first
          | (at_builtin; refine wpList_append_own _ rfl _ _ 33 rfl w.heap.size 25 i0 (.agg #[.int .i64 0, .int .i64 0, .int .i64 0, .int .i64 0]) 4 32 Try.underlying33 hi hz0 hz1 hz2 rfl (by decide) _ _ _ rfl (World.ownsRow.alloc HOW.out _) ⟨_, 0, none⟩ 1 1 [.int .i64 op, .int .i64 N1, .int .i64 0, .int .i64 0] rfl rfl (cell_four_new _ _ (by simp) _ _ _ _ _) (fun u hu => by simp at hu; rcases hu with rfl | rfl | rfl | rfl <;> rfl) (by have := HCL.out; have := HM.out.2; unfold maxLen; omega) (by have := HCL.out; have := HM.out.2; omega) (by simp; omega) ?_
             intro v' w3 hown3 hgrow3 _
             have HX3 : Hid (OwnsI w.heap.size w3 v' (c ++ [insOf op (bs.drop (p + 1))])) := by
               rw [HIV.out]
               unfold OwnsI
               rw [List.length_append, show insRow (c ++ [⟨op, N1, 0, 0⟩]) = insRow c ++ [.int .i64 op, .int .i64 N1, .int .i64 0, .int .i64 0] by simp [insRow]]
               exact hown3
             have hnx3 : Below w.heap.size w w3 := Below.grown (HNX.out.alloc (by omega) _) hgrow3 (by simp; omega) (fun j hj => by have := (World.ownsRow.lt HOW.out _ hj).1; omega)
             clear hown3 hgrow3 HOW HNX HIV))
        rw [show ((p : Int) + 1 + 4) = ((p + 1 + 4 * mm : Nat) : Int) by have := HMI.out; omega]
        exact ⟨⟨p + 1 + 4 * mm, c ++ [insOf op (bs.drop (p + 1))], rfl, by omega, HSZ.out, HX3.out, HPN, by show _ ≤ _; have := HCL.out; rw [List.length_append, List.length_singleton]; omega, hnx3⟩, by simp only [intOf, Int.toNat_natCast]; have := HSZ.out; omega⟩
      · skip
        have hs1 : (p : Int) + 1 ≤ (len : Int) := by omega
        have hr1 : (0 : Int) ≤ (p : Int) + 1 := by omega
        have hs2 : (p : Int) + 5 ≤ (len : Int) := by omega
        have hr2 : (0 : Int) ≤ (p : Int) + 5 := by omega
        go_wp2_with fail
        refine (l5Num_at b off bs (p + 1) _ _ (HN.out.below hnxc hb) HB.out (by have := HSZ.out; have := HMI.out; rw [Hlen.out]; omega) (by have := HSZ.out; have := HMI.out; omega)).mono ?_
        rintro e W1 ⟨rfl, hbd⟩
        have h6d := (hbd.block B6 hlt6).trans h6
        have d0 := cell_of_heap h6d 0
        have d1 := cell_of_heap h6d 1
        have d2 := cell_of_heap h6d 2
        have d3 := cell_of_heap h6d 3
        have ff := frozen_of_heap h6d 1
        simp at d0 d1 d2 d3 ff
        have hltd := heap_lt h6d
        have hownd := kept_owns hownc hbd
        have hnxd := hnxc.trans (hbd.mono hnxc.size)
        have HN1 := hid (show numAt bs (p + 1) = numAt (bs.drop (p + 1)) 0 from (numAt_drop bs (p + 1) 0).symm)
        generalize numAt bs (p + 1) = N1 at *
        clear hownc hnxc h6 hbd hlt6
        have h6 := ins_set1 h6d (.int .i64 N1)
        have hownc := owns_set (off := 1) (u := .int .i64 N1) hownd hne
        have hnxc := hnxd.setCell (p := ⟨B6, 1, none⟩) hB6 (.int .i64 N1)
        have hlt6 := heap_lt h6
        clear h6d hownd hnxd
        go_wp2_with fail
        clear d0 d1 d2 d3 ff hltd
        generalize W1.setCell ⟨B6, 1, none⟩ (.int .i64 N1) = X1 at *
        refine (l5Num_at b off bs (p + 5) _ _ (HN.out.below hnxc hb) HB.out (by have := HSZ.out; have := HMI.out; rw [Hlen.out]; omega) (by have := HSZ.out; have := HMI.out; omega)).mono ?_
        rintro e W2 ⟨rfl, hbd⟩
        have h6d := (hbd.block B6 hlt6).trans h6
        have d0 := cell_of_heap h6d 0
        have d1 := cell_of_heap h6d 1
        have d2 := cell_of_heap h6d 2
        have d3 := cell_of_heap h6d 3
        have ff := frozen_of_heap h6d 2
        simp at d0 d1 d2 d3 ff
        have hltd := heap_lt h6d
        have hownd := kept_owns hownc hbd
        have hnxd := hnxc.trans (hbd.mono hnxc.size)
        have HN2 := hid (show numAt bs (p + 5) = numAt (bs.drop (p + 1)) 4 from (numAt_drop bs (p + 1) 4).symm)
        generalize numAt bs (p + 5) = N2 at *
        clear hownc hnxc h6 hbd hlt6
        have h6 := ins_set2 h6d (.int .i64 N2)
        have hownc := owns_set (off := 2) (u := .int .i64 N2) hownd hne
        have hnxc := hnxd.setCell (p := ⟨B6, 2, none⟩) hB6 (.int .i64 N2)
        have hlt6 := heap_lt h6
        clear h6d hownd hnxd
        have HIV : Hid (insOf op (bs.drop (p + 1)) = ⟨op, N1, N2, 0⟩) := by
          show _ = _
          have hm : mm = 2 := by have := HMI.out; omega
          rw [HII.out, hm, HN1.out, HN2.out]
          rfl
        have HOW := hid hownc
        have HNX := hid hnxc
        have hszx := hnxc.size
        clear hownc hnxc h6 HII
        go_wp2_with (first
          | (at_builtin; refine wpList_append_own _ rfl _ _ 33 rfl w.heap.size 25 i0 (.agg #[.int .i64 0, .int .i64 0, .int .i64 0, .int .i64 0]) 4 32 Try.underlying33 hi hz0 hz1 hz2 rfl (by decide) _ _ _ rfl (World.ownsRow.alloc HOW.out _) ⟨_, 0, none⟩ 1 1 [.int .i64 op, .int .i64 N1, .int .i64 N2, .int .i64 0] rfl rfl (cell_four_new _ _ (by simp) _ _ _ _ _) (fun u hu => by simp at hu; rcases hu with rfl | rfl | rfl | rfl <;> rfl) (by have := HCL.out; have := HM.out.2; unfold maxLen; omega) (by have := HCL.out; have := HM.out.2; omega) (by simp; omega) ?_
             intro v' w3 hown3 hgrow3 _
             have HX3 : Hid (OwnsI w.heap.size w3 v' (c ++ [insOf op (bs.drop (p + 1))])) := by
               rw [HIV.out]
               unfold OwnsI
               rw [List.length_append, show insRow (c ++ [⟨op, N1, N2, 0⟩]) = insRow c ++ [.int .i64 op, .int .i64 N1, .int .i64 N2, .int .i64 0] by simp [insRow]]
               exact hown3
             have hnx3 : Below w.heap.size w w3 := Below.grown (HNX.out.alloc (by omega) _) hgrow3 (by simp; omega) (fun j hj => by have := (World.ownsRow.lt HOW.out _ hj).1; omega)
             clear hown3 hgrow3 HOW HNX HIV))
        rw [show ((p : Int) + 1 + 8) = ((p + 1 + 4 * mm : Nat) : Int) by have := HMI.out; omega]
        exact ⟨⟨p + 1 + 4 * mm, c ++ [insOf op (bs.drop (p + 1))], rfl, by omega, HSZ.out, HX3.out, HPN, by show _ ≤ _; have := HCL.out; rw [List.length_append, List.length_singleton]; omega, hnx3⟩, by simp only [intOf, Int.toNat_natCast]; have := HSZ.out; omega⟩
      · skip
        have hs1 : (p : Int) + 1 ≤ (len : Int) := by omega
        have hr1 : (0 : Int) ≤ (p : Int) + 1 := by omega
        have hs2 : (p : Int) + 5 ≤ (len : Int) := by omega
        have hr2 : (0 : Int) ≤ (p : Int) + 5 := by omega
        have hs3 : (p : Int) + 9 ≤ (len : Int) := by omega
        have hr3 : (0 : Int) ≤ (p : Int) + 9 := by omega
        go_wp2_with fail
        refine (l5Num_at b off bs (p + 1) _ _ (HN.out.below hnxc hb) HB.out (by have := HSZ.out; have := HMI.out; rw [Hlen.out]; omega) (by have := HSZ.out; have := HMI.out; omega)).mono ?_
        rintro e W1 ⟨rfl, hbd⟩
        have h6d := (hbd.block B6 hlt6).trans h6
        have d0 := cell_of_heap h6d 0
        have d1 := cell_of_heap h6d 1
        have d2 := cell_of_heap h6d 2
        have d3 := cell_of_heap h6d 3
        have ff := frozen_of_heap h6d 1
        simp at d0 d1 d2 d3 ff
        have hltd := heap_lt h6d
        have hownd := kept_owns hownc hbd
        have hnxd := hnxc.trans (hbd.mono hnxc.size)
        have HN1 := hid (show numAt bs (p + 1) = numAt (bs.drop (p + 1)) 0 from (numAt_drop bs (p + 1) 0).symm)
        generalize numAt bs (p + 1) = N1 at *
        clear hownc hnxc h6 hbd hlt6
        have h6 := ins_set1 h6d (.int .i64 N1)
        have hownc := owns_set (off := 1) (u := .int .i64 N1) hownd hne
        have hnxc := hnxd.setCell (p := ⟨B6, 1, none⟩) hB6 (.int .i64 N1)
        have hlt6 := heap_lt h6
        clear h6d hownd hnxd
        go_wp2_with fail
        clear d0 d1 d2 d3 ff hltd
        generalize W1.setCell ⟨B6, 1, none⟩ (.int .i64 N1) = X1 at *
        refine (l5Num_at b off bs (p + 5) _ _ (HN.out.below hnxc hb) HB.out (by have := HSZ.out; have := HMI.out; rw [Hlen.out]; omega) (by have := HSZ.out; have := HMI.out; omega)).mono ?_
        rintro e W2 ⟨rfl, hbd⟩
        have h6d := (hbd.block B6 hlt6).trans h6
        have d0 := cell_of_heap h6d 0
        have d1 := cell_of_heap h6d 1
        have d2 := cell_of_heap h6d 2
        have d3 := cell_of_heap h6d 3
        have ff := frozen_of_heap h6d 2
        simp at d0 d1 d2 d3 ff
        have hltd := heap_lt h6d
        have hownd := kept_owns hownc hbd
        have hnxd := hnxc.trans (hbd.mono hnxc.size)
        have HN2 := hid (show numAt bs (p + 5) = numAt (bs.drop (p + 1)) 4 from (numAt_drop bs (p + 1) 4).symm)
        generalize numAt bs (p + 5) = N2 at *
        clear hownc hnxc h6 hbd hlt6
        have h6 := ins_set2 h6d (.int .i64 N2)
        have hownc := owns_set (off := 2) (u := .int .i64 N2) hownd hne
        have hnxc := hnxd.setCell (p := ⟨B6, 2, none⟩) hB6 (.int .i64 N2)
        have hlt6 := heap_lt h6
        clear h6d hownd hnxd
        go_wp2_with fail
        clear d0 d1 d2 d3 ff hltd
        generalize W2.setCell ⟨B6, 2, none⟩ (.int .i64 N2) = X2 at *
        refine (l5Num_at b off bs (p + 9) _ _ (HN.out.below hnxc hb) HB.out (by have := HSZ.out; have := HMI.out; rw [Hlen.out]; omega) (by have := HSZ.out; have := HMI.out; omega)).mono ?_
        rintro e W3 ⟨rfl, hbd⟩
        have h6d := (hbd.block B6 hlt6).trans h6
        have d0 := cell_of_heap h6d 0
        have d1 := cell_of_heap h6d 1
        have d2 := cell_of_heap h6d 2
        have d3 := cell_of_heap h6d 3
        have ff := frozen_of_heap h6d 3
        simp at d0 d1 d2 d3 ff
        have hltd := heap_lt h6d
        have hownd := kept_owns hownc hbd
        have hnxd := hnxc.trans (hbd.mono hnxc.size)
        have HN3 := hid (show numAt bs (p + 9) = numAt (bs.drop (p + 1)) 8 from (numAt_drop bs (p + 1) 8).symm)
        generalize numAt bs (p + 9) = N3 at *
        clear hownc hnxc h6 hbd hlt6
        have h6 := ins_set3 h6d (.int .i64 N3)
        have hownc := owns_set (off := 3) (u := .int .i64 N3) hownd hne
        have hnxc := hnxd.setCell (p := ⟨B6, 3, none⟩) hB6 (.int .i64 N3)
        have hlt6 := heap_lt h6
        clear h6d hownd hnxd
        have HIV : Hid (insOf op (bs.drop (p + 1)) = ⟨op, N1, N2, N3⟩) := by
          show _ = _
          have hm : mm = 3 := by have := HMI.out; omega
          rw [HII.out, hm, HN1.out, HN2.out, HN3.out]
          rfl
        have HOW := hid hownc
        have HNX := hid hnxc
        have hszx := hnxc.size
        clear hownc hnxc h6 HII
        go_wp2_with (first
          | (at_builtin; refine wpList_append_own _ rfl _ _ 33 rfl w.heap.size 25 i0 (.agg #[.int .i64 0, .int .i64 0, .int .i64 0, .int .i64 0]) 4 32 Try.underlying33 hi hz0 hz1 hz2 rfl (by decide) _ _ _ rfl (World.ownsRow.alloc HOW.out _) ⟨_, 0, none⟩ 1 1 [.int .i64 op, .int .i64 N1, .int .i64 N2, .int .i64 N3] rfl rfl (cell_four_new _ _ (by simp) _ _ _ _ _) (fun u hu => by simp at hu; rcases hu with rfl | rfl | rfl | rfl <;> rfl) (by have := HCL.out; have := HM.out.2; unfold maxLen; omega) (by have := HCL.out; have := HM.out.2; omega) (by simp; omega) ?_
             intro v' w3 hown3 hgrow3 _
             have HX3 : Hid (OwnsI w.heap.size w3 v' (c ++ [insOf op (bs.drop (p + 1))])) := by
               rw [HIV.out]
               unfold OwnsI
               rw [List.length_append, show insRow (c ++ [⟨op, N1, N2, N3⟩]) = insRow c ++ [.int .i64 op, .int .i64 N1, .int .i64 N2, .int .i64 N3] by simp [insRow]]
               exact hown3
             have hnx3 : Below w.heap.size w w3 := Below.grown (HNX.out.alloc (by omega) _) hgrow3 (by simp; omega) (fun j hj => by have := (World.ownsRow.lt HOW.out _ hj).1; omega)
             clear hown3 hgrow3 HOW HNX HIV))
        rw [show ((p : Int) + 1 + 12) = ((p + 1 + 4 * mm : Nat) : Int) by have := HMI.out; omega]
        exact ⟨⟨p + 1 + 4 * mm, c ++ [insOf op (bs.drop (p + 1))], rfl, by omega, HSZ.out, HX3.out, HPN, by show _ ≤ _; have := HCL.out; rw [List.length_append, List.length_singleton]; omega, hnx3⟩, by simp only [intOf, Int.toNat_natCast]; have := HSZ.out; omega⟩
    · have hpe : p = len := by omega
      have HPA : Hid (parse (bs.drop 3) = some c) := by
        show _ = _
        rw [HP.out, List.drop_eq_nil_of_le (by rw [Hlen.out]; omega), parse_nil]
        simp
      have HSP := hid (read_spec bs HB.out (by rw [Hlen.out]; exact HM.out.1) (by rw [Hlen.out]; exact HM.out.2) HPA.out)
      have HOW := hid hown
      have hsl := hown.sliceR.insSlice
      have HSL := hid (specBytes_any wr hsl)
      have HBA := hid (HN.out.below hnx hb)
      clear hsl hown HP HPA
      cases hok : codeOkZ c with
      | false =>
        have HF : Hid (RZ = none) := by
          show _ = _
          rw [← HRZ.out, HSP.out, if_neg (by rw [hok]; simp)]
        rw [hok] at HSL
        clear HSP
        go_wp2_with fail
        refine HSL.out.mono ?_
        rintro e W8 ⟨⟨va, rfl, hva⟩, hb8⟩
        clear hva
        go_wp2_with fail
        go_ret2
        rw [HF.out]
        exact ⟨⟨_, rfl, World.ownsRow_nil _ _ _ _⟩, hnx.trans (hb8.mono hszr)⟩
      | true =>
        rw [hok, if_pos rfl] at HSL
        go_wp2_with fail
        refine HSL.out.mono ?_
        rintro e W8 ⟨⟨va, rfl, hva⟩, hb8⟩
        obtain ⟨ad, cap8, rfl, h8⟩ := (byteSliceR_of_owns hva).byteSlice
        obtain ⟨g8, o8, rfl, hlt8, hc8⟩ := h8.resolve_left (by simp [codeBytesZ, headBytes])
        have hcv1 := bytes_string W8 g8 o8 cap8 (codeBytesZ c) (enc_isB c) hc8
        have hcv2 := bytes_string W8 b off len bs HB.out (HBA.out.below hb8 (by omega))
        rw [Hlen.out] at hcv2
        have HOW8 := hid (kept_owns HOW.out hb8)
        have hnx8 := hnx.trans (hb8.mono hszr)
        clear h8 hva hc8 hlt8 HOW hb8 HBA
        generalize (codeBytesZ c).length = n8 at *
        by_cases heq : codeBytesZ c = bs
        · have HF : Hid (RZ = some c) := by
            show _ = _
            rw [← HRZ.out, HSP.out, if_pos ⟨hok, heq⟩]
          rw [heq] at hcv1
          generalize byteStr bs = S at *
          clear HSP HSL heq hok
          go_wp2_with fail
          go_ret2
          rw [HF.out]
          exact ⟨⟨u4, rfl, HOW8.out⟩, hnx8⟩
        · have HF : Hid (RZ = none) := by
            show _ = _
            rw [← HRZ.out, HSP.out, if_neg (fun h => heq h.2)]
          have hse : (!(byteStr (codeBytesZ c)).toList == (byteStr bs).toList) = true := by
            simp only [Bool.not_eq_true', beq_eq_false_iff_ne, ne_eq]
            intro h
            rw [ByteArray.toList_eq, ByteArray.toList_eq] at h
            exact heq (byteStr_inj (enc_isB c) HB.out (Go.WideShapes.bytes_inj h))
          generalize byteStr bs = S at *
          generalize byteStr (codeBytesZ c) = S' at *
          clear HSP HSL heq hok
          go_wp2_with fail
          go_ret2
          rw [HF.out]
          exact ⟨⟨.slice none 0 0, rfl, World.ownsRow_nil _ _ _ _⟩, hnx8⟩
end Go.Proofs.Ytmjcifaihmecmaa
