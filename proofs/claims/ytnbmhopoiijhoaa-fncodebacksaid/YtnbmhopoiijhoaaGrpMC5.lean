/- The specification's reading of code is the plain one: the walk. -/
import Derived.Test.YtnbmhopoiijhoaaGrpMC4
import Derived.Deep.RegionHeld3
import Derived.RangeFuncCalls
import Derived.RangeFuncLeaves
import Derived.OwnWalkIn
import Derived.TacticsInMore
import Derived.LoopNIn
import Derived.LoopIn
import Derived.Sort.CutIn
import Derived.Shelf.Abstract
import Derived.BigQuiet
import Derived.Lib.SmallJoins
import Derived.ArgAppend
import Derived.Laws.Closers25b
import Derived.Test.YtnbmhopoiijhoaaRows
import Derived.WalkKit
import Derived.ProofKit
import Derived.OpenShut
namespace Go.Proofs.Ytnbmhopoiijhoaa
open Go.RowKit

set_option maxHeartbeats 4000000 in
set_option maxRecDepth 100000 in
theorem specRead_cap (b off cap : Nat) (bs : List Int) (w : World) (hcap : bs.length ≤ cap) (hb : b < w.heap.size) (hn : BytesIs w b off bs) (hB : ∀ x ∈ bs, IsB x) :
    Calls Try.prog 10 #[.slice (some ⟨b, off, none⟩) bs.length cap] w fun e w' => (∃ v, e = .returned (.tuple #[v, .bool (readZ bs).isSome]) ∧ OwnsI w.heap.size w' v ((readZ bs).getD [])) ∧ Below w.heap.size w w' := by
  obtain ⟨len, hlen⟩ : ∃ len, bs.length = len := ⟨_, rfl⟩
  have Hlen := hid hlen
  have HN := hid hn
  have HB := hid hB
  clear hn hB
  rw [hlen] at hcap ⊢
  have hcapI : (len : Int) ≤ (cap : Int) := by omega
  by_cases hbig : (20000 : Int) < (len : Int)
  · have hz : readZ bs = none := by unfold readZ; rw [if_pos (Or.inl (by omega))]
    rw [hz]
    go_enter Try.func10, Try.ntmps10
    go_wp2_with fail
    go_ret2
    exact ⟨⟨_, rfl, World.ownsRow_nil _ _ _ _⟩, Below.refl _ _⟩
  by_cases hsm : (len : Int) < 3
  · have hz : readZ bs = none := by
      unfold readZ
      rw [if_pos (Or.inr (fun h => by
        have := congrArg List.length h
        simp [headBytes] at this
        omega))]
    rw [hz]
    go_enter Try.func10, Try.ntmps10
    go_wp2_with fail
    go_ret2
    exact ⟨⟨_, rfl, World.ownsRow_nil _ _ _ _⟩, Below.refl _ _⟩
  have HM : Hid (3 ≤ len ∧ len ≤ 20000) := ⟨by omega, by omega⟩
  obtain ⟨RZ, hRZ⟩ : ∃ RZ, readZ bs = RZ := ⟨_, rfl⟩
  have HRZ := hid hRZ
  rw [hRZ]
  clear hRZ hlen
  go_enter Try.func10, Try.ntmps10
  go_wp2_with fail
  obtain ⟨i0, hi, hz0, hz1, hz2⟩ := info_parts info_ins
  go_loopw [4, 5] (fun o i wr => ∃ (p : Nat) (c : List In), i = .int .i64 p ∧ 3 ≤ p ∧ p ≤ len ∧ OwnsI w.heap.size wr o c ∧ Hid (parse (bs.drop 3) = (parse (bs.drop p)).map (c ++ ·)) ∧ Hid (c.length ≤ p) ∧ Below w.heap.size w wr) (fun _ i _ => len - (intOf i).toNat)
  case atStart => exact ⟨3, [], rfl, Nat.le_refl _, HM.out.1, World.ownsRow_nil _ _ _ _, by simp [Hid], Nat.zero_le _, Below.refl _ _⟩
  case round =>
    obtain ⟨p, c, rfl, hp3, hpl, hown, HP, HCL, hnx⟩ := hrel
    have hszr := hnx.size
    by_cases hlt : (p : Int) < (len : Int)
    · have hpn : p < bs.length := by rw [Hlen.out]; omega
      have hcell := fun k (hk : k < bs.length) => (hnx.cell (p := ⟨b, off + k, none⟩) hb).trans (HN.out k hk)
      have c0 := hcell p hpn
      have HD : Hid (bs.drop p = bs.getD p 0 :: bs.drop (p + 1)) := by
        show _ = _
        rw [List.drop_eq_getElem_cons hpn]
        simp [List.getD, List.getElem?_eq_getElem hpn]
      have HCE := hid hcell
      have HOP : Hid (IsB (bs.getD p 0)) := HB.out _ (by simp [List.getD, List.getElem?_eq_getElem hpn])
      have HG : Hid (∀ j, (bs.drop (p + 1)).getD j 0 = bs.getD (p + 1 + j) 0) := fun j => by simp [List.getD, List.getElem?_drop]
      have HRL : Hid ((bs.drop (p + 1)).length = len - (p + 1)) := by show _ = _; rw [List.length_drop, Hlen.out]
      clear hcell hpn
      generalize bs.getD p 0 = op at *
      have hwr : wrap64 op = op := by have := HOP.out; unfold IsB at this; unfold wrap64; omega
      go_wp2_with fail
      refine (l5Many_calls _ _).mono ?_
      rintro e W5 ⟨rfl, rfl⟩
      have hp20 : (p : Int) < 20000 := by have := HM.out.2; omega
      by_cases hneg : manyZ op < 0
      · have HF : Hid (RZ = none) := by
          show _ = _
          rw [← HRZ.out]
          have := HP.out
          rw [HD.out] at this
          exact read_bad bs this hneg
        generalize manyZ op = mo at *
        go_wp2_with fail
        go_ret2
        rw [HF.out]
        exact ⟨⟨_, rfl, World.ownsRow_nil _ _ _ _⟩, hnx.alloc hszr _⟩
      obtain ⟨mm, hmm⟩ : ∃ mm : Nat, manyZ op = (mm : Int) := ⟨(manyZ op).toNat, by omega⟩
      have HMA : Hid (insMany op = mm) := by show _ = _; rw [← many_eq, hmm, Int.toNat_natCast]
      have hm3 : mm ≤ 3 := by rw [← HMA.out]; exact insMany_le op
      rw [hmm]
      clear hneg hmm
      by_cases hover : (len : Int) < (p : Int) + 1 + 4 * (mm : Int)
      · have HF : Hid (RZ = none) := by
          show _ = _
          rw [← HRZ.out]
          have h1 := HP.out
          rw [HD.out, parse_cons, HMA.out, if_neg (by rw [HRL.out]; omega)] at h1
          exact read_none bs h1
        clear HP HD HCE HG HRL HOP hown
        have hm4 : (mm : Int) < 4 := by omega
        go_wp2_with fail
        go_ret2
        rw [HF.out]
        exact ⟨⟨_, rfl, World.ownsRow_nil _ _ _ _⟩, hnx.alloc hszr _⟩
      have HSZ : Hid (p + 1 + 4 * mm ≤ len) := by show _ ≤ _; omega
      have HPN : Hid (parse (bs.drop 3) = (parse (bs.drop (p + 1 + 4 * mm))).map ((c ++ [insOf op (bs.drop (p + 1))]) ++ ·)) := by
        show _ = _
        have h1 := HP.out
        rw [HD.out, parse_cons, HMA.out, if_pos (by rw [HRL.out]; omega), List.drop_drop] at h1
        rw [h1, Option.map_map]
        congr 1
        funext l
        simp
      have HII : Hid (insOf op (bs.drop (p + 1)) = ⟨op, if 0 < mm then numAt (bs.drop (p + 1)) 0 else 0, if 1 < mm then numAt (bs.drop (p + 1)) 4 else 0, if 2 < mm then numAt (bs.drop (p + 1)) 8 else 0⟩) := by
        show _ = _
        unfold insOf
        rw [HMA.out]
      clear HP HD
      have HPB : Hid (p + 1 + 4 * mm ≤ len) := HSZ
      obtain ⟨mi, hmi⟩ : ∃ mi : Int, (mm : Int) = mi := ⟨_, rfl⟩
      have HMI := hid hmi
      have hp1 : (0 : Int) ≤ (p : Int) + 1 := by omega
      have hq : mi = 0 ∨ mi = 1 ∨ mi = 2 ∨ mi = 3 := by omega
      rw [hmi] at hover
      rw [hmi]
      clear hmi hm3
      have h6 := (MapKept.heap_alloc wr (.cells #[.int .i64 op, .int .i64 0, .int .i64 0, .int .i64 0] 37)).1
      have hownc := World.ownsRow.alloc hown (.cells #[.int .i64 op, .int .i64 0, .int .i64 0, .int .i64 0] 37)
      have hnxc := hnx.alloc hszr (.cells #[.int .i64 op, .int .i64 0, .int .i64 0, .int .i64 0] 37)
      have hne : some wr.heap.size ≠ u4.ownBlock := fun e => by have := (World.ownsRow.lt hown _ e.symm).2; omega
      have hlt6 := heap_lt h6
      have hB6 : w.heap.size ≤ wr.heap.size := hszr
      clear hown hnx c0 hszr
      generalize wr.alloc (.cells #[.int .i64 op, .int .i64 0, .int .i64 0, .int .i64 0] 37) = WA at *
      generalize wr.heap.size = B6 at *
      rcases hq with rfl | rfl | rfl | rfl
      · skip
        have d0 := cell_of_heap h6 0
        have d1 := cell_of_heap h6 1
        have d2 := cell_of_heap h6 2
        have d3 := cell_of_heap h6 3
        simp at d0 d1 d2 d3
        have HIV : Hid (insOf op (bs.drop (p + 1)) = ⟨op, 0, 0, 0⟩) := by
          show _ = _
          have hm : mm = 0 := by have := HMI.out; omega
          rw [HII.out, hm]
          rfl
        have HOW := hid hownc
        have HNX := hid hnxc
        have hszx := hnxc.size
        clear hownc hnxc h6 HII
        go_wp2_with (first
          | (at_builtin; refine wpList_append_own _ rfl _ _ 23 rfl w.heap.size 37 i0 (.agg #[.int .i64 0, .int .i64 0, .int .i64 0, .int .i64 0]) 4 32 Try.underlying23 hi hz0 hz1 hz2 rfl (by decide) _ _ _ rfl (World.ownsRow.alloc HOW.out _) ⟨_, 0, none⟩ 1 1 [.int .i64 op, .int .i64 0, .int .i64 0, .int .i64 0] rfl rfl (cell_four_new _ _ (by simp) _ _ _ _ _) (fun u hu => by simp at hu; rcases hu with rfl | rfl | rfl | rfl <;> rfl) (by have := HCL.out; have := HM.out.2; unfold maxLen; omega) (by have := HCL.out; have := HM.out.2; omega) (by simp; omega) ?_
             intro v' w3 hown3 hgrow3 _
             have HX3 : Hid (OwnsI w.heap.size w3 v' (c ++ [insOf op (bs.drop (p + 1))])) := by
               rw [HIV.out]
               unfold OwnsI
               rw [List.length_append, show insRow (c ++ [⟨op, 0, 0, 0⟩]) = insRow c ++ [.int .i64 op, .int .i64 0, .int .i64 0, .int .i64 0] by simp [insRow]]
               exact hown3
             have hnx3 : Below w.heap.size w w3 := Below.grown (HNX.out.alloc (by omega) _) hgrow3 (by simp; omega) (fun j hj => by have := (World.ownsRow.lt HOW.out _ hj).1; omega)
             clear hown3 hgrow3 HOW HNX HIV))
        rw [show ((p : Int) + 1) = ((p + 1 + 4 * mm : Nat) : Int) by have := HMI.out; omega]
        exact ⟨⟨p + 1 + 4 * mm, c ++ [insOf op (bs.drop (p + 1))], rfl, by omega, HSZ.out, HX3.out, HPN, by show _ ≤ _; have := HCL.out; rw [List.length_append, List.length_singleton]; omega, hnx3⟩, by simp only [intOf, Int.toNat_natCast]; have := HSZ.out; omega⟩
      · skip
        have hs1 : (p : Int) + 1 ≤ (len : Int) := by omega
        have hr1 : (0 : Int) ≤ (p : Int) + 1 := by omega
        go_wp2_with fail
        refine (l5Num_at b off bs (p + 1) _ _ _ (HN.out.below hnxc hb) HB.out (by have := HSZ.out; have := HMI.out; rw [Hlen.out]; omega) (by have := HSZ.out; have := HMI.out; omega)).mono ?_
        rintro e W1 ⟨rfl, hbd⟩
        have h6d := (hbd.block B6 hlt6).trans h6
        have d0 := cell_of_heap h6d 0
        have d1 := cell_of_heap h6d 1
        have d2 := cell_of_heap h6d 2
        have d3 := cell_of_heap h6d 3
        have ff := frozen_of_heap h6d 1
        simp at d0 d1 d2 d3 ff
        have hltd := heap_lt h6d
        have hownd := kept_owns hownc hbd
        have hnxd := hnxc.trans (hbd.mono hnxc.size)
        have HN1 := hid (show numAt bs (p + 1) = numAt (bs.drop (p + 1)) 0 from (numAt_drop bs (p + 1) 0).symm)
        generalize numAt bs (p + 1) = N1 at *
        clear hownc hnxc h6 hbd hlt6
        have h6 := ins_set1 h6d (.int .i64 N1)
        have hownc := owns_set (off := 1) (u := .int .i64 N1) hownd hne
        have hnxc := hnxd.setCell (p := ⟨B6, 1, none⟩) hB6 (.int .i64 N1)
        have hlt6 := heap_lt h6
        clear h6d hownd hnxd
        have HIV : Hid (insOf op (bs.drop (p + 1)) = ⟨op, N1, 0, 0⟩) := by
          show _ = _
          have hm : mm = 1 := by have := HMI.out; omega
          rw [HII.out, hm, HN1.out]
          rfl
        have HOW := hid hownc
        have HNX := hid hnxc
        have hszx := hnxc.size
        clear hownc hnxc h6 HII
        go_wp2_with (first
          | (at_builtin; refine wpList_append_own _ rfl _ _ 23 rfl w.heap.size 37 i0 (.agg #[.int .i64 0, .int .i64 0, .int .i64 0, .int .i64 0]) 4 32 Try.underlying23 hi hz0 hz1 hz2 rfl (by decide) _ _ _ rfl (World.ownsRow.alloc HOW.out _) ⟨_, 0, none⟩ 1 1 [.int .i64 op, .int .i64 N1, .int .i64 0, .int .i64 0] rfl rfl (cell_four_new _ _ (by simp) _ _ _ _ _) (fun u hu => by simp at hu; rcases hu with rfl | rfl | rfl | rfl <;> rfl) (by have := HCL.out; have := HM.out.2; unfold maxLen; omega) (by have := HCL.out; have := HM.out.2; omega) (by simp; omega) ?_
             intro v' w3 hown3 hgrow3 _
             have HX3 : Hid (OwnsI w.heap.size w3 v' (c ++ [insOf op (bs.drop (p + 1))])) := by
               rw [HIV.out]
               unfold OwnsI
               rw [List.length_append, show insRow (c ++ [⟨op, N1, 0, 0⟩]) = insRow c ++ [.int .i64 op, .int .i64 N1, .int .i64 0, .int .i64 0] by simp [insRow]]
               exact hown3
             have hnx3 : Below w.heap.size w w3 := Below.grown (HNX.out.alloc (by omega) _) hgrow3 (by simp; omega) (fun j hj => by have := (World.ownsRow.lt HOW.out _ hj).1; omega)
             clear hown3 hgrow3 HOW HNX HIV))
        rw [show ((p : Int) + 1 + 4) = ((p + 1 + 4 * mm : Nat) : Int) by have := HMI.out; omega]
        exact ⟨⟨p + 1 + 4 * mm, c ++ [insOf op (bs.drop (p + 1))], rfl, by omega, HSZ.out, HX3.out, HPN, by show _ ≤ _; have := HCL.out; rw [List.length_append, List.length_singleton]; omega, hnx3⟩, by simp only [intOf, Int.toNat_natCast]; have := HSZ.out; omega⟩
      · skip
        have hs1 : (p : Int) + 1 ≤ (len : Int) := by omega
        have hr1 : (0 : Int) ≤ (p : Int) + 1 := by omega
        have hs2 : (p : Int) + 5 ≤ (len : Int) := by omega
        have hr2 : (0 : Int) ≤ (p : Int) + 5 := by omega
        go_wp2_with fail
        refine (l5Num_at b off bs (p + 1) _ _ _ (HN.out.below hnxc hb) HB.out (by have := HSZ.out; have := HMI.out; rw [Hlen.out]; omega) (by have := HSZ.out; have := HMI.out; omega)).mono ?_
        rintro e W1 ⟨rfl, hbd⟩
        have h6d := (hbd.block B6 hlt6).trans h6
        have d0 := cell_of_heap h6d 0
        have d1 := cell_of_heap h6d 1
        have d2 := cell_of_heap h6d 2
        have d3 := cell_of_heap h6d 3
        have ff := frozen_of_heap h6d 1
        simp at d0 d1 d2 d3 ff
        have hltd := heap_lt h6d
        have hownd := kept_owns hownc hbd
        have hnxd := hnxc.trans (hbd.mono hnxc.size)
        have HN1 := hid (show numAt bs (p + 1) = numAt (bs.drop (p + 1)) 0 from (numAt_drop bs (p + 1) 0).symm)
        generalize numAt bs (p + 1) = N1 at *
        clear hownc hnxc h6 hbd hlt6
        have h6 := ins_set1 h6d (.int .i64 N1)
        have hownc := owns_set (off := 1) (u := .int .i64 N1) hownd hne
        have hnxc := hnxd.setCell (p := ⟨B6, 1, none⟩) hB6 (.int .i64 N1)
        have hlt6 := heap_lt h6
        clear h6d hownd hnxd
        go_wp2_with fail
        clear d0 d1 d2 d3 ff hltd
        generalize W1.setCell ⟨B6, 1, none⟩ (.int .i64 N1) = X1 at *
        refine (l5Num_at b off bs (p + 5) _ _ _ (HN.out.below hnxc hb) HB.out (by have := HSZ.out; have := HMI.out; rw [Hlen.out]; omega) (by have := HSZ.out; have := HMI.out; omega)).mono ?_
        rintro e W2 ⟨rfl, hbd⟩
        have h6d := (hbd.block B6 hlt6).trans h6
        have d0 := cell_of_heap h6d 0
        have d1 := cell_of_heap h6d 1
        have d2 := cell_of_heap h6d 2
        have d3 := cell_of_heap h6d 3
        have ff := frozen_of_heap h6d 2
        simp at d0 d1 d2 d3 ff
        have hltd := heap_lt h6d
        have hownd := kept_owns hownc hbd
        have hnxd := hnxc.trans (hbd.mono hnxc.size)
        have HN2 := hid (show numAt bs (p + 5) = numAt (bs.drop (p + 1)) 4 from (numAt_drop bs (p + 1) 4).symm)
        generalize numAt bs (p + 5) = N2 at *
        clear hownc hnxc h6 hbd hlt6
        have h6 := ins_set2 h6d (.int .i64 N2)
        have hownc := owns_set (off := 2) (u := .int .i64 N2) hownd hne
        have hnxc := hnxd.setCell (p := ⟨B6, 2, none⟩) hB6 (.int .i64 N2)
        have hlt6 := heap_lt h6
        clear h6d hownd hnxd
        have HIV : Hid (insOf op (bs.drop (p + 1)) = ⟨op, N1, N2, 0⟩) := by
          show _ = _
          have hm : mm = 2 := by have := HMI.out; omega
          rw [HII.out, hm, HN1.out, HN2.out]
          rfl
        have HOW := hid hownc
        have HNX := hid hnxc
        have hszx := hnxc.size
        clear hownc hnxc h6 HII
        go_wp2_with (first
          | (at_builtin; refine wpList_append_own _ rfl _ _ 23 rfl w.heap.size 37 i0 (.agg #[.int .i64 0, .int .i64 0, .int .i64 0, .int .i64 0]) 4 32 Try.underlying23 hi hz0 hz1 hz2 rfl (by decide) _ _ _ rfl (World.ownsRow.alloc HOW.out _) ⟨_, 0, none⟩ 1 1 [.int .i64 op, .int .i64 N1, .int .i64 N2, .int .i64 0] rfl rfl (cell_four_new _ _ (by simp) _ _ _ _ _) (fun u hu => by simp at hu; rcases hu with rfl | rfl | rfl | rfl <;> rfl) (by have := HCL.out; have := HM.out.2; unfold maxLen; omega) (by have := HCL.out; have := HM.out.2; omega) (by simp; omega) ?_
             intro v' w3 hown3 hgrow3 _
             have HX3 : Hid (OwnsI w.heap.size w3 v' (c ++ [insOf op (bs.drop (p + 1))])) := by
               rw [HIV.out]
               unfold OwnsI
               rw [List.length_append, show insRow (c ++ [⟨op, N1, N2, 0⟩]) = insRow c ++ [.int .i64 op, .int .i64 N1, .int .i64 N2, .int .i64 0] by simp [insRow]]
               exact hown3
             have hnx3 : Below w.heap.size w w3 := Below.grown (HNX.out.alloc (by omega) _) hgrow3 (by simp; omega) (fun j hj => by have := (World.ownsRow.lt HOW.out _ hj).1; omega)
             clear hown3 hgrow3 HOW HNX HIV))
        rw [show ((p : Int) + 1 + 8) = ((p + 1 + 4 * mm : Nat) : Int) by have := HMI.out; omega]
        exact ⟨⟨p + 1 + 4 * mm, c ++ [insOf op (bs.drop (p + 1))], rfl, by omega, HSZ.out, HX3.out, HPN, by show _ ≤ _; have := HCL.out; rw [List.length_append, List.length_singleton]; omega, hnx3⟩, by simp only [intOf, Int.toNat_natCast]; have := HSZ.out; omega⟩
      · skip
        have hs1 : (p : Int) + 1 ≤ (len : Int) := by omega
        have hr1 : (0 : Int) ≤ (p : Int) + 1 := by omega
        have hs2 : (p : Int) + 5 ≤ (len : Int) := by omega
        have hr2 : (0 : Int) ≤ (p : Int) + 5 := by omega
        have hs3 : (p : Int) + 9 ≤ (len : Int) := by omega
        have hr3 : (0 : Int) ≤ (p : Int) + 9 := by omega
        go_wp2_with fail
        refine (l5Num_at b off bs (p + 1) _ _ _ (HN.out.below hnxc hb) HB.out (by have := HSZ.out; have := HMI.out; rw [Hlen.out]; omega) (by have := HSZ.out; have := HMI.out; omega)).mono ?_
        rintro e W1 ⟨rfl, hbd⟩
        have h6d := (hbd.block B6 hlt6).trans h6
        have d0 := cell_of_heap h6d 0
        have d1 := cell_of_heap h6d 1
        have d2 := cell_of_heap h6d 2
        have d3 := cell_of_heap h6d 3
        have ff := frozen_of_heap h6d 1
        simp at d0 d1 d2 d3 ff
        have hltd := heap_lt h6d
        have hownd := kept_owns hownc hbd
        have hnxd := hnxc.trans (hbd.mono hnxc.size)
        have HN1 := hid (show numAt bs (p + 1) = numAt (bs.drop (p + 1)) 0 from (numAt_drop bs (p + 1) 0).symm)
        generalize numAt bs (p + 1) = N1 at *
        clear hownc hnxc h6 hbd hlt6
        have h6 := ins_set1 h6d (.int .i64 N1)
        have hownc := owns_set (off := 1) (u := .int .i64 N1) hownd hne
        have hnxc := hnxd.setCell (p := ⟨B6, 1, none⟩) hB6 (.int .i64 N1)
        have hlt6 := heap_lt h6
        clear h6d hownd hnxd
        go_wp2_with fail
        clear d0 d1 d2 d3 ff hltd
        generalize W1.setCell ⟨B6, 1, none⟩ (.int .i64 N1) = X1 at *
        refine (l5Num_at b off bs (p + 5) _ _ _ (HN.out.below hnxc hb) HB.out (by have := HSZ.out; have := HMI.out; rw [Hlen.out]; omega) (by have := HSZ.out; have := HMI.out; omega)).mono ?_
        rintro e W2 ⟨rfl, hbd⟩
        have h6d := (hbd.block B6 hlt6).trans h6
        have d0 := cell_of_heap h6d 0
        have d1 := cell_of_heap h6d 1
        have d2 := cell_of_heap h6d 2
        have d3 := cell_of_heap h6d 3
        have ff := frozen_of_heap h6d 2
        simp at d0 d1 d2 d3 ff
        have hltd := heap_lt h6d
        have hownd := kept_owns hownc hbd
        have hnxd := hnxc.trans (hbd.mono hnxc.size)
        have HN2 := hid (show numAt bs (p + 5) = numAt (bs.drop (p + 1)) 4 from (numAt_drop bs (p + 1) 4).symm)
        generalize numAt bs (p + 5) = N2 at *
        clear hownc hnxc h6 hbd hlt6
        have h6 := ins_set2 h6d (.int .i64 N2)
        have hownc := owns_set (off := 2) (u := .int .i64 N2) hownd hne
        have hnxc := hnxd.setCell (p := ⟨B6, 2, none⟩) hB6 (.int .i64 N2)
        have hlt6 := heap_lt h6
        clear h6d hownd hnxd
        go_wp2_with fail
        clear d0 d1 d2 d3 ff hltd
        generalize W2.setCell ⟨B6, 2, none⟩ (.int .i64 N2) = X2 at *
        refine (l5Num_at b off bs (p + 9) _ _ _ (HN.out.below hnxc hb) HB.out (by have := HSZ.out; have := HMI.out; rw [Hlen.out]; omega) (by have := HSZ.out; have := HMI.out; omega)).mono ?_
        rintro e W3 ⟨rfl, hbd⟩
        have h6d := (hbd.block B6 hlt6).trans h6
        have d0 := cell_of_heap h6d 0
        have d1 := cell_of_heap h6d 1
        have d2 := cell_of_heap h6d 2
        have d3 := cell_of_heap h6d 3
        have ff := frozen_of_heap h6d 3
        simp at d0 d1 d2 d3 ff
        have hltd := heap_lt h6d
        have hownd := kept_owns hownc hbd
        have hnxd := hnxc.trans (hbd.mono hnxc.size)
        have HN3 := hid (show numAt bs (p + 9) = numAt (bs.drop (p + 1)) 8 from (numAt_drop bs (p + 1) 8).symm)
        generalize numAt bs (p + 9) = N3 at *
        clear hownc hnxc h6 hbd hlt6
        have h6 := ins_set3 h6d (.int .i64 N3)
        have hownc := owns_set (off := 3) (u := .int .i64 N3) hownd hne
        have hnxc := hnxd.setCell (p := ⟨B6, 3, none⟩) hB6 (.int .i64 N3)
        have hlt6 := heap_lt h6
        clear h6d hownd hnxd
        have HIV : Hid (insOf op (bs.drop (p + 1)) = ⟨op, N1, N2, N3⟩) := by
          show _ = _
          have hm : mm = 3 := by have := HMI.out; omega
          rw [HII.out, hm, HN1.out, HN2.out, HN3.out]
          rfl
        have HOW := hid hownc
        have HNX := hid hnxc
        have hszx := hnxc.size
        clear hownc hnxc h6 HII
        go_wp2_with (first
          | (at_builtin; refine wpList_append_own _ rfl _ _ 23 rfl w.heap.size 37 i0 (.agg #[.int .i64 0, .int .i64 0, .int .i64 0, .int .i64 0]) 4 32 Try.underlying23 hi hz0 hz1 hz2 rfl (by decide) _ _ _ rfl (World.ownsRow.alloc HOW.out _) ⟨_, 0, none⟩ 1 1 [.int .i64 op, .int .i64 N1, .int .i64 N2, .int .i64 N3] rfl rfl (cell_four_new _ _ (by simp) _ _ _ _ _) (fun u hu => by simp at hu; rcases hu with rfl | rfl | rfl | rfl <;> rfl) (by have := HCL.out; have := HM.out.2; unfold maxLen; omega) (by have := HCL.out; have := HM.out.2; omega) (by simp; omega) ?_
             intro v' w3 hown3 hgrow3 _
             have HX3 : Hid (OwnsI w.heap.size w3 v' (c ++ [insOf op (bs.drop (p + 1))])) := by
               rw [HIV.out]
               unfold OwnsI
               rw [List.length_append, show insRow (c ++ [⟨op, N1, N2, N3⟩]) = insRow c ++ [.int .i64 op, .int .i64 N1, .int .i64 N2, .int .i64 N3] by simp [insRow]]
               exact hown3
             have hnx3 : Below w.heap.size w w3 := Below.grown (HNX.out.alloc (by omega) _) hgrow3 (by simp; omega) (fun j hj => by have := (World.ownsRow.lt HOW.out _ hj).1; omega)
             clear hown3 hgrow3 HOW HNX HIV))
        rw [show ((p : Int) + 1 + 12) = ((p + 1 + 4 * mm : Nat) : Int) by have := HMI.out; omega]
        exact ⟨⟨p + 1 + 4 * mm, c ++ [insOf op (bs.drop (p + 1))], rfl, by omega, HSZ.out, HX3.out, HPN, by show _ ≤ _; have := HCL.out; rw [List.length_append, List.length_singleton]; omega, hnx3⟩, by simp only [intOf, Int.toNat_natCast]; have := HSZ.out; omega⟩
    · have hpe : p = len := by omega
      have HPA : Hid (parse (bs.drop 3) = some c) := by
        show _ = _
        rw [HP.out, List.drop_eq_nil_of_le (by rw [Hlen.out]; omega), parse_nil]
        simp
      have HSP := hid (read_spec bs HB.out (by rw [Hlen.out]; exact HM.out.1) (by rw [Hlen.out]; exact HM.out.2) HPA.out)
      have HOW := hid hown
      have hsl := hown.sliceR.insSlice
      have HSL := hid (specBytes_any wr hsl)
      have HBA := hid (HN.out.below hnx hb)
      clear hsl hown HP HPA
      cases hok : codeOkZ c with
      | false =>
        have HF : Hid (RZ = none) := by
          show _ = _
          rw [← HRZ.out, HSP.out, if_neg (by rw [hok]; simp)]
        rw [hok] at HSL
        clear HSP
        go_wp2_with fail
        refine HSL.out.mono ?_
        rintro e W8 ⟨⟨va, rfl, hva⟩, hb8⟩
        clear hva
        go_wp2_with fail
        go_ret2
        rw [HF.out]
        exact ⟨⟨_, rfl, World.ownsRow_nil _ _ _ _⟩, hnx.trans (hb8.mono hszr)⟩
      | true =>
        rw [hok, if_pos rfl] at HSL
        go_wp2_with fail
        refine HSL.out.mono ?_
        rintro e W8 ⟨⟨va, rfl, hva⟩, hb8⟩
        obtain ⟨ad, cap8, rfl, h8⟩ := (byteSliceR_of_owns hva).byteSlice
        obtain ⟨g8, o8, rfl, hlt8, hc8⟩ := h8.resolve_left (by simp [codeBytesZ, headBytes])
        have hcv1 := bytes_string W8 g8 o8 cap8 (codeBytesZ c) (enc_isB c) hc8
        have hcv2 := bytes_string W8 b off cap bs HB.out (HBA.out.below hb8 (by omega))
        rw [Hlen.out] at hcv2
        have HOW8 := hid (kept_owns HOW.out hb8)
        have hnx8 := hnx.trans (hb8.mono hszr)
        clear h8 hva hc8 hlt8 HOW hb8 HBA
        generalize (codeBytesZ c).length = n8 at *
        by_cases heq : codeBytesZ c = bs
        · have HF : Hid (RZ = some c) := by
            show _ = _
            rw [← HRZ.out, HSP.out, if_pos ⟨hok, heq⟩]
          rw [heq] at hcv1
          generalize byteStr bs = S at *
          clear HSP HSL heq hok
          go_wp2_with fail
          go_ret2
          rw [HF.out]
          exact ⟨⟨u4, rfl, HOW8.out⟩, hnx8⟩
        · have HF : Hid (RZ = none) := by
            show _ = _
            rw [← HRZ.out, HSP.out, if_neg (fun h => heq h.2)]
          have hse : (!(byteStr (codeBytesZ c)).toList == (byteStr bs).toList) = true := by
            simp only [Bool.not_eq_true', beq_eq_false_iff_ne, ne_eq]
            intro h
            rw [ByteArray.toList_eq, ByteArray.toList_eq] at h
            exact heq (byteStr_inj (enc_isB c) HB.out (Go.WideShapes.bytes_inj h))
          generalize byteStr bs = S at *
          generalize byteStr (codeBytesZ c) = S' at *
          clear HSP HSL heq hok
          go_wp2_with fail
          go_ret2
          rw [HF.out]
          exact ⟨⟨.slice none 0 0, rfl, World.ownsRow_nil _ _ _ _⟩, hnx8⟩

theorem specRead_rows (b off : Nat) (bs : List Int) (w : World) (hb : b < w.heap.size) (hn : BytesIs w b off bs) (hB : ∀ x ∈ bs, IsB x) :
    Calls Try.prog 10 #[.slice (some ⟨b, off, none⟩) bs.length bs.length] w fun e w' => (∃ v, e = .returned (.tuple #[v, .bool (readZ bs).isSome]) ∧ OwnsI w.heap.size w' v ((readZ bs).getD [])) ∧ Below w.heap.size w w' :=
  specRead_cap b off _ bs w (Nat.le_refl _) hb hn hB
end Go.Proofs.Ytnbmhopoiijhoaa

/- An instruction out of its bytes, as the program makes it. -/
namespace Go.Proofs.Ytnbmhopoiijhoaa
open Go.RowKit

/-- The numbers read so far. -/
def upToN (r : List Int) (k j : Nat) : Int := if j < k then numAt r (4 * j) else 0

theorem bits4w (x0 x1 x2 x3 : Int) (h0 : IsB x0) (h1 : IsB x1) (h2 : IsB x2) (h3 : IsB x3) :
    IntKind.i64.wrap (IntKind.i32.wrap (bits BinOp.or IntKind.u32 (bits BinOp.or IntKind.u32 (bits BinOp.or IntKind.u32 (IntKind.u32.wrap (IntKind.u32.wrap x0 * 16777216)) (IntKind.u32.wrap (IntKind.u32.wrap x1 * 65536))) (IntKind.u32.wrap (IntKind.u32.wrap x2 * 256))) (IntKind.u32.wrap x3))) = num4 x0 x1 x2 x3 := by
  simp only [IntKind.wrap_u32']
  rw [bits4 x0 x1 x2 x3 h0 h1 h2 h3, IntKind.wrap_i64, IntKind.wrap_i32]
  unfold num4 wrap32
  omega

theorem upTo_set {w : World} {g k : Nat} {r : List Int} {t : TypeId} (hk : k < 3) (h : w.heap[g]? = some (.cells #[.int .i64 (upToN r k 0), .int .i64 (upToN r k 1), .int .i64 (upToN r k 2)] t)) :
    (w.setCell ⟨g, k, none⟩ (.int .i64 (numAt r (k * 4)))).heap[g]? = some (.cells #[.int .i64 (upToN r (k + 1) 0), .int .i64 (upToN r (k + 1) 1), .int .i64 (upToN r (k + 1) 2)] t) := by
  match k, hk with
  | 0, _ => simp [World.setCell, Array.getElem?_modify, h, upToN]
  | 1, _ => simp [World.setCell, Array.getElem?_modify, h, upToN]
  | 2, _ => simp [World.setCell, Array.getElem?_modify, h, upToN]

set_option maxHeartbeats 2000000 in
set_option maxRecDepth 100000 in
theorem insWith_calls (b off cap mm : Nat) (op : Int) (r : List Int) (w : World) (hB : ∀ x ∈ r, IsB x) (hn : BytesIs w b off r) (hl : r.length = 4 * mm) (hm : mm ≤ 3) (hcap : 4 * mm ≤ cap) (hb : b < w.heap.size) :
    Calls Try.prog 31 #[.int .i64 op, .slice (some ⟨b, off, none⟩) (4 * mm) cap] w fun e w' => e = .returned (.agg #[.int .i64 op, .int .i64 (upToN r mm 0), .int .i64 (upToN r mm 1), .int .i64 (upToN r mm 2)]) ∧ Below w.heap.size w w' := by
  have HB := hid hB
  have HN := hid hn
  have HL := hid hl
  clear hB hn hl
  obtain ⟨ln, hln⟩ : ∃ ln, 4 * mm = ln := ⟨_, rfl⟩
  have HLN := hid hln
  have hdiv2 : ((ln : Int)) / 4 = (mm : Int) := by rw [← hln]; omega
  rw [hln]
  rw [hln] at hcap
  have hwm : wrap64 (mm : Int) = (mm : Int) := by unfold wrap64; omega
  clear hln
  go_enter Try.func31, Try.ntmps31
  go_wp2_with fail
  have h1 := (MapKept.heap_alloc (w.alloc (.cells #[.int .i64 0, .int .i64 0, .int .i64 0, .int .i64 0] 37)) (.cells #[.int .i64 0, .int .i64 0, .int .i64 0] 83)).1
  have h0 := (MapKept.heap_alloc w (.cells #[.int .i64 0, .int .i64 0, .int .i64 0, .int .i64 0] 37)).1
  rw [World.size_alloc] at h1
  have h0' := (Below.heap_alloc (w.alloc (.cells #[.int .i64 0, .int .i64 0, .int .i64 0, .int .i64 0] 37)) (.cells #[.int .i64 0, .int .i64 0, .int .i64 0] 83) w.heap.size (by simp)).trans h0
  have hnx0 := ((Below.refl w.heap.size w).alloc (Nat.le_refl _) (.cells #[.int .i64 0, .int .i64 0, .int .i64 0, .int .i64 0] 37)).alloc (by simp) (.cells #[.int .i64 0, .int .i64 0, .int .i64 0] 83)
  clear h0
  generalize (w.alloc (.cells #[.int .i64 0, .int .i64 0, .int .i64 0, .int .i64 0] 37)).alloc (.cells #[.int .i64 0, .int .i64 0, .int .i64 0] 83) = W1 at *
  go_loopw [11] (fun i wr => ∃ k : Nat, i = .int .i64 k ∧ k ≤ mm ∧ wr.heap[w.heap.size + 1]? = some (.cells #[.int .i64 (upToN r k 0), .int .i64 (upToN r k 1), .int .i64 (upToN r k 2)] 83) ∧
    wr.heap[w.heap.size]? = some (.cells #[.int .i64 0, .int .i64 0, .int .i64 0, .int .i64 0] 37) ∧ Below w.heap.size w wr) (fun i _ => mm - (intOf i).toNat)
  case atStart => exact ⟨0, rfl, Nat.zero_le _, h1, h0', hnx0⟩
  case round =>
    obtain ⟨k, rfl, hk, hg1, hg0, hnx⟩ := hrel
    clear h1 h0' hnx0
    by_cases hkl : (k : Int) < (mm : Int)
    · have hk4 : k * 4 + 3 < r.length := by rw [HL.out]; omega
      have hBA := HN.out.below hnx hb
      have c0 := hBA (k * 4) (by omega)
      have c1 : wr.cell? ⟨b, off + k * 4 + 1, none⟩ = some (.int .u8 (r.getD (k * 4 + 1) 0)) := hBA (k * 4 + 1) (by omega)
      have c2 : wr.cell? ⟨b, off + k * 4 + 2, none⟩ = some (.int .u8 (r.getD (k * 4 + 2) 0)) := hBA (k * 4 + 2) (by omega)
      have c3 : wr.cell? ⟨b, off + k * 4 + 3, none⟩ = some (.int .u8 (r.getD (k * 4 + 3) 0)) := hBA (k * 4 + 3) hk4
      have b0 := bytes_isB HB.out (k * 4) (by omega)
      have b1 := bytes_isB HB.out (k * 4 + 1) (by omega)
      have b2 := bytes_isB HB.out (k * 4 + 2) (by omega)
      have b3 := bytes_isB HB.out (k * 4 + 3) hk4
      have HBI := hid (bits4w _ _ _ _ b0 b1 b2 b3)
      have HNA : Hid (numAt r (k * 4) = num4 (r.getD (k * 4) 0) (r.getD (k * 4 + 1) 0) (r.getD (k * 4 + 2) 0) (r.getD (k * 4 + 3) 0)) := rfl
      clear b0 b1 b2 b3 hBA hk4
      generalize r.getD (k * 4) 0 = x0 at *
      generalize r.getD (k * 4 + 1) 0 = x1 at *
      generalize r.getD (k * 4 + 2) 0 = x2 at *
      generalize r.getD (k * 4 + 3) 0 = x3 at *
      have hq4 : (k : Int) * 4 ≤ (ln : Int) := by have := HLN.out; omega
      have hq0 : (0 : Int) ≤ (k : Int) * 4 := by omega
      have hq5 : (ln : Int) ≤ (cap : Int) := by omega
      have hk3 : (k : Int) < 3 := by omega
      have HS : Hid (4 ≤ ln - k * 4) := by show _ ≤ _; have := HLN.out; omega
      have d0 := cell_of_heap hg1 k
      have f0 := frozen_of_heap hg1 k
      rw [show (#[.int .i64 (upToN r k 0), .int .i64 (upToN r k 1), .int .i64 (upToN r k 2)] : Array Value)[k]? = some (.int .i64 0) by
        match k, (show k < 3 by omega) with
        | 0, _ => rfl
        | 1, _ => rfl
        | 2, _ => rfl] at d0
      go_wp2_with fail
      have hlt1 := heap_lt hg1
      generalize ln - k * 4 = n4 at *
      have g0 : (0 : Int) < (n4 : Int) := by have := HS.out; omega
      have gn0 : 0 < n4 := by have := HS.out; omega
      have hbn : b ≠ w.heap.size + 1 := by omega
      have hbn' : ¬ w.heap.size + 1 = b := by omega
      have g1 : (1 : Int) < (n4 : Int) := by have := HS.out; omega
      have g2 : (2 : Int) < (n4 : Int) := by have := HS.out; omega
      have g3 : (3 : Int) < (n4 : Int) := by have := HS.out; omega
      go_region_held3 (fun w' => w'.cell? ⟨b, off + k * 4, none⟩ = some (.int .u8 x0) ∧ w'.cell? ⟨b, off + k * 4 + 1, none⟩ = some (.int .u8 x1) ∧ w'.cell? ⟨b, off + k * 4 + 2, none⟩ = some (.int .u8 x2) ∧ w'.cell? ⟨b, off + k * 4 + 3, none⟩ = some (.int .u8 x3)) (go_keep) (fail)
      all_goals
        rw [HBI.out, ← HNA.out]
        have hset := upTo_set (r := r) (show k < 3 by omega) hg1
        have hg0' := (Below.heap_setCell wr ⟨w.heap.size + 1, k, none⟩ (.int .i64 (numAt r (k * 4))) w.heap.size (by simp)).trans hg0
        have hnx' := hnx.setCell (p := ⟨w.heap.size + 1, k, none⟩) (by simp) (.int .i64 (numAt r (k * 4)))
        clear hg0 hg1 hnx d0 f0
        generalize wr.setCell ⟨w.heap.size + 1, k, none⟩ (.int .i64 (numAt r (k * 4))) = W9 at *
        go_wp2_with fail
        have hs : mm - (intOf (.int .i64 ((k + 1 : Nat) : Int))).toNat < mm - (intOf (.int .i64 (k : Int))).toNat := by simp only [intOf, Int.toNat_natCast]; omega
        try rw [show ((k : Int) + 1) = ((k + 1 : Nat) : Int) from rfl]
        exact ⟨⟨k + 1, rfl, by omega, hset, hg0', hnx'.drew⟩, hs⟩
    · have hke : k = mm := by omega
      subst hke
      have q0 := cell_of_heap hg1 0
      have q1 := cell_of_heap hg1 1
      have q2 := cell_of_heap hg1 2
      simp at q0 q1 q2
      have z0 := cell_of_heap hg0 0
      have z1 := cell_of_heap hg0 1
      have z2 := cell_of_heap hg0 2
      have z3 := cell_of_heap hg0 3
      have y0 := frozen_of_heap hg0 0
      have y1 := frozen_of_heap hg0 1
      have y2 := frozen_of_heap hg0 2
      have y3 := frozen_of_heap hg0 3
      simp at z0 z1 z2 z3
      have hlt0 := heap_lt hg0
      have hlt1 := heap_lt hg1
      clear hg0 hg1
      go_wp2_with fail
      refine bodyPost_ret (v := .agg #[.int .i64 op, .int .i64 (upToN r k 0), .int .i64 (upToN r k 1), .int .i64 (upToN r k 2)]) (by simp [results, Try.results31, go_sem, z0, z1, z2, z3]) rfl ⟨rfl, ?_⟩
      repeat (first | exact hnx | refine Below.setCell ?_ (by simp) _)
end Go.Proofs.Ytnbmhopoiijhoaa

/- The program's iterator over bytes: the instructions that they hold, one behind the other; it keeps its place in a cell of its own. -/
namespace Go.Proofs.Ytnbmhopoiijhoaa
open Go.RowKit

attribute [local go_sem] Oper.semAt_some

/-- What the iterator tells of bytes: each instruction, and whether it is there to its end. -/
def tellsGo : Nat → List Int → List (In × Bool)
  | _, [] => []
  | 0, _ :: _ => []
  | f + 1, op :: r => if 4 * insMany op ≤ r.length then (insOf op r, true) :: tellsGo f (r.drop (4 * insMany op)) else [(⟨op, 0, 0, 0⟩, false)]

theorem tells_fuel : ∀ (f g : Nat) (l : List Int), l.length ≤ f → l.length ≤ g → tellsGo f l = tellsGo g l
  | _, _, [], _, _ => by simp [tellsGo]
  | 0, _, _ :: _, h, _ => by simp at h
  | _, 0, _ :: _, _, h => by simp at h
  | f + 1, g + 1, op :: r, h, h' => by
    simp only [List.length_cons] at h h'
    simp only [tellsGo]
    rw [tells_fuel f g (r.drop (4 * insMany op)) (by simp; omega) (by simp; omega)]

def tells (l : List Int) : List (In × Bool) := tellsGo l.length l

theorem tells_cons (op : Int) (r : List Int) : tells (op :: r) = if 4 * insMany op ≤ r.length then (insOf op r, true) :: tells (r.drop (4 * insMany op)) else [(⟨op, 0, 0, 0⟩, false)] := by
  unfold tells
  rw [List.length_cons, tellsGo, tells_fuel r.length (r.drop (4 * insMany op)).length (r.drop (4 * insMany op)) (by simp) (Nat.le_refl _)]

/-- What is told, and what is read. -/
theorem tells_parse : ∀ (n : Nat) (l : List Int), l.length ≤ n → (∃ c, parse l = some c ∧ tells l = c.map (fun i => (i, true))) ∨ (parse l = none ∧ ∃ (c : List In) (i : In), tells l = c.map (fun i => (i, true)) ++ [(i, false)])
  | _, [], _ => Or.inl ⟨[], rfl, rfl⟩
  | 0, _ :: _, h => by simp at h
  | n + 1, op :: r, h => by
    simp only [List.length_cons] at h
    rw [parse_cons, tells_cons]
    by_cases hl : 4 * insMany op ≤ r.length
    · rw [if_pos hl, if_pos hl]
      rcases tells_parse n (r.drop (4 * insMany op)) (by simp; omega) with ⟨c, h1, h2⟩ | ⟨h1, c, i, h2⟩
      · exact Or.inl ⟨insOf op r :: c, by rw [h1]; rfl, by rw [h2]; rfl⟩
      · exact Or.inr ⟨by rw [h1]; rfl, insOf op r :: c, i, by rw [h2]; rfl⟩
    · rw [if_neg hl, if_neg hl]
      exact Or.inr ⟨rfl, [], _, rfl⟩

theorem numsZ_nonneg (op : Int) : 0 ≤ numsZ op := by
  unfold numsZ
  repeat' split
  all_goals omega

/-- An instruction as a value. -/
def inV (i : In) : Value := .agg #[.int .i64 i.op, .int .i64 i.a, .int .i64 i.b, .int .i64 i.c]

/-- How much is left to tell, read off the world. -/
def iterLeft (Bn : Nat) (p : Value) (W : World) : Nat :=
  match p with
  | .bool true => (match W.cell? ⟨Bn, 0, none⟩ with
    | some (.slice _ n _) => n + 1
    | _ => 0)
  | _ => 0

theorem iterLeft_false (Bn : Nat) (W : World) : iterLeft Bn (.bool false) W = 0 := rfl

theorem iterLeft_true {Bn : Nat} {W : World} {a : Option Addr} {n c : Nat} (h : W.cell? ⟨Bn, 0, none⟩ = some (.slice a n c)) : iterLeft Bn (.bool true) W = n + 1 := by
  unfold iterLeft
  rw [h]

theorem upTo_insOf (op : Int) (r : List Int) : inV (insOf op r) = .agg #[.int .i64 op, .int .i64 (upToN (r.take (4 * insMany op)) (insMany op) 0), .int .i64 (upToN (r.take (4 * insMany op)) (insMany op) 1), .int .i64 (upToN (r.take (4 * insMany op)) (insMany op) 2)] := by
  have hn : ∀ j, j < insMany op → numAt (r.take (4 * insMany op)) (4 * j) = numAt r (4 * j) := fun j hj => by
    unfold numAt
    simp only [List.getD]
    rw [List.getElem?_take_of_lt (by omega), List.getElem?_take_of_lt (by omega), List.getElem?_take_of_lt (by omega), List.getElem?_take_of_lt (by omega)]
  have he : ∀ j, upToN (r.take (4 * insMany op)) (insMany op) j = if j < insMany op then numAt r (4 * j) else 0 := fun j => by
    unfold upToN
    by_cases h : j < insMany op
    · rw [if_pos h, if_pos h, hn j h]
    · rw [if_neg h, if_neg h]
  rw [he 0, he 1, he 2]
  rfl

theorem box4_set {w : World} {b : Nat} {t : TypeId} {x0 x1 x2 x3 : Value} (h : w.heap[b]? = some (.cells #[x0, x1, x2, x3] t)) (a0 a1 a2 a3 : Value) : ((((w.setCell ⟨b, 0, none⟩ a0).setCell ⟨b, 1, none⟩ a1).setCell ⟨b, 2, none⟩ a2).setCell ⟨b, 3, none⟩ a3).heap[b]? = some (.cells #[a0, a1, a2, a3] t) := by
  simp [World.setCell, Array.getElem?_modify, h]

theorem box1_set {w : World} {b : Nat} {t : TypeId} {x0 : Value} (h : w.heap[b]? = some (.cells #[x0] t)) (a0 : Value) : (w.setCell ⟨b, 0, none⟩ a0).heap[b]? = some (.cells #[a0] t) := by
  simp [World.setCell, Array.getElem?_modify, h]

set_option maxRecDepth 100000 in
set_option maxHeartbeats 2000000 in
theorem iter_in (g Bn l : Nat) (J Jx : List (In × Bool) → World → Prop) (rest : List Int) (hB : ∀ x ∈ rest, IsB x) (hlen : rest.length ≤ 20000) (hgB : g ≠ Bn)
    (hJb : ∀ s A B, J s A → Below A.heap.size A B → J s B) (hJs : ∀ s A v, J s A → J s (A.setCell ⟨Bn, 0, none⟩ v))
    (hY : ∀ pre x W, J pre W → (∃ post, tells rest = pre ++ x :: post) → YieldAt Fence.wide 0 Try.prog l #[inV x.1, .bool x.2] W fun e W' => (e = .returned (.bool true) ∧ J (pre ++ [x]) W' ∧ W'.heap[Bn]? = W.heap[Bn]? ∧ W'.heap[g]? = W.heap[g]? ∧ W.heap.size ≤ W'.heap.size) ∨ (e = .returned (.bool false) ∧ Jx (pre ++ [x]) W'))
    (W : World) (o c : Nat) (hc : W.heap[Bn]? = some (.cells #[.slice (some ⟨g, o, none⟩) rest.length c] 22)) (hr : rest.length ≤ c) (hbt : BytesIs W g o rest) (hgl : g < W.heap.size) (h0 : J [] W) :
    CallsIn Fence.wide 0 Try.prog 30 #[.func (.yield l) #[] #[], .pointer (some ⟨Bn, 0, none⟩)] W fun e W' => (∃ v, e = .returned v) ∧ (J (tells rest) W' ∨ ∃ pre x post, tells rest = pre ++ x :: post ∧ Jx (pre ++ [x]) W') := by
  have HB := hid hB
  have HLn := hid hlen
  have HJb := hid hJb
  have HJs := hid hJs
  have HY := hid hY
  have HBt := hid hbt
  have H0 := hid h0
  clear hB hlen hJb hJs hY hbt h0
  obtain ⟨hc0, hz0⟩ : W.cell? ⟨Bn, 0, none⟩ = some (.slice (some ⟨g, o, none⟩) rest.length c) ∧ W.frozen? ⟨Bn, 0, none⟩ = false := ⟨by simp [World.cell?, hc], by simp [World.frozen?, hc]⟩
  have hro : Fence.wide.round = none := rfl
  refine callsIn_of_wp Try.func30 rfl trivial ?_ hro
  simp only [Try.ntmps30, List.size_toArray, List.length_cons, List.length_nil, Nat.reduceAdd, Nat.reduceSub, Array.replicate_succ, Array.replicate_zero, List.push_toArray, List.append_toArray, List.nil_append, List.cons_append]
  gi_wp2
  gi_loopw [3] (fun p wr => ∃ (b : Bool) (pre : List (In × Bool)) (rst : List Int) (o c : Nat), p = .bool b ∧ Hid (tells rest = pre ++ (if b then tells rst else [])) ∧ wr.heap[Bn]? = some (.cells #[.slice (some ⟨g, o, none⟩) rst.length c] 22) ∧ Hid (rst.length ≤ c ∧ rst.length ≤ 20000) ∧ Hid (BytesIs wr g o rst) ∧ g < wr.heap.size ∧ Hid (∀ x ∈ rst, IsB x) ∧ Hid (J pre wr)) (fun p wr => iterLeft Bn p wr)
  case atStart => exact ⟨true, [], rest, o, c, rfl, by show _ = _; simp, hc, ⟨hr, HLn.out⟩, HBt, hgl, HB, H0⟩
  case round =>
    obtain ⟨b, pre, rst, o, c, rfl, HT, hcn, HRc, HBr, hgr, HBs, HJ⟩ := hrel
    have q0 : wr.cell? ⟨Bn, 0, none⟩ = some (.slice (some ⟨g, o, none⟩) rst.length c) := by simp [World.cell?, hcn]
    have z0 : wr.frozen? ⟨Bn, 0, none⟩ = false := by simp [World.frozen?, hcn]
    cases b with
    | false =>
      gi_wp2_with fail
      go_end0
      have e := HT.out
      simp at e
      exact ⟨⟨_, rfl⟩, Or.inl (by rw [e]; exact HJ.out)⟩
    | true =>
      cases rst with
      | nil =>
        simp only [List.length_nil] at q0
        gi_wp2_with fail
        go_end0
        have e := HT.out
        simp [tells, tellsGo] at e
        exact ⟨⟨_, rfl⟩, Or.inl (by unfold tells; rw [e]; exact HJ.out)⟩
      | cons op r =>
        simp only [List.length_cons] at q0
        have hln : (0 : Int) < ((r.length + 1 : Nat) : Int) := by omega
        have c1 : wr.cell? ⟨g, o, none⟩ = some (.int .u8 op) := by
          have e := HBr.out 0 (by simp)
          simpa using e
        have HOp : Hid (IsB op) := HBs.out op (by simp)
        obtain ⟨m, hm, hm3⟩ : ∃ m : Nat, insMany op = m ∧ m ≤ 3 := ⟨_, rfl, insMany_le op⟩
        have HMm := hid hm
        have HNz : Hid (numsZ op = (m : Int)) := by
          show _ = _
          have := numsZ_nonneg op
          rw [← hm]
          unfold insMany
          omega
        clear hm
        obtain ⟨n, hn⟩ : ∃ n, r.length = n := ⟨_, rfl⟩
        have HN := hid hn
        rw [hn] at q0 hln
        clear hn
        have hwo : wrap64 op = op := by
          have := HOp.out
          unfold IsB at this
          unfold wrap64
          omega
        gi_wp2_with fail
        refine ⟨trivial, rfl, (callsIn_wide.2 (insNumbers_calls op _)).mono ?_⟩
        rintro e _ ⟨rfl, rfl⟩
        rw [HNz.out]
        have hw1 : wrap64 (4 * (m : Int)) = 4 * (m : Int) := by unfold wrap64; omega
        have hw2 : wrap64 (1 + 4 * (m : Int)) = 1 + 4 * (m : Int) := by unfold wrap64; omega
        have hBnl : Bn < wr.heap.size := heap_lt hcn
        by_cases hfit : (1 + 4 * (m : Int)) ≤ (n : Int) + 1
        · have hs1 : (1 : Int) ≤ 1 + 4 * (m : Int) := by omega
          have hs2 : (1 + 4 * (m : Int)) ≤ (c : Int) := by have := HRc.out.1; have := HN.out; simp only [List.length_cons] at *; omega
          have hm4 : 4 * m ≤ r.length := by have := HN.out; omega
          obtain ⟨i1, i2, i3, i4, hi⟩ : ∃ i1 i2 i3 i4, insOf op r = ⟨i1, i2, i3, i4⟩ := ⟨_, _, _, _, rfl⟩
          have HI := hid hi
          have HKy : Hid (∀ (X : World) (ad cp : Nat), Below wr.heap.size wr X → (ad = o + 1 ∨ m = 0) → 4 * m ≤ cp → Calls Try.prog 31 #[.int .i64 op, .slice (some ⟨g, ad, none⟩) (4 * m) cp] X fun e w' => e = .returned (.agg #[.int .i64 i1, .int .i64 i2, .int .i64 i3, .int .i64 i4]) ∧ Below X.heap.size X w') := fun X ad cp hX had hcp => by
            have e1 := upTo_insOf op r
            rw [HMm.out, hi] at e1
            unfold inV at e1
            dsimp only at e1
            rw [e1]
            refine insWith_calls g ad cp m op (r.take (4 * m)) X (fun x hx => HBs.out x (List.mem_cons_of_mem _ (List.mem_of_mem_take hx))) (fun k hk => ?_) (by simp; omega) hm3 hcp (Nat.lt_of_lt_of_le hgr hX.size)
            have hk2 : k < 4 * m := by simp at hk; omega
            rcases had with rfl | h0
            · have e2 := (HBr.out.below hX hgr) (k + 1) (by simp; omega)
              rw [show o + 1 + k = o + (k + 1) by omega, e2]
              simp [List.getD, List.getElem?_take_of_lt hk2]
            · omega
          clear hi
          obtain ⟨rd, hrd⟩ : ∃ rd, r.drop (4 * m) = rd := ⟨_, rfl⟩
          have HRD := hid hrd
          clear hrd
          gi_upto_if 27 with fail
          gi_cut [] from 7 (fun X => Hid (X.heap[wr.heap.size]? = some (.cells #[.int .i64 i1, .int .i64 i2, .int .i64 i3, .int .i64 i4] 37) ∧ (∃ o' c', X.heap[Bn]? = some (.cells #[.slice (some ⟨g, o', none⟩) rd.length c'] 22) ∧ rd.length ≤ c' ∧ BytesIs X g o' rd) ∧ J pre X ∧ wr.heap.size < X.heap.size))
          case first =>
            gi_wp2_with fail
            all_goals
              refine ⟨trivial, rfl, (callsIn_wide.2 (HKy.out _ _ _ ((Below.refl _ _).alloc (Nat.le_refl _) _) (by omega) (by omega))).mono ?_⟩
              rintro e w1 ⟨rfl, hb1⟩
              obtain ⟨bx, hbw⟩ := one_kept hb1
              clear hb1
              have c0 := cell_of_heap bx 0
              have c1 := cell_of_heap bx 1
              have c2 := cell_of_heap bx 2
              have c3 := cell_of_heap bx 3
              simp at c0 c1 c2 c3
              have z1 := frozen_of_heap bx 0
              have z2 := frozen_of_heap bx 1
              have z3 := frozen_of_heap bx 2
              have z4 := frozen_of_heap bx 3
              have hn1 := (hbw.block Bn hBnl).trans hcn
              have q1 : w1.cell? ⟨Bn, 0, none⟩ = some (.slice (some ⟨g, o, none⟩) (n + 1) _) := (hbw.cell (p := ⟨Bn, 0, none⟩) hBnl).trans q0
              have z5 : w1.frozen? ⟨Bn, 0, none⟩ = false := by simp [World.frozen?, hn1]
              have hne : wr.heap.size ≠ Bn := by omega
              have HBx := hid bx
              clear bx
              gi_upto_region 8 with fail
              obtain ⟨W5, hW5, hx5, hn5, hb5⟩ : ∃ W5, ((((w1.setCell ⟨wr.heap.size, 0, none⟩ (.int .i64 i1)).setCell ⟨wr.heap.size, 1, none⟩ (.int .i64 i2)).setCell ⟨wr.heap.size, 2, none⟩ (.int .i64 i3)).setCell ⟨wr.heap.size, 3, none⟩ (.int .i64 i4)) = W5 ∧ W5.heap[wr.heap.size]? = some (.cells #[.int .i64 i1, .int .i64 i2, .int .i64 i3, .int .i64 i4] 37) ∧ W5.heap[Bn]? = wr.heap[Bn]? ∧ Below wr.heap.size wr W5 := ⟨_, rfl, box4_set HBx.out _ _ _ _, ((((hbw.setCell (p := ⟨wr.heap.size, 0, none⟩) (Nat.le_refl _) _).setCell (p := ⟨wr.heap.size, 1, none⟩) (Nat.le_refl _) _).setCell (p := ⟨wr.heap.size, 2, none⟩) (Nat.le_refl _) _).setCell (p := ⟨wr.heap.size, 3, none⟩) (Nat.le_refl _) _).block Bn hBnl, (((hbw.setCell (p := ⟨wr.heap.size, 0, none⟩) (Nat.le_refl _) _).setCell (p := ⟨wr.heap.size, 1, none⟩) (Nat.le_refl _) _).setCell (p := ⟨wr.heap.size, 2, none⟩) (Nat.le_refl _) _).setCell (p := ⟨wr.heap.size, 3, none⟩) (Nat.le_refl _) _⟩
              rw [hW5]
              clear hW5 HBx c0 c1 c2 c3 z1 z2 z3 z4 q1 z5 hn1 hbw q0 z0
              have hn6 := hn5.trans hcn
              have q2 := cell_of_heap hn6 0
              rw [List.length_cons, HN.out] at q2
              simp at q2
              have z6 := frozen_of_heap hn6 0
              have HN6 := hid hn6
              have HX5 := hid hx5
              have HB5 := hid hb5
              clear hn6 hx5 hn5 hb5
              gi_wp2_with gi_meet
            all_goals
              have hlr : n + 1 - (1 + 4 * m) = rd.length := by
                rw [← HRD.out, List.length_drop, HN.out]
                omega
              have hrc := HRc.out.1
              rw [List.length_cons, HN.out] at hrc
              rw [hlr]
              refine ⟨(Below.heap_setCell W5 ⟨Bn, 0, none⟩ _ _ hne).trans HX5.out, ⟨_, _, box1_set HN6.out _, by rw [← hlr]; omega, fun k hk => ?_⟩, HJs.out _ _ _ (HJb.out _ _ _ HJ.out HB5.out), ?_⟩
              rotate_left
              · exact Nat.lt_of_lt_of_le (heap_lt HX5.out) (by simp [World.setCell])
              rw [← hlr] at hk
              rw [World.cell?_of_block (w := W5) (Below.heap_setCell W5 ⟨Bn, 0, none⟩ _ g hgB)]
              first
                | (exfalso; omega)
                | (have e2 := (HBr.out.below HB5.out hgr) (k + (1 + 4 * m)) (by rw [List.length_cons, HN.out]; omega)
                   rw [show o + (1 + 4 * m) + k = o + (k + (1 + 4 * m)) by omega, e2, show k + (1 + 4 * m) = (4 * m + k) + 1 by omega]
                   rw [← HRD.out]
                   simp [List.getD])
          case rest =>
            obtain ⟨hx, ⟨o', c', hn', hc', hbt'⟩, hj, hsz⟩ := hcut.out
            have HBt' := hid hbt'
            have HRd : Hid (rd.length ≤ c' ∧ rd.length ≤ 20000) := ⟨hc', by have := HRc.out.2; rw [← HRD.out]; simp at this ⊢; omega⟩
            have HTn : Hid (tells rest = (pre ++ [(⟨i1, i2, i3, i4⟩, true)]) ++ tells rd) := by
              show _ = _
              have e := HT.out
              rw [if_pos (by trivial), tells_cons, HMm.out, if_pos hm4, HI.out, HRD.out] at e
              rw [e, List.append_assoc]
              rfl
            obtain ⟨fn, tmps, assign, body, hy, hR⟩ := HY.out pre (⟨i1, i2, i3, i4⟩, true) wc hj ⟨tells rd, by rw [HTn.out, List.append_assoc]; rfl⟩
            unfold inV at hy
            dsimp only at hy
            have c0 := cell_of_heap hx 0
            have c2 := cell_of_heap hx 1
            have c3 := cell_of_heap hx 2
            have c4 := cell_of_heap hx 3
            simp at c0 c2 c3 c4
            clear hcut hx hj hbt' hc' hs1 hs2 hfit hw1 hw2
            gi_wp2_with fail
            refine ⟨rfl, hR.mono ?_⟩
            rintro e W3 (⟨rfl, hJ3, hk3, hg3, hs3⟩ | ⟨rfl, hJx3⟩)
            · have hn3 := hk3.trans hn'
              have HJ3 := hid hJ3
              clear hy hR hJ3
              gi_wp2_with fail
              go_roundw
              case rel => exact ⟨true, _, rd, o', c', rfl, by show _ = _; rw [if_pos rfl]; exact HTn.out, hn3, HRd, fun k hk => (World.cell?_of_block (a := ⟨g, o' + k, none⟩) hg3).trans (HBt'.out k hk), by omega, fun x hx => HBs.out x (List.mem_cons_of_mem _ (List.mem_of_mem_drop (by rw [HRD.out]; exact hx))), HJ3⟩
              case measure =>
                have e3 := cell_of_heap hn3 0
                simp at e3
                rw [iterLeft_true e3, iterLeft_true q0, ← HRD.out, List.length_drop, HN.out]
                omega
            · clear hy hR
              gi_wp2_with fail
              refine bodyPost_ret (results_none rfl _ _ _) rfl ?_
              exact ⟨⟨_, rfl⟩, Or.inr ⟨pre, _, tells rd, by rw [HTn.out, List.append_assoc]; rfl, hJx3⟩⟩
        · gi_upto_if 27 with fail
          rw [decide_eq_false (show ¬ (1 + 4 * (m : Int)) ≤ (n : Int) + 1 by omega)]
          have hA := (MapKept.heap_alloc wr (.cells #[.int .i64 op, .int .i64 0, .int .i64 0, .int .i64 0] 37)).1
          have hbA := (Below.refl wr.heap.size wr).alloc (Nat.le_refl _) (.cells #[.int .i64 op, .int .i64 0, .int .i64 0, .int .i64 0] 37)
          generalize wr.alloc (.cells #[.int .i64 op, .int .i64 0, .int .i64 0, .int .i64 0] 37) = wc at *
          have HTn : Hid (tells rest = (pre ++ [(⟨op, 0, 0, 0⟩, false)])) := by
            show _ = _
            have e := HT.out
            rw [if_pos (by trivial), tells_cons, HMm.out, if_neg (by have := HN.out; omega)] at e
            exact e
          have hn' := (hbA.block Bn hBnl).trans hcn
          obtain ⟨fn, tmps, assign, body, hy, hR⟩ := HY.out pre (⟨op, 0, 0, 0⟩, false) wc (HJb.out _ _ _ HJ.out hbA) ⟨[], HTn.out⟩
          unfold inV at hy
          dsimp only at hy
          have c0 := cell_of_heap hA 0
          have c2 := cell_of_heap hA 1
          have c3 := cell_of_heap hA 2
          have c4 := cell_of_heap hA 3
          simp at c0 c2 c3 c4
          have HBA := hid hbA
          clear hA hbA hw1 hw2 hfit
          gi_wp2_with fail
          refine ⟨rfl, hR.mono ?_⟩
          rintro e W3 (⟨rfl, hJ3, hk3, hg3, hs3⟩ | ⟨rfl, hJx3⟩)
          · have hn3 := hk3.trans hn'
            have HJ3 := hid hJ3
            clear hy hR hJ3
            gi_wp2_with fail
            go_roundw
            case rel => exact ⟨false, _, op :: r, o, c, rfl, by show _ = _; rw [if_neg (by simp), List.append_nil]; exact HTn.out, hn3, HRc, fun k hk => (World.cell?_of_block (a := ⟨g, o + k, none⟩) hg3).trans ((HBr.out.below HBA.out hgr) k hk), Nat.lt_of_lt_of_le hgr (Nat.le_trans HBA.out.size hs3), HBs, HJ3⟩
            case measure =>
              rw [iterLeft_false, iterLeft_true q0]
              omega
          · clear hy hR
            gi_wp2_with fail
            refine bodyPost_ret (results_none rfl _ _ _) rfl ?_
            exact ⟨⟨_, rfl⟩, Or.inr ⟨pre, _, [], HTn.out, hJx3⟩⟩
end Go.Proofs.Ytnbmhopoiijhoaa

/- A range over the program's iterator: what the caller owes is an invariant of its own, which the iterator's own cell does not touch, and one walk of a round. -/
namespace Go.Proofs.Ytnbmhopoiijhoaa
open Go.RowKit

/-- What a round leaves as it was: the iterator's cell, the bytes, the loop's record, the block of the rounds' deferred calls. -/
structure Left (C b : Nat) (X Y : World) : Prop where
  cell : Y.heap[C + 1]? = X.heap[C + 1]?
  defer : Y.heap[C + 2]? = X.heap[C + 2]?
  loop : Y.heap[C + 3]? = X.heap[C + 3]?
  bytes : Y.heap[b]? = X.heap[b]?
  size : X.heap.size ≤ Y.heap.size

theorem Left.refl (C b : Nat) (X : World) : Left C b X X := ⟨rfl, rfl, rfl, rfl, Nat.le_refl _⟩

theorem Left.trans {C b : Nat} {X Y Z : World} (h : Left C b X Y) (h' : Left C b Y Z) : Left C b X Z := ⟨h'.cell.trans h.cell, h'.defer.trans h.defer, h'.loop.trans h.loop, h'.bytes.trans h.bytes, Nat.le_trans h.size h'.size⟩

theorem Left.of_below {C b : Nat} {X Y : World} (h : Below X.heap.size X Y) (hC : C + 3 < X.heap.size) (hb : b < C) : Left C b X Y := ⟨h.block _ (by omega), h.block _ (by omega), h.block _ (by omega), h.block _ (by omega), h.size⟩

theorem Left.set {C b : Nat} (X : World) {p : Addr} (h1 : p.block ≠ C + 1) (h2 : p.block ≠ C + 2) (h3 : p.block ≠ C + 3) (h4 : p.block ≠ b) (v : Value) : Left C b X (X.setCell p v) :=
  ⟨Below.heap_setCell X p v _ h1.symm, Below.heap_setCell X p v _ h2.symm, Below.heap_setCell X p v _ h3.symm, Below.heap_setCell X p v _ h4.symm, by simp [World.setCell]⟩

/-- How a round may end. -/
def leftPost (C b : Nat) (I Ix : List (In × Bool) → World → Prop) (xs : List (In × Bool)) (X : World) : Exit → Act → World → Prop
  | .normal, _, Y => Left C b X Y ∧ I xs Y
  | .ret, _, Y => Left C b X Y ∧ Ix xs Y
  | _, _, _ => False

theorem range_in {asg body : Code} {Q : Exit → Act → World → Prop} {tm : Array Value} {ps : Array Tmp} {W : World} {gop : Operand} {C b o cap : Nat} {rest : List Int}
    (hg : ({ tmps := tm, defers := [] } : Act).eval gop = .func (.func 30) #[] #[.pointer (some ⟨C + 1, 0, none⟩)]) (hps : ps.size = 2)
    (hsz : W.heap.size = C + 2) (hC1 : W.heap[C + 1]? = some (.cells #[.slice (some ⟨b, o, none⟩) rest.length cap] 22)) (hcp : rest.length ≤ cap) (hbC : b < C) (hbt : BytesIs W b o rest) (hrB : ∀ x ∈ rest, IsB x) (hlen : rest.length ≤ 20000)
    (I Ix : List (In × Bool) → World → Prop) (h0 : ∀ o1 o2, I [] ((W.alloc o1).alloc o2))
    (hIb : ∀ s A B, I s A → C + 4 ≤ A.heap.size → Below A.heap.size A B → I s B) (hIs : ∀ s A v, I s A → I s (A.setCell ⟨C + 1, 0, none⟩ v)) (hIp : ∀ s A l o, I s A → C < l → l < C + 4 → I s (A.putObj l o)) (hIxp : ∀ s A l o, Ix s A → C < l → l < C + 4 → Ix s (A.putObj l o))
    (hround : ∀ l pre x X, I pre X → C + 4 ≤ X.heap.size → (∃ post, tells rest = pre ++ x :: post) →
      asg.wpIn (Fence.wide.inRound l) 0 Try.prog (Exit.then (fun a₁ X₁ => Left C b X X₁ ∧ ∀ r, body.wpIn (Fence.wide.inRound l) 0 Try.prog (leftPost C b I Ix (pre ++ [x]) (X₁.putObj (C + 3) r)) a₁ (X₁.putObj (C + 3) r)) (fun _ _ _ => False))
        { tmps := (ps.zip #[inV x.1, .bool x.2]).foldl (fun t (p, v) => t.setIfInBounds p v) tm, defers := [] } X)
    (hdone : ∀ X, I (tells rest) X → X.heap[C + 2]? = some (.deferred (some [])) → C + 4 ≤ X.heap.size → Q .normal { tmps := tm, defers := [{ target := .collected (C + 2), args := #[] }] } X)
    (hstop : ∀ pre X, (∃ post, tells rest = pre ++ post) → Ix pre X → X.heap[C + 2]? = some (.deferred (some [])) → C + 4 ≤ X.heap.size → Code.ret.wpIn Fence.wide 0 Try.prog Q { tmps := tm, defers := [{ target := .collected (C + 2), args := #[] }] } X) :
    (Code.rangeFunc gop ps asg body).wpIn Fence.wide 0 Try.prog Q { tmps := tm, defers := [] } W := by
  refine wpIn_rangeFunc ?_
  intro fn _
  obtain ⟨rec, hrec⟩ : ∃ rec : LoopState → Option Code → Loop, rec = fun st pe => { state := st, pending := pe, fn := fn, tmps := tm, params := ps, assign := asg, body := body, defers := W.heap.size } := ⟨_, rfl⟩
  obtain ⟨W1, hW1⟩ : ∃ W1, (W.alloc (.deferred (some []))).alloc (.loop (rec .ready none)) = W1 := ⟨_, rfl⟩
  have hl1 : W1.heap[C + 3]? = some (.loop (rec .ready none)) := by
    have e := (MapKept.heap_alloc (W.alloc (.deferred (some []))) (.loop (rec .ready none))).1
    rw [World.size_alloc, hsz, hW1] at e
    exact e
  have hd1 : W1.heap[C + 2]? = some (.deferred (some [])) := by
    rw [← hW1, Below.heap_alloc _ _ _ (by simp; omega)]
    have e := (MapKept.heap_alloc W (.deferred (some []))).1
    rwa [hsz] at e
  have hb1 : Below W.heap.size W W1 := by
    rw [← hW1]
    exact ((Below.refl _ W).alloc (Nat.le_refl _) _).alloc (by simp) _
  have hs1 : W1.heap.size = C + 4 := by rw [← hW1]; simp; omega
  have hI1 : I [] W1 := by rw [← hW1]; exact h0 _ _
  refine ⟨C + 3, [{ target := .collected (C + 2), args := #[] }], W1, { target := .fn (.func 30) #[.pointer (some ⟨C + 1, 0, none⟩)], args := #[.func (.yield (C + 3)) #[] #[]] }, W1, 30, #[.func (.yield (C + 3)) #[] #[], .pointer (some ⟨C + 1, 0, none⟩)], W1, ?_, ?_, fun _ _ => trivial, ?_, fun h => by simp [Fence.wide] at h, ?_⟩
  · rw [← hW1, hrec]
    have e := run_enterLoop_outer (P := Try.prog) (w := W) fn tm ps asg body
    rw [hsz] at e
    rw [hsz]
    exact e
  · simp only [resolve, hg]
    simp [go_sem]
  · have eg := enters_of Try.func30 (by kernel_rfl) rfl
    simp [invoke, go_sem, eg _ _]
  have hfin : ∀ (jump : Option Code) (X : World), X.heap[C + 3]? = some (.loop { rec .ready none with state := .busy }) → (Instr.endRound (C + 3) jump).run Try.prog X = .ok (.bool jump.isNone) (X.putObj (C + 3) (.loop (rec (if jump.isNone then .ready else .done) jump))) := fun jump X hX => by
    have e := run_endRound (P := Try.prog) jump hX
    rw [hrec] at e ⊢
    exact e
  refine (iter_in b (C + 1) (C + 3) (fun pre X => I pre X ∧ X.heap[C + 3]? = some (.loop (rec .ready none)) ∧ X.heap[C + 2]? = some (.deferred (some [])) ∧ C + 4 ≤ X.heap.size)
    (fun pre X => Ix pre X ∧ X.heap[C + 3]? = some (.loop (rec .done (some .ret))) ∧ X.heap[C + 2]? = some (.deferred (some [])) ∧ C + 4 ≤ X.heap.size) rest hrB hlen (by omega) ?_ ?_ ?_ W1 o cap ((hb1.block _ (by omega)).trans hC1) hcp (hbt.below hb1 (by omega)) (by omega) ⟨hI1, hl1, hd1, by omega⟩).mono ?_
  · rintro s A B ⟨h1, h2, h3, h4⟩ hb
    exact ⟨hIb s A B h1 h4 hb, (hb.block _ (by omega)).trans h2, (hb.block _ (by omega)).trans h3, Nat.le_trans h4 hb.size⟩
  · rintro s A v ⟨h1, h2, h3, h4⟩
    exact ⟨hIs s A v h1, (Below.heap_setCell A ⟨C + 1, 0, none⟩ v _ (by dsimp only; omega)).trans h2, (Below.heap_setCell A ⟨C + 1, 0, none⟩ v _ (by dsimp only; omega)).trans h3, by simpa [World.setCell] using h4⟩
  · rintro pre x X ⟨h1, h2, h3, h4⟩ hpost
    have hy := run_yield (P := Try.prog) (args := #[inV x.1, .bool x.2]) h2 (by rw [hrec]; exact hps.symm)
    rw [hrec] at hy
    refine ⟨fn, _, asg, body, hy, roundIn_of_wpIn trivial (wpIn_mono (hround (C + 3) pre x X h1 h4 hpost) ?_)⟩
    rintro e a1 X1 hq
    cases e with
    | normal =>
      obtain ⟨hk, hbody⟩ := hq
      have hl2 := hk.loop.trans h2
      refine ⟨_, run_beginRound hl2 (by rw [hrec]), wpIn_mono (hbody (.loop { rec .ready none with state := .busy })) ?_⟩
      have hlt : C + 3 < X1.heap.size := heap_lt hl2
      rintro e a2 X2 hq2
      have hbusy : (X1.putObj (C + 3) (.loop { rec .ready none with state := .busy })).heap[C + 3]? = some (.loop { rec .ready none with state := .busy }) := World.putObj_heap_same hlt
      have hp1 : ∀ q, q ≠ C + 3 → (X1.putObj (C + 3) (.loop { rec .ready none with state := .busy })).heap[q]? = X1.heap[q]? := fun q hq => World.putObj_heap_other hq
      have hps1 : (X1.putObj (C + 3) (.loop { rec .ready none with state := .busy })).heap.size = X1.heap.size := by simp
      cases e with
      | normal =>
        obtain ⟨hl3, hi3⟩ := hq2
        have hb3 := hl3.loop.trans hbusy
        have hs2 := hl3.size
        have hks := hk.size
        refine ⟨_, _, hfin none X2 hb3, Or.inl ⟨rfl, ⟨hIp _ _ _ _ hi3 (by omega) (by omega), World.putObj_heap_same (heap_lt hb3), (World.putObj_heap_other (by omega)).trans (hl3.defer.trans ((hp1 _ (by omega)).trans (hk.defer.trans h3))), by simp; omega⟩, ?_, ?_, by simp; omega⟩⟩
        · exact (World.putObj_heap_other (by omega)).trans (hl3.cell.trans ((hp1 _ (by omega)).trans hk.cell))
        · exact (World.putObj_heap_other (by omega)).trans (hl3.bytes.trans ((hp1 _ (by omega)).trans hk.bytes))
      | ret =>
        obtain ⟨hl3, hi3⟩ := hq2
        have hb3 := hl3.loop.trans hbusy
        have hs2 := hl3.size
        have hks := hk.size
        exact ⟨_, _, hfin (some .ret) X2 hb3, Or.inr ⟨rfl, hIxp _ _ _ _ hi3 (by omega) (by omega), World.putObj_heap_same (heap_lt hb3), (World.putObj_heap_other (by omega)).trans (hl3.defer.trans ((hp1 _ (by omega)).trans (hk.defer.trans h3))), by simp; omega⟩⟩
      | exit id => exact hq2.elim
      | goto t => exact hq2.elim
      | panic ch => exact hq2.elim
      | outgrown => exact hq2.elim
    | exit id => exact hq.elim
    | goto t => exact hq.elim
    | ret => exact hq.elim
    | panic ch => exact hq.elim
    | outgrown => exact hq.elim
  · rintro e X ⟨⟨v, rfl⟩, ⟨h1, h2, h3, h4⟩ | ⟨pre, x, post, htl, h1, h2, h3, h4⟩⟩
    · have e := run_endLoop (P := Try.prog) h2 (by rw [hrec]; simp)
      rw [hrec] at e
      exact ⟨none, _, e, hdone _ (hIp _ _ _ _ h1 (by omega) (by omega)) ((World.putObj_heap_other (by omega)).trans h3) (by simp; omega)⟩
    · have e := run_endLoop (P := Try.prog) h2 (by rw [hrec]; simp)
      rw [hrec] at e
      exact ⟨some .ret, _, e, hstop (pre ++ [x]) _ ⟨post, by rw [htl]; simp⟩ (hIxp _ _ _ _ h1 (by omega) (by omega)) ((World.putObj_heap_other (by omega)).trans h3) (by simp; omega)⟩
end Go.Proofs.Ytnbmhopoiijhoaa

/- Whether bytes begin with the head of code, as the library tells it. -/
namespace Go.Proofs.Ytnbmhopoiijhoaa
open Go.RowKit

theorem str_beq {xs ys : List Int} (hx : ∀ x ∈ xs, IsB x) (hy : ∀ x ∈ ys, IsB x) : ((byteStr xs).toList == (byteStr ys).toList) = decide (xs = ys) := by
  rw [ByteArray.toList_eq, ByteArray.toList_eq]
  by_cases h : xs = ys
  · subst h
    simp
  · rw [decide_eq_false h, beq_eq_false_iff_ne]
    intro e
    exact h (byteStr_inj hx hy (Go.WideShapes.bytes_inj e))

set_option maxRecDepth 100000 in
theorem equal_calls (b off cap g o cap' : Nat) (xs ys : List Int) (w : World) (hx : ∀ x ∈ xs, IsB x) (hy : ∀ x ∈ ys, IsB x) (h1 : BytesIs w b off xs) (h2 : BytesIs w g o ys) :
    Calls Try.prog 42 #[.slice (some ⟨b, off, none⟩) xs.length cap, .slice (some ⟨g, o, none⟩) ys.length cap'] w fun e w' => e = .returned (.bool (decide (xs = ys))) ∧ Below w.heap.size w w' := by
  have hcv1 := bytes_string w b off cap xs hx h1
  have hcv2 := bytes_string w g o cap' ys hy h2
  have HS := hid (str_beq hx hy)
  generalize decide (xs = ys) = R at *
  generalize byteStr xs = S at *
  generalize byteStr ys = S' at *
  generalize xs.length = n at *
  generalize ys.length = m at *
  go_enter Try.func42, Try.ntmps42
  go_wp2_with fail
  rw [HS.out]
  go_ret
  exact ⟨rfl, Below.refl _ _⟩

theorem head_isB : ∀ x ∈ headBytes, IsB x := by
  intro x hx
  unfold headBytes at hx
  unfold IsB
  simp at hx
  omega

theorem BytesIs.take {w : World} {b off : Nat} {bs : List Int} (h : BytesIs w b off bs) (n : Nat) : BytesIs w b off (bs.take n) := by
  intro k hk
  have hk' : k < bs.length ∧ k < n := by simp at hk; omega
  rw [h k hk'.1]
  simp [List.getD, List.getElem?_take_of_lt hk'.2]

set_option maxHeartbeats 1000000 in
set_option maxRecDepth 100000 in
theorem hasHead_cap (b off cap g cap' : Nat) (bs : List Int) (w : World) (hcap : bs.length ≤ cap) (hx : ∀ x ∈ bs, IsB x) (h1 : BytesIs w b off bs) (h2 : BytesIs w g 0 headBytes) :
    Calls Try.prog 29 #[.slice (some ⟨b, off, none⟩) bs.length cap, .slice (some ⟨g, 0, none⟩) 3 cap'] w fun e w' => e = .returned (.bool (decide (bs.take 3 = headBytes))) ∧ Below w.heap.size w w' := by
  by_cases h3 : bs.length < 3
  · have hne : decide (bs.take 3 = headBytes) = false := by
      rw [decide_eq_false]
      intro h
      have := congrArg List.length h
      simp [headBytes] at this
      omega
    rw [hne]
    generalize bs.length = n at *
    have hn3 : ¬ (3 : Int) ≤ (n : Int) := by omega
    go_enter Try.func29, Try.ntmps29
    go_wp2_with fail
    go_ret
    exact ⟨rfl, Below.refl _ _⟩
  · have HE := hid (equal_calls b off cap g 0 cap' (bs.take 3) headBytes w (fun x hx' => hx x (List.mem_of_mem_take hx')) head_isB (h1.take 3) h2)
    rw [show (bs.take 3).length = 3 by simp; omega, show headBytes.length = 3 from rfl] at HE
    generalize decide (bs.take 3 = headBytes) = R at *
    generalize bs.length = n at *
    have hn3 : (3 : Int) ≤ (n : Int) := by omega
    have hc3 : (3 : Int) ≤ (cap : Int) := by omega
    go_enter Try.func29, Try.ntmps29
    go_wp2_with fail
    refine HE.out.mono ?_
    rintro e w1 ⟨rfl, hb1⟩
    go_wp2_with fail
    go_ret
    exact ⟨rfl, hb1⟩

/-- bytes.CutPrefix at the head of code, where it is there: the rest (which begins where it may where nothing is left). -/
theorem cutHead_yes (b off cap g cap' : Nat) (bs : List Int) (w : World) (hcap : bs.length ≤ cap) (hx : ∀ x ∈ bs, IsB x) (h1 : BytesIs w b off bs) (h2 : BytesIs w g 0 headBytes) (hh : bs.take 3 = headBytes) :
    Calls Try.prog 20 #[.slice (some ⟨b, off, none⟩) bs.length cap, .slice (some ⟨g, 0, none⟩) 3 cap'] w fun e w' =>
      (∃ o, e = .returned (.tuple #[.slice (some ⟨b, o, none⟩) (bs.length - 3) (cap - 3), .bool true]) ∧ (bs.length = 3 ∨ o = off + 3)) ∧ Below w.heap.size w w' := by
  have HE := hid (hasHead_cap b off cap g cap' bs w hcap hx h1 h2)
  rw [decide_eq_true hh] at HE
  have h3 : 3 ≤ bs.length := by
    have := congrArg List.length hh
    simp [headBytes] at this
    omega
  clear hh
  generalize bs.length = n at *
  have hn3 : (3 : Int) ≤ (n : Int) := by omega
  have hc3 : (n : Int) ≤ (cap : Int) := by omega
  by_cases h33 : cap = 3
  · subst h33
    obtain rfl : n = 3 := by omega
    go_enter Try.func20, Try.ntmps20
    go_wp2_with fail
    refine HE.out.mono ?_
    rintro e w1 ⟨rfl, hb1⟩
    go_wp2_with fail
    go_ret2
    exact ⟨⟨_, rfl, Or.inl (by simp)⟩, hb1⟩
  · have hn4 : cap - 3 ≠ 0 := by omega
    go_enter Try.func20, Try.ntmps20
    go_wp2_with fail
    refine HE.out.mono ?_
    rintro e w1 ⟨rfl, hb1⟩
    go_wp2_with fail
    go_ret2
    exact ⟨⟨_, rfl, Or.inr rfl⟩, hb1⟩

theorem cutHead_no (b off cap g cap' : Nat) (bs : List Int) (w : World) (hcap : bs.length ≤ cap) (hx : ∀ x ∈ bs, IsB x) (h1 : BytesIs w b off bs) (h2 : BytesIs w g 0 headBytes) (hh : bs.take 3 ≠ headBytes) :
    Calls Try.prog 20 #[.slice (some ⟨b, off, none⟩) bs.length cap, .slice (some ⟨g, 0, none⟩) 3 cap'] w fun e w' => e = .returned (.tuple #[.slice (some ⟨b, off, none⟩) bs.length cap, .bool false]) ∧ Below w.heap.size w w' := by
  have HE := hid (hasHead_cap b off cap g cap' bs w hcap hx h1 h2)
  rw [decide_eq_false hh] at HE
  clear hh
  generalize bs.length = n at *
  go_enter Try.func20, Try.ntmps20
  go_wp2_with fail
  refine HE.out.mono ?_
  rintro e w1 ⟨rfl, hb1⟩
  go_wp2_with fail
  go_ret2
  exact ⟨rfl, hb1⟩
end Go.Proofs.Ytnbmhopoiijhoaa

/- Whether all of a list are instructions: the program's test. -/
namespace Go.Proofs.Ytnbmhopoiijhoaa
open Go.RowKit

set_option maxRecDepth 100000 in
theorem bad_calls (op a b c : Int) (w : World) :
    Calls Try.prog 26 #[.agg #[.int .i64 op, .int .i64 a, .int .i64 b, .int .i64 c]] w fun e w' => e = .returned (.bool (!insOkZ op a b c)) ∧ Below w.heap.size w w' := by
  go_enter Try.func26, Try.ntmps26
  go_wp2_with fail
  refine (implInsOk_calls _ _ _ _ _).mono ?_
  rintro e w2 ⟨rfl, hb2⟩
  go_wp2_with fail
  go_ret
  exact ⟨rfl, one_below hb2⟩

set_option maxHeartbeats 1000000 in
set_option maxRecDepth 100000 in
theorem indexBad_calls (b off cap : Nat) (cs : List In) (w : World) (hb : b < w.heap.size) (hn : InsAt w b off cs) (hm : cs.length ≤ 1500) :
    Calls Try.prog 40 #[.slice (some ⟨b, off, none⟩) cs.length cap, .func (.func 26) #[] #[]] w fun e w' => (∃ r : Int, e = .returned (.int .i64 r) ∧ decide (0 ≤ r) = !cs.all In.ok) ∧ Below w.heap.size w w' := by
  obtain ⟨len, hlen⟩ : ∃ len, cs.length = len := ⟨_, rfl⟩
  have Hlen : Hid (cs.length = len) := hlen
  have HM : Hid (len ≤ 1500) := by show _ ≤ _; omega
  have HN : Hid (InsAt w b off cs) := hn
  obtain ⟨R, hR⟩ : ∃ R, cs.all In.ok = R := ⟨_, rfl⟩
  have HR : Hid (cs.all In.ok = R) := hR
  rw [hlen, hR]
  clear hlen hm hn hR
  go_enter Try.func40, Try.ntmps40
  go_wp2_with fail
  go_loopw [8] (fun i wr => ∃ k : Nat, i = .int .i64 k ∧ k ≤ len ∧ Hid ((cs.take k).all In.ok = true) ∧ Below w.heap.size w wr) (fun i _ => len - (intOf i).toNat)
  case atStart => exact ⟨0, rfl, Nat.zero_le _, by simp [Hid], Below.refl _ _⟩
  case round =>
    obtain ⟨k, rfl, hk, HA, hnx⟩ := hrel
    by_cases hkl : (k : Int) < (len : Int)
    · have hkn : k < cs.length := by rw [Hlen.out]; omega
      have hcell := fun c (hc : c < 4) => (hnx.cell (p := ⟨b, off + k * 4 + c, none⟩) hb).trans (HN.out k hkn c hc)
      have HD : Hid (cs.take (k + 1) = cs.take k ++ [cs.getD k default]) := ins_drop hkn
      generalize cs.getD k default = n at hcell HD
      obtain ⟨op, x, y, z⟩ := n
      have c0 := hcell 0 (by omega)
      have c1 := hcell 1 (by omega)
      have c2 := hcell 2 (by omega)
      have c3 := hcell 3 (by omega)
      simp only [In.cell, Nat.add_zero] at c0 c1 c2 c3
      clear hcell hkn
      go_wp2_with fail
      refine (bad_calls _ _ _ _ _).mono ?_
      rintro e w2 ⟨rfl, hb2⟩
      have hnx2 := hnx.trans (hb2.mono hnx.size)
      clear hb2 hnx c0 c1 c2 c3
      cases hok : insOkZ op x y z with
      | false =>
        have HF : Hid (R = false) := by
          show _ = _
          rw [← HR.out]
          have h1 : (cs.take (k + 1)).all In.ok = false := by
            rw [HD.out, List.all_append]
            simp [In.ok, hok]
          rw [← List.take_append_drop (k + 1) cs, List.all_append, h1, Bool.false_and]
        clear HA HD HR
        go_wp2_with fail
        go_ret
        exact ⟨⟨_, rfl, by rw [HF.out]; exact decide_eq_true (by omega)⟩, hnx2⟩
      | true =>
        have HA1 : Hid ((cs.take (k + 1)).all In.ok = true) := by
          show _ = _
          rw [HD.out, List.all_append, HA.out]
          simp [In.ok, hok]
        clear HA HD
        go_wp2_with fail
        have hs : len - (intOf (.int .i64 ((k + 1 : Nat) : Int))).toNat < len - (intOf (.int .i64 (k : Int))).toNat := by simp only [intOf, Int.toNat_natCast]; omega
        try rw [wrap_one (k := k) (len := len) (by omega) (by have := HM.out; omega)]
        exact ⟨⟨k + 1, rfl, by omega, HA1, hnx2⟩, hs⟩
    · have HF : Hid (R = true) := by
        show _ = _
        rw [← HR.out, ← List.take_of_length_le (l := cs) (i := k) (by rw [Hlen.out]; omega)]
        exact HA.out
      clear HA HR
      go_wp2_with fail
      go_ret
      exact ⟨⟨-1, rfl, by rw [HF.out]; rfl⟩, hnx⟩

set_option maxHeartbeats 1000000 in
set_option maxRecDepth 100000 in
theorem listOk_calls (b off cap : Nat) (cs : List In) (w : World) (hb : b < w.heap.size) (hn : InsAt w b off cs) :
    Calls Try.prog 14 #[.slice (some ⟨b, off, none⟩) cs.length cap] w fun e w' => e = .returned (.bool (codeOkZ cs)) ∧ Below w.heap.size w w' := by
  by_cases hbig : (cs.length : Int) ≤ 1500
  · rw [show codeOkZ cs = cs.all In.ok by unfold codeOkZ; rw [decide_eq_true (by omega), Bool.true_and]]
    have HX : Hid (Calls _ _ _ _ _) := indexBad_calls b off cap cs w hb hn (by omega)
    generalize cs.length = len at *
    generalize cs.all In.ok = R at *
    clear hn
    have HY : Hid (Calls Try.prog 25 #[.slice (some ⟨b, off, none⟩) len cap, .func (.func 26) #[] #[]] w fun e w' => e = .returned (.bool (!R)) ∧ Below w.heap.size w w') := by
      show Calls _ _ _ _ _
      go_enter Try.func25, Try.ntmps25
      go_wp2_with fail
      refine HX.out.mono ?_
      rintro e w2 ⟨⟨r, rfl, hr⟩, hb2⟩
      have Hr : Hid (decide (0 ≤ r) = !R) := hr
      clear hr
      go_wp2_with fail
      go_ret
      exact ⟨by rw [← Hr.out]; rfl, hb2⟩
    clear HX
    go_enter Try.func14, Try.ntmps14
    go_wp2_with fail
    refine HY.out.mono ?_
    rintro e w2 ⟨rfl, hb2⟩
    cases R
    all_goals
      go_wp2_with fail
      go_ret
      exact ⟨rfl, hb2⟩
  · rw [show codeOkZ cs = false by unfold codeOkZ; rw [decide_eq_false (by omega)]; rfl]
    generalize cs.length = len at *
    clear hn
    go_enter Try.func14, Try.ntmps14
    go_wp2_with fail
    go_ret
    exact ⟨rfl, Below.refl _ _⟩
end Go.Proofs.Ytnbmhopoiijhoaa

/- The program reads code from bytes as the plain reading has it. -/
namespace Go.Proofs.Ytnbmhopoiijhoaa
open Go.RowKit

attribute [local go_sem] Oper.semAt_some

theorem results_two {fn : Func} {p q : Tmp} {t u : TypeId} (h : fn.results = #[.cell p t, .cell q u]) (tmps : Array Value) (P : Program) (w : World) {a b : Addr} {x y : Value} (hp : tmps.getD p undef = .pointer (some a)) (hq : tmps.getD q undef = .pointer (some b))
    (ha : (loadVar t a).run P w = .ok x w) (hb : (loadVar u b).run P w = .ok y w) : (results fn tmps).run P w = .ok (.tuple #[x, y]) w := by
  rw [Array.getD_eq_getD_getElem?] at hp hq
  simp only [results, h]
  simp [Sem.run_bind, Result.andThen, hp, hq, asAddr, ha, hb]

theorem load_ins {X : World} {g : Nat} {v : Value} (h : X.heap[g]? = some (.cells #[v] 23)) : (loadVar 23 ⟨g, 0, none⟩).run Try.prog X = .ok v X := by
  have c := cell_of_heap h 0
  simp at c
  simp [loadVar, go_sem, c]

theorem load_ok {X : World} {g : Nat} {v : Value} (h : X.heap[g]? = some (.cells #[v] 4)) : (loadVar 4 ⟨g, 0, none⟩).run Try.prog X = .ok v X := by
  have c := cell_of_heap h 0
  simp at c
  simp [loadVar, go_sem, c]

/-- The three blocks that are made first. -/
theorem three_new (w : World) (o1 o2 o3 : Obj) : ∃ W3, ((w.alloc o1).alloc o2).alloc o3 = W3 ∧ W3.heap[w.heap.size]? = some o1 ∧ W3.heap[w.heap.size + 1]? = some o2 ∧ W3.heap[w.heap.size + 1 + 1]? = some o3 ∧ Below w.heap.size w W3 := by
  refine ⟨_, rfl, ?_, ?_, ?_, (((Below.refl _ w).alloc (Nat.le_refl _) _).alloc (by simp) _).alloc (by simp; omega) _⟩
  · rw [Below.heap_alloc _ _ _ (by simp; omega), Below.heap_alloc _ _ _ (by simp)]
    exact (MapKept.heap_alloc w o1).1
  · rw [Below.heap_alloc _ _ _ (by simp)]
    have e := (MapKept.heap_alloc (w.alloc o1) o2).1
    rwa [World.size_alloc] at e
  · have e := (MapKept.heap_alloc ((w.alloc o1).alloc o2) o3).1
    rwa [World.size_alloc, World.size_alloc] at e

theorem set_two {w X : World} {t u : TypeId} {x y : Value} (h2 : X.heap[w.heap.size]? = some (.cells #[x] t)) (h3 : X.heap[w.heap.size + 1]? = some (.cells #[y] u)) (hb : Below w.heap.size w X) (a b : Value) :
    ((X.setCell ⟨w.heap.size, 0, none⟩ a).setCell ⟨w.heap.size + 1, 0, none⟩ b).heap[w.heap.size]? = some (.cells #[a] t) ∧ ((X.setCell ⟨w.heap.size, 0, none⟩ a).setCell ⟨w.heap.size + 1, 0, none⟩ b).heap[w.heap.size + 1]? = some (.cells #[b] u) ∧ Below w.heap.size w ((X.setCell ⟨w.heap.size, 0, none⟩ a).setCell ⟨w.heap.size + 1, 0, none⟩ b) := by
  refine ⟨?_, ?_, (hb.setCell (p := ⟨w.heap.size, 0, none⟩) (Nat.le_refl _) _).setCell (p := ⟨w.heap.size + 1, 0, none⟩) (Nat.le_succ _) _⟩
  · rw [Below.heap_setCell _ _ _ _ (by dsimp only; omega)]
    exact box1_set h2 a
  · exact box1_set ((Below.heap_setCell X ⟨w.heap.size, 0, none⟩ a _ (by dsimp only; omega)).trans h3) b

theorem below_put {w X : World} (h : Below w.heap.size w X) {l : Nat} (hl : w.heap.size ≤ l) (o : Obj) : Below w.heap.size w (X.putObj l o) :=
  ⟨h.os, h.tape, h.output, by simpa using h.size, fun q hq => (World.putObj_heap_other (by omega)).trans (h.block q hq)⟩

/-- What is told where nothing is read. -/
theorem none_told {w X : World} {tmps : Array Value} {d : Nat} (hp : tmps.getD 2 undef = .pointer (some ⟨w.heap.size, 0, none⟩)) (hq : tmps.getD 3 undef = .pointer (some ⟨w.heap.size + 1, 0, none⟩))
    (h2 : X.heap[w.heap.size]? = some (.cells #[.slice none 0 0] 23)) (h3 : X.heap[w.heap.size + 1]? = some (.cells #[.bool false] 4)) (hb : Below w.heap.size w X) :
    LeavesInM Fence.wide d Try.prog Try.f7 tmps (fun e w' => (∃ v, e = .returned (.tuple #[v, .bool false]) ∧ OwnsI w.heap.size w' v []) ∧ Below w.heap.size w w') [] .returning X :=
  ⟨_, results_two rfl tmps _ _ hp hq (load_ins h2) (load_ok h3), ⟨_, rfl, World.ownsRow_nil _ _ _ _⟩, hb⟩

theorem tells_len : ∀ (n : Nat) (l : List Int), l.length ≤ n → (tells l).length ≤ l.length
  | _, [], _ => Nat.le_refl _
  | 0, _ :: _, h => by simp at h
  | n + 1, op :: r, h => by
    simp only [List.length_cons] at h
    rw [tells_cons]
    split
    · have h1 := tells_len n (r.drop (4 * insMany op)) (by simp; omega)
      rw [List.length_drop] at h1
      simp only [List.length_cons]
      omega
    · simp

theorem owns_slice {B : Nat} {X : World} {v : Value} {cs : List In} (h : OwnsI B X v cs) : (∀ g, v.ownBlock = some g → B ≤ g ∧ g < X.heap.size) ∧ ∃ ad c, v = .slice ad cs.length c := by
  obtain ⟨-, ⟨rfl, h0⟩ | ⟨g, cap, cur, rfl, hB, hc, -⟩⟩ := h
  · exact ⟨fun g e => by simp [Value.ownBlock] at e, none, 0, by rw [h0]⟩
  · refine ⟨fun g' e => ?_, _, cap, rfl⟩
    simp [Value.ownBlock] at e
    subst e
    exact ⟨hB, heap_lt hc⟩

set_option maxRecDepth 100000 in
theorem indexNone_calls (ad : Option Addr) (cap : Nat) (w : World) :
    Calls Try.prog 40 #[.slice ad 0 cap, .func (.func 26) #[] #[]] w fun e w' => e = .returned (.int .i64 (-1)) ∧ w = w' := by
  go_enter Try.func40, Try.ntmps40
  go_wp2
  refine wp_loop_rounds 1 ?_
  rw [rounds_succ]
  go_wp2
  go_ret
  exact ⟨rfl, rfl⟩

set_option maxRecDepth 100000 in
theorem listNone_calls (ad : Option Addr) (cap : Nat) (w : World) :
    Calls Try.prog 14 #[.slice ad 0 cap] w fun e w' => e = .returned (.bool true) ∧ Below w.heap.size w w' := by
  have HY : Hid (∀ X, Calls Try.prog 25 #[.slice ad 0 cap, .func (.func 26) #[] #[]] X fun e w' => e = .returned (.bool false) ∧ X = w') := by
    show ∀ X, _
    intro X
    go_enter Try.func25, Try.ntmps25
    go_wp2_with fail
    refine (indexNone_calls ad cap _).mono ?_
    rintro e w2 ⟨rfl, rfl⟩
    go_wp2_with fail
    go_ret
    exact ⟨rfl, rfl⟩
  go_enter Try.func14, Try.ntmps14
  go_wp2_with fail
  refine (HY.out _).mono ?_
  rintro e w2 ⟨rfl, rfl⟩
  go_wp2_with fail
  go_ret
  exact ⟨rfl, Below.refl _ _⟩

theorem insListOk_any {B : Nat} (X : World) {v : Value} {cs : List In} (h : OwnsI B X v cs) : Calls Try.prog 14 #[v] X fun e w' => e = .returned (.bool (codeOkZ cs)) ∧ Below X.heap.size X w' := by
  have hs := sliceR_of_owns h
  obtain ⟨ad, cap, rfl, hh⟩ := hs
  by_cases h0 : cs.length = 0
  · have hc : cs = [] := List.length_eq_zero_iff.1 h0
    subst hc
    exact listNone_calls ad cap X
  · obtain ⟨g, rfl, -, hr⟩ := hh.resolve_left h0
    exact listOk_calls g 0 cap cs X hr.lt (CellRow.insAt (hr.congr (fun i hi => insRow_at cs i hi)))

/-- What the rounds keep: the result's cells, the list that grows. -/
structure Rd (w : World) (C : Nat) (pre : List (In × Bool)) (X : World) : Prop where
  r2 : X.heap[w.heap.size]? = some (.cells #[.slice none 0 0] 23)
  r3 : X.heap[w.heap.size + 1]? = some (.cells #[.bool false] 4)
  cb : ∃ vc, X.heap[C]? = some (.cells #[vc] 23) ∧ OwnsI (C + 4) X vc (pre.map Prod.fst)
  all : ∀ x ∈ pre, x.2 = true
  below : Below w.heap.size w X
  len : C + 4 ≤ X.heap.size
  first : w.heap.size + 1 < C

theorem owns_same {B : Nat} {X Y : World} {v : Value} {cs : List In} (h : OwnsI B X v cs) (he : ∀ q, B ≤ q → q < X.heap.size → Y.heap[q]? = X.heap[q]?) : OwnsI B Y v cs := by
  obtain ⟨h0, ⟨rfl, h1⟩ | ⟨g, cap, cur, rfl, hB, hc, hr⟩⟩ := h
  · exact ⟨h0, Or.inl ⟨rfl, h1⟩⟩
  · exact ⟨h0, Or.inr ⟨g, cap, cur, rfl, hB, (he g hB (heap_lt hc)).trans hc, hr⟩⟩

theorem owns_low {B B' : Nat} {X : World} {v : Value} {cs : List In} (hB : B' ≤ B) (h : OwnsI B X v cs) : OwnsI B' X v cs := by
  obtain ⟨h0, ⟨rfl, h1⟩ | ⟨g, cap, cur, rfl, hg, hc, hr⟩⟩ := h
  · exact ⟨h0, Or.inl ⟨rfl, h1⟩⟩
  · exact ⟨h0, Or.inr ⟨g, cap, cur, rfl, Nat.le_trans hB hg, hc, hr⟩⟩

/-- Blocks beside may be changed. -/
theorem Rd.beside {w : World} {C : Nat} {pre : List (In × Bool)} {X Y : World} (h : Rd w C pre X) (h1 : Y.os = X.os) (h2 : Y.tape = X.tape) (h3 : Y.output = X.output) (hs : X.heap.size ≤ Y.heap.size) (he : ∀ q, q < X.heap.size → q ≤ C ∨ C + 4 ≤ q → Y.heap[q]? = X.heap[q]?) : Rd w C pre Y := by
  have hf := h.first
  have hl := h.len
  obtain ⟨vc, hc, ho⟩ := h.cb
  exact ⟨(he _ (by omega) (Or.inl (by omega))).trans h.r2, (he _ (by omega) (Or.inl (by omega))).trans h.r3, ⟨vc, (he _ (by omega) (Or.inl (Nat.le_refl _))).trans hc, owns_same ho (fun q hq hq' => he q hq' (Or.inr hq))⟩, h.all, ⟨h1.trans h.below.os, h2.trans h.below.tape, h3.trans h.below.output, Nat.le_trans h.below.size hs, fun q hq => (he q (by omega) (Or.inl (by omega))).trans (h.below.block q hq)⟩, by omega, hf⟩

theorem Rd.keep {w : World} {C : Nat} {pre : List (In × Bool)} {X Y : World} (h : Rd w C pre X) (hb : Below X.heap.size X Y) : Rd w C pre Y := h.beside hb.os hb.tape hb.output hb.size (fun q hq _ => hb.block q hq)

theorem Rd.set {w : World} {C : Nat} {pre : List (In × Bool)} {X : World} (h : Rd w C pre X) (v : Value) : Rd w C pre (X.setCell ⟨C + 1, 0, none⟩ v) := h.beside rfl rfl rfl (by simp [World.setCell]) (fun q _ hq => Below.heap_setCell X ⟨C + 1, 0, none⟩ v q (by dsimp only; omega))

theorem Rd.put {w : World} {C : Nat} {pre : List (In × Bool)} {X : World} (h : Rd w C pre X) {l : Nat} (h1 : C < l) (h2 : l < C + 4) (o : Obj) : Rd w C pre (X.putObj l o) := h.beside rfl rfl rfl (by simp) (fun q _ hq => World.putObj_heap_other (by omega))

/-- A round has found an instruction that is not there to its end. -/
structure RdX (w : World) (C : Nat) (pre : List (In × Bool)) (X : World) : Prop where
  r2 : X.heap[w.heap.size]? = some (.cells #[.slice none 0 0] 23)
  r3 : X.heap[w.heap.size + 1]? = some (.cells #[.bool false] 4)
  one : ∃ x ∈ pre, x.2 = false
  below : Below w.heap.size w X
  len : C + 4 ≤ X.heap.size
  first : w.heap.size + 1 < C

theorem RdX.put {w : World} {C : Nat} {pre : List (In × Bool)} {X : World} (h : RdX w C pre X) {l : Nat} (h1 : C < l) (o : Obj) : RdX w C pre (X.putObj l o) := by
  have hf := h.first
  have hl := h.len
  exact ⟨(World.putObj_heap_other (by omega)).trans h.r2, (World.putObj_heap_other (by omega)).trans h.r3, h.one, ⟨h.below.os, h.below.tape, h.below.output, by simpa using h.below.size, fun q hq => (World.putObj_heap_other (by omega)).trans (h.below.block q hq)⟩, by simpa using hl, hf⟩

/-- The program's iterator. -/
theorem insOfBytes_calls (a : Option Addr) (n c : Nat) (w : World) : Calls Try.prog 21 #[.slice a n c] w fun e w' => e = .returned (.func (.func 30) #[] #[.pointer (some ⟨w.heap.size, 0, none⟩)]) ∧ w' = w.alloc (.cells #[.slice a n c] 22) := by
  go_enter Try.func21, Try.ntmps21
  go_wp2_with fail
  go_ret
  exact ⟨rfl, rfl⟩

set_option maxRecDepth 100000 in
set_option maxHeartbeats 2000000 in
theorem implRead_cap (b off cap : Nat) (bs : List Int) (w : World) (hcap : bs.length ≤ cap) (hb : b < w.heap.size) (hn : BytesIs w b off bs) (hB : ∀ x ∈ bs, IsB x) :
    Calls Try.prog 7 #[.slice (some ⟨b, off, none⟩) bs.length cap] w fun e w' => (∃ v, e = .returned (.tuple #[v, .bool (readZ bs).isSome]) ∧ OwnsI w.heap.size w' v ((readZ bs).getD [])) ∧ Below w.heap.size w w' := by
  have HN := hid hn
  have HB := hid hB
  have HCp := hid hcap
  obtain ⟨Z, hZ⟩ : ∃ Z, readZ bs = Z := ⟨_, rfl⟩
  have HZ := hid hZ
  rw [hZ]
  clear hn hB hZ hcap
  refine (callsIn_wide (n := 0)).1 ?_
  refine callsIn_of_wp_marks Try.func7 rfl trivial ?_ rfl
  simp only [Try.ntmps7, List.size_toArray, List.length_cons, List.length_nil, Nat.reduceAdd, Nat.reduceSub, Array.replicate_succ, Array.replicate_zero, List.push_toArray, List.append_toArray, List.nil_append, List.cons_append]
  have hcv := Joins.run_convert_bytes_const_at (P := Try.prog) ((w.alloc (.cells #[.slice none 0 0] 23)).alloc (.cells #[.bool false] 4)) 22 5 #[.int .u8 104, .int .u8 114, .int .u8 49] 3 3 (w.heap.size + 1 + 1) (by simp) Try.underlying22 Try.underlying5
  gi_wp2_with fail
  obtain ⟨W3, hW3, k2, k3, k4, hb3⟩ := three_new w (.cells #[.slice none 0 0] 23) (.cells #[.bool false] 4) (.cells #[.int .u8 104, .int .u8 114, .int .u8 49] 5 (3, 4))
  rw [hW3]
  clear hW3 hcv
  have hhd : BytesIs W3 (w.heap.size + 1 + 1) 0 headBytes := by
    intro k hk
    unfold headBytes at hk ⊢
    simp at hk
    have h3 : k = 0 ∨ k = 1 ∨ k = 2 := by omega
    rcases h3 with rfl | rfl | rfl <;> simp [World.cell?, k4, List.getD]
  have HHd := hid hhd
  have HN3 := hid (HN.out.below hb3 hb)
  clear hhd k4
  by_cases hh : bs.take 3 = headBytes
  case neg =>
    refine ⟨trivial, rfl, (callsIn_wide.2 (cutHead_no b off cap (w.heap.size + 1 + 1) 3 bs W3 HCp.out HB.out HN3.out HHd.out hh)).mono ?_⟩
    rintro e W4 ⟨rfl, hb4⟩
    have j2 := (hb4.block _ (heap_lt k2)).trans k2
    have j3 := (hb4.block _ (heap_lt k3)).trans k3
    have hbw := hb3.trans (hb4.mono hb3.size)
    have hZn : Z = none := by
      rw [← HZ.out]
      unfold readZ
      rw [if_pos (Or.inr hh)]
    subst hZn
    clear k2 k3 hb3 hb4 hh
    have c2 := cell_of_heap j2 0
    have c3 := cell_of_heap j3 0
    have z2 := frozen_of_heap j2 0
    have z3 := frozen_of_heap j3 0
    simp at c2 c3
    have HJ2 := hid j2
    have HJ3 := hid j3
    have HBw := hid hbw
    clear j2 j3 hbw
    gi_wp2_with fail
    obtain ⟨s2, s3, sb⟩ := set_two HJ2.out HJ3.out HBw.out (.slice none 0 0) (.bool false)
    exact none_told rfl rfl s2 s3 sb
  refine ⟨trivial, rfl, (callsIn_wide.2 (cutHead_yes b off cap (w.heap.size + 1 + 1) 3 bs W3 HCp.out HB.out HN3.out HHd.out hh)).mono ?_⟩
  rintro e W4 ⟨⟨o, rfl, ho⟩, hb4⟩
  have HO := hid ho
  have j2 := (hb4.block _ (heap_lt k2)).trans k2
  have j3 := (hb4.block _ (heap_lt k3)).trans k3
  have hbw := hb3.trans (hb4.mono hb3.size)
  have HN4 := hid (HN.out.below hbw hb)
  have HH := hid hh
  clear k2 k3 hb3 hb4 hh ho HHd HN3
  by_cases hbig : (20000 : Int) < (bs.length : Int)
  · have hZn : Z = none := by
      rw [← HZ.out]
      unfold readZ
      rw [if_pos (Or.inl (by omega))]
    subst hZn
    have c2 := cell_of_heap j2 0
    have c3 := cell_of_heap j3 0
    have z2 := frozen_of_heap j2 0
    have z3 := frozen_of_heap j3 0
    simp at c2 c3
    have HJ2 := hid j2
    have HJ3 := hid j3
    have HBw := hid hbw
    clear j2 j3 hbw
    gi_wp2_with fail
    obtain ⟨s2, s3, sb⟩ := set_two HJ2.out HJ3.out HBw.out (.slice none 0 0) (.bool false)
    exact none_told rfl rfl s2 s3 sb
  have HLn : Hid (bs.length ≤ 20000) := by show _ ≤ _; omega
  have HJ2 := hid j2
  have HJ3 := hid j3
  have HBw := hid hbw
  clear j2 j3 hbw
  generalize hln : bs.length - 3 = ln at *
  have HLe := hid hln
  clear hln
  generalize hcn : cap - 3 = cn at *
  have HCe := hid hcn
  clear hcn
  gi_wp2_with fail
  refine ⟨trivial, rfl, (callsIn_wide.2 (insOfBytes_calls _ _ _ _)).mono ?_⟩
  rintro e W6 ⟨rfl, hW6⟩
  have hC6 := (MapKept.heap_alloc W4 (.cells #[.slice none 0 0] 23)).1
  have hB6 := (MapKept.heap_alloc (W4.alloc (.cells #[.slice none 0 0] 23)) (.cells #[.slice (some ⟨b, o, none⟩) ln cn] 22)).1
  rw [World.size_alloc] at hB6
  have hC6' := (Below.heap_alloc (W4.alloc (.cells #[.slice none 0 0] 23)) (.cells #[.slice (some ⟨b, o, none⟩) ln cn] 22) W4.heap.size (by simp)).trans hC6
  have hb46 : Below W4.heap.size W4 W6 := by rw [hW6]; exact ((Below.refl _ W4).alloc (Nat.le_refl _) _).alloc (by simp) _
  have hs6 : W6.heap.size = W4.heap.size + 2 := by rw [hW6]; simp
  rw [← hW6] at hB6 hC6'
  rw [World.size_alloc]
  clear hC6 hW6
  gi_wp2_with fail
  obtain ⟨rest, hrest⟩ : ∃ rest, bs.drop 3 = rest := ⟨_, rfl⟩
  have HRs := hid hrest
  have hrl : rest.length = ln := by rw [← hrest, List.length_drop]; exact HLe.out
  have HRB : Hid (∀ x ∈ rest, IsB x) := fun x hx => HB.out x (by rw [← hrest] at hx; exact List.mem_of_mem_drop hx)
  have hbC : b < W4.heap.size := by have := HBw.out.size; omega
  have HBt : Hid (BytesIs W6 b o rest) := by
    intro k hk
    have h3 := HO.out.resolve_left (by have := HLe.out; omega)
    have e := (HN4.out.below hb46 hbC) (k + 3) (by have := HLe.out; omega)
    rw [h3, show off + 3 + k = off + (k + 3) by omega, e, ← hrest]
    simp [List.getD, Nat.add_comm]
  have hr2 := (hb46.block _ (heap_lt HJ2.out)).trans HJ2.out
  have hr3 := (hb46.block _ (heap_lt HJ3.out)).trans HJ3.out
  have hf1 : w.heap.size + 1 < W4.heap.size := heap_lt HJ3.out
  have hbw6 := HBw.out.trans (hb46.mono HBw.out.size)
  clear HJ2 HJ3 HBw hb46 HN4 HO
  generalize W4.heap.size = C at *
  have HF1 := hid hf1
  refine range_in (C := C) (b := b) (o := o) (rest := rest) rfl rfl hs6 (by rw [hrl]; exact hB6) (by have := HCp.out; have := HLe.out; have := HCe.out; omega) hbC HBt.out HRB.out (by have := HLn.out; have := HLe.out; omega) (Rd w C) (RdX w C) ?h0 (fun s A B h _ hb => h.keep hb) (fun s A v h => h.set v) (fun s A l o h h1 h2 => h.put h1 h2 o) (fun s A l o h h1 _ => h.put h1 o) ?hround ?hdone ?hstop
  case h0 =>
    intro o1 o2
    have hbb : Below W6.heap.size W6 ((W6.alloc o1).alloc o2) := ((Below.refl _ W6).alloc (Nat.le_refl _) _).alloc (by simp) _
    exact ⟨(hbb.block _ (by omega)).trans hr2, (hbb.block _ (by omega)).trans hr3, ⟨_, (hbb.block _ (by omega)).trans hC6', World.ownsRow_nil _ _ _ _⟩, (fun x hx => by cases hx), hbw6.trans (hbb.mono hbw6.size), by simp; omega, HF1.out⟩
  case hround =>
    rintro l pre ⟨⟨i1, i2, i3, i4⟩, ok⟩ X hR hX hpost
    unfold inV
    dsimp only
    have HR := hid hR
    have HP := hid hpost
    clear hr2 hr3 hC6' hB6 hbw6 hR hpost
    gi_wp2_with fail
    have hbx := (Below.refl X.heap.size X).alloc (Nat.le_refl _) (.cells #[.int .i64 i1, .int .i64 i2, .int .i64 i3, .int .i64 i4] 37)
    refine ⟨Left.of_below hbx (by omega) hbC, fun r => ?_⟩
    have hA := (MapKept.heap_alloc X (.cells #[.int .i64 i1, .int .i64 i2, .int .i64 i3, .int .i64 i4] 37)).1
    have hsA : (X.alloc (.cells #[.int .i64 i1, .int .i64 i2, .int .i64 i3, .int .i64 i4] 37)).heap.size = X.heap.size + 1 := by simp
    obtain ⟨Y, hY, HRY, hbxY, hsY⟩ : ∃ Y, (X.alloc (.cells #[.int .i64 i1, .int .i64 i2, .int .i64 i3, .int .i64 i4] 37)).putObj (C + 3) r = Y ∧ Hid (Rd w C pre Y) ∧ Y.heap[X.heap.size]? = some (.cells #[.int .i64 i1, .int .i64 i2, .int .i64 i3, .int .i64 i4] 37) ∧ Y.heap.size = X.heap.size + 1 := ⟨_, rfl, (HR.out.keep hbx).put (by omega) (by omega) r, (World.putObj_heap_other (by omega)).trans hA, by simp⟩
    rw [hY]
    clear hY hA hsA hbx HR
    generalize X.heap.size = B7 at *
    have c0 := cell_of_heap hbxY 0
    have c1 := cell_of_heap hbxY 1
    have c2 := cell_of_heap hbxY 2
    have c3 := cell_of_heap hbxY 3
    simp at c0 c1 c2 c3
    clear hbxY
    have hf1 := HF1.out
    cases ok with
    | false =>
      have d2 := cell_of_heap HRY.out.r2 0
      have d3 := cell_of_heap HRY.out.r3 0
      have z2 := frozen_of_heap HRY.out.r2 0
      have z3 := frozen_of_heap HRY.out.r3 0
      simp at d2 d3
      gi_wp2_with fail
      obtain ⟨s2, s3, sb⟩ := set_two HRY.out.r2 HRY.out.r3 HRY.out.below (.slice none 0 0) (.bool false)
      refine ⟨(Left.set Y (p := ⟨w.heap.size, 0, none⟩) (by dsimp only; omega) (by dsimp only; omega) (by dsimp only; omega) (by dsimp only; omega) _).trans (Left.set _ (p := ⟨w.heap.size + 1, 0, none⟩) (by dsimp only; omega) (by dsimp only; omega) (by dsimp only; omega) (by dsimp only; omega) _), ⟨s2, s3, ⟨_, List.mem_append_right _ List.mem_cons_self, rfl⟩, sb, by simp [World.setCell]; omega, hf1⟩⟩
    | true =>
      obtain ⟨vc, hvc, how⟩ := HRY.out.cb
      have e2 := cell_of_heap hvc 0
      have z2 := frozen_of_heap hvc 0
      simp at e2
      have HVc := hid hvc
      have HOw := hid how
      obtain ⟨i0, hi, hz0, hz1, hz2⟩ := info_parts info_ins
      have HPl : Hid (pre.length ≤ 20000) := by
        obtain ⟨post, hp⟩ := HP.out
        have h1 := tells_len rest.length rest (Nat.le_refl _)
        have h2 := congrArg List.length hp
        rw [List.length_append, List.length_cons] at h2
        show _ ≤ _
        have := HLn.out
        have := HLe.out
        omega
      have hov := (owns_slice how).2
      obtain ⟨ad, cc, rfl⟩ := hov
      have HOw2 : Hid (Y.ownsRow (C + 4) 37 4 (.slice ad pre.length cc) pre.length (insRow (pre.map Prod.fst))) := by
        have h1 := how
        unfold OwnsI at h1
        rw [List.length_map] at h1
        exact h1
      rw [List.length_map] at e2
      have hdw := (owns_slice how).1
      have HDw := hid hdw
      clear hvc how hdw HOw
      gi_wp2_with (first
        | (gi_at_builtin; refine wpListIn_append_own _ rfl _ _ 23 rfl (C + 4) 37 i0 (.agg #[.int .i64 0, .int .i64 0, .int .i64 0, .int .i64 0]) 4 32 Try.underlying23 hi hz0 hz1 hz2 rfl (by decide) _ _ _ rfl (World.ownsRow.alloc HOw2.out _) ⟨_, 0, none⟩ 1 1 [.int .i64 i1, .int .i64 i2, .int .i64 i3, .int .i64 i4] rfl rfl (cell_four_new _ _ hsY.symm _ _ _ _ _) (fun u hu => by simp at hu; rcases hu with rfl | rfl | rfl | rfl <;> rfl) (by have := HPl.out; unfold maxLen; omega) (by have := HPl.out; omega) (by simp; omega) ?_
           intro v' w3 hown' hg3 _
           have HO3 := hid hown'
           have hcut : w3.heap[C]? = some (.cells #[.slice ad pre.length cc] 23) := by
             have h1 := HVc.out
             rw [List.length_map] at h1
             refine ((hg3.block C (by simp; omega) (fun e => ?_)).trans (Below.heap_alloc _ _ _ (by omega))).trans h1
             have := (HDw.out C (by rw [List.length_map]; exact e.symm)).1
             omega
           have e4 := cell_of_heap hcut 0
           have z4 := frozen_of_heap hcut 0
           simp at e4
           have HG3 := hid hg3
           have HCt := hid hcut
           clear hown' hg3 hcut
           obtain ⟨ad2, cc2, rfl⟩ : ∃ ad2 cc2, v' = .slice ad2 (pre.length + 1) cc2 := by
             obtain ⟨-, ⟨rfl, h0⟩ | ⟨g, cap, cur, rfl, -⟩⟩ := HO3.out
             · omega
             · exact ⟨_, _, rfl⟩))
      have kq : ∀ q, q < C + 4 → w3.heap[q]? = Y.heap[q]? := fun q hq => (HG3.out.block q (by simp; omega) (fun e => by
        have := (HDw.out q (by rw [List.length_map]; exact e.symm)).1
        omega)).trans (Below.heap_alloc _ _ _ (by omega))
      have hs3 : Y.heap.size ≤ w3.heap.size := by
        have := HG3.out.size
        simp at this
        omega
      have ks : ∀ q, q < C + 4 → q ≠ C → (w3.setCell ⟨C, 0, none⟩ (.slice ad2 (pre.length + 1) cc2)).heap[q]? = Y.heap[q]? := fun q hq hne => (Below.heap_setCell w3 ⟨C, 0, none⟩ _ q hne).trans (kq q hq)
      have hzz : (w3.setCell ⟨C, 0, none⟩ (.slice ad2 (pre.length + 1) cc2)).heap.size = w3.heap.size := by simp [World.setCell]
      have hfirst := HRY.out.first
      refine ⟨⟨ks _ (by omega) (by omega), ks _ (by omega) (by omega), ks _ (by omega) (by omega), ks _ (by omega) (by omega), by omega⟩, ⟨(ks _ (by omega) (by omega)).trans HRY.out.r2, (ks _ (by omega) (by omega)).trans HRY.out.r3, ⟨_, box1_set HCt.out _, ?_⟩, fun x hx => ?_, ⟨?_, ?_, ?_, by have := HRY.out.below.size; omega, fun q hq => (ks q (by omega) (by omega)).trans (HRY.out.below.block q hq)⟩, by omega, hfirst⟩⟩
      · refine owns_same (X := w3) ?_ (fun q hq _ => Below.heap_setCell w3 ⟨C, 0, none⟩ _ q (by dsimp only; omega))
        unfold OwnsI
        rw [List.map_append, List.length_append, List.length_map]
        have e : insRow (pre.map Prod.fst ++ [(⟨i1, i2, i3, i4⟩, true)].map Prod.fst) = insRow (pre.map Prod.fst) ++ [.int .i64 i1, .int .i64 i2, .int .i64 i3, .int .i64 i4] := by
          unfold insRow
          rw [List.flatMap_append]
          rfl
        rw [e]
        exact HO3.out
      · rcases List.mem_append.1 hx with hx | hx
        · exact HRY.out.all x hx
        · rw [List.mem_singleton] at hx
          rw [hx]
      · exact HG3.out.os.trans HRY.out.below.os
      · exact HG3.out.tape.trans HRY.out.below.tape
      · exact HG3.out.output.trans HRY.out.below.output
  case hdone =>
    intro X hR hD hX
    obtain ⟨c, hpc, htl⟩ : ∃ c, parse rest = some c ∧ tells rest = c.map (fun i => (i, true)) := by
      rcases tells_parse rest.length rest (Nat.le_refl _) with h | ⟨-, c, i, h⟩
      · exact h
      · have h1 := hR.all (i, false) (by rw [h]; exact List.mem_append_right _ List.mem_cons_self)
        cases h1
    obtain ⟨vc, hvc, how⟩ := hR.cb
    rw [htl, List.map_map, show (Prod.fst ∘ fun i : In => (i, true)) = id from rfl, List.map_id] at how
    have hZc : Z = if codeOkZ c then some c else none := by
      rw [← HZ.out]
      unfold readZ
      rw [if_neg (by have := HLn.out; have := HH.out; simp only [not_or, Nat.not_lt]; exact ⟨by omega, fun h => h this⟩), hrest, hpc]
    have HZc := hid hZc
    obtain ⟨ad, cc, rfl⟩ := (owns_slice how).2
    have HLo := hid (insListOk_any X how)
    have HR2 := hid hR.r2
    have HR3 := hid hR.r3
    have HRb := hid hR.below
    have HD := hid hD
    have HVc := hid hvc
    have HOw := hid how
    have hf1 := HF1.out
    have e2 := cell_of_heap hvc 0
    have z2 := frozen_of_heap hvc 0
    simp at e2
    clear hR hD hvc how hr2 hr3 hC6' hB6 hbw6 hZc htl
    generalize c.length = cl at *
    gi_wp2_with fail
    refine ⟨trivial, rfl, (callsIn_wide.2 HLo.out).mono ?_⟩
    rintro e X2 ⟨rfl, hb2⟩
    have hD2 := (hb2.block _ (heap_lt HD.out)).trans HD.out
    have h2 := (hb2.block _ (heap_lt HR2.out)).trans HR2.out
    have h3 := (hb2.block _ (heap_lt HR3.out)).trans HR3.out
    have hc2 := (hb2.block _ (heap_lt HVc.out)).trans HVc.out
    have how2 := owns_same HOw.out (fun q _ hq => hb2.block q hq)
    have hbb := HRb.out.trans (hb2.mono HRb.out.size)
    have d2 := cell_of_heap h2 0
    have d3 := cell_of_heap h3 0
    have d4 := cell_of_heap hc2 0
    have z3 := frozen_of_heap h2 0
    have z4 := frozen_of_heap h3 0
    simp at d2 d3 d4
    have H2 := hid h2
    have H3 := hid h3
    have HD2 := hid hD2
    have HO2 := hid how2
    have HB2 := hid hbb
    clear h2 h3 hD2 how2 hbb hc2 hb2 HR2 HR3 HD HVc HOw HRb HLo e2 z2
    cases hok : codeOkZ c with
    | false =>
      have hZn : Z = none := by rw [HZc.out, hok]; rfl
      subst hZn
      gi_wp2_with fail
      obtain ⟨s2, s3, sb⟩ := set_two H2.out H3.out HB2.out (.slice none 0 0) (.bool false)
      refine ⟨by simp, .inl ⟨_, _, rfl, run_takeDeferred (by rw [Below.heap_setCell _ _ _ _ (by dsimp only; omega), Below.heap_setCell _ _ _ _ (by dsimp only; omega)]; exact HD2.out), none_told rfl rfl ((World.putObj_heap_other (by omega)).trans s2) ((World.putObj_heap_other (by omega)).trans s3) ?_⟩⟩
      exact below_put sb (by omega) _
    | true =>
      have hZn : Z = some c := by rw [HZc.out, hok]; rfl
      subst hZn
      gi_wp2_with fail
      obtain ⟨s2, s3, sb⟩ := set_two H2.out H3.out HB2.out (.slice ad cl cc) (.bool true)
      refine ⟨by simp, .inl ⟨_, _, rfl, run_takeDeferred (by rw [Below.heap_setCell _ _ _ _ (by dsimp only; omega), Below.heap_setCell _ _ _ _ (by dsimp only; omega)]; exact HD2.out), ⟨_, results_two rfl _ _ _ rfl rfl (load_ins ((World.putObj_heap_other (by omega)).trans s2)) (load_ok ((World.putObj_heap_other (by omega)).trans s3)), ⟨_, rfl, ?_⟩, below_put sb (by omega) _⟩⟩⟩
      exact owns_low (by omega) (owns_same HO2.out (fun q hq _ => (World.putObj_heap_other (by omega)).trans ((Below.heap_setCell _ _ _ _ (by dsimp only; omega)).trans (Below.heap_setCell _ _ _ _ (by dsimp only; omega)))))
  case hstop =>
    intro pre X hpost hR hD hX
    have hZn : Z = none := by
      rw [← HZ.out]
      apply read_none
      rw [hrest]
      rcases tells_parse rest.length rest (Nat.le_refl _) with ⟨c, -, h⟩ | ⟨h, -⟩
      · obtain ⟨x, hx, hx2⟩ := hR.one
        obtain ⟨post, hp⟩ := hpost
        have h1 : x ∈ tells rest := by rw [hp]; exact List.mem_append_left _ hx
        rw [h] at h1
        obtain ⟨i, -, rfl⟩ := List.mem_map.1 h1
        cases hx2
      · exact h
    subst hZn
    clear hr2 hr3 hC6' hB6 hbw6
    gi_wp2_with fail
    refine ⟨by simp, .inl ⟨_, _, rfl, run_takeDeferred hD, none_told rfl rfl ((World.putObj_heap_other (by omega)).trans hR.r2) ((World.putObj_heap_other (by omega)).trans hR.r3) ?_⟩⟩
    exact below_put hR.below (by omega) _

theorem implRead_rows (b off : Nat) (bs : List Int) (w : World) (hb : b < w.heap.size) (hn : BytesIs w b off bs) (hB : ∀ x ∈ bs, IsB x) :
    Calls Try.prog 7 #[.slice (some ⟨b, off, none⟩) bs.length bs.length] w fun e w' => (∃ v, e = .returned (.tuple #[v, .bool (readZ bs).isSome]) ∧ OwnsI w.heap.size w' v ((readZ bs).getD [])) ∧ Below w.heap.size w w' :=
  implRead_cap b off _ bs w (Nat.le_refl _) hb hn hB
end Go.Proofs.Ytnbmhopoiijhoaa

/- The numbers that an instruction has, as the program lists them. -/
namespace Go.Proofs.Ytnbmhopoiijhoaa
open Go.RowKit

theorem numsZ_range (op : Int) : ∃ m : Nat, numsZ op = (m : Int) ∧ m ≤ 3 := by
  have h0 : 0 ≤ numsZ op ∧ numsZ op ≤ 3 := by
    unfold numsZ
    repeat' split
    all_goals omega
  exact ⟨(numsZ op).toNat, by omega, by omega⟩

set_option maxHeartbeats 1000000 in
set_option maxRecDepth 100000 in
theorem numbers_calls (op a b c : Int) (m : Nat) (w : World) (hm : numsZ op = (m : Int)) (h3 : m ≤ 3) :
    Calls Try.prog 16 #[.agg #[.int .i64 op, .int .i64 a, .int .i64 b, .int .i64 c]] w fun e w' => e = .returned (.slice (some ⟨w.heap.size + 1, 0, none⟩) m 3) ∧ w'.heap[w.heap.size + 1]? = some (.cells #[.int .i64 a, .int .i64 b, .int .i64 c] 3) ∧ Below w.heap.size w w' := by
  have HI : Hid (∀ w, _) := fun w => insNumbers_calls op w
  rw [hm] at HI
  clear hm
  have h3' : (m : Int) ≤ 3 := by omega
  have h0' : (0 : Int) ≤ (m : Int) := by omega
  go_enter Try.func16, Try.ntmps16
  go_wp2_with fail
  go_region_held3 (fun w' => w'.cell? ⟨w.heap.size, 0, none⟩ = some (.int .i64 op) ∧ w'.cell? ⟨w.heap.size, 1, none⟩ = some (.int .i64 a) ∧ w'.cell? ⟨w.heap.size, 2, none⟩ = some (.int .i64 b) ∧ w'.cell? ⟨w.heap.size, 3, none⟩ = some (.int .i64 c)) (go_keep) (first | (go_at_call 28; refine (HI.out _).mono ?_; rintro e w1 ⟨rfl, rfl⟩))
  all_goals
    go_wp2_with fail
    go_ret
    refine ⟨rfl, ?_, ?_⟩
    · have := (MapKept.heap_alloc (w.alloc (.cells #[.int .i64 op, .int .i64 a, .int .i64 b, .int .i64 c] 37)) (.cells #[.int .i64 a, .int .i64 b, .int .i64 c] 3)).1
      show ((w.alloc (.cells #[.int .i64 op, .int .i64 a, .int .i64 b, .int .i64 c] 37)).alloc (.cells #[.int .i64 a, .int .i64 b, .int .i64 c] 3)).heap[w.heap.size + 1]? = _
      simpa using this
    · exact (((Below.refl _ _).alloc (Nat.le_refl _) _).alloc (by simp) _).drew

end Go.Proofs.Ytnbmhopoiijhoaa

/- Bytes that are written behind a head which is a text's own bytes: the first append makes a new row. -/
namespace Go.Proofs.Ytnbmhopoiijhoaa
open Go.RowKit

/-- These bytes lie in a row of the slice's own from block B on, or they are the head alone, as a text's bytes. -/
def OutB (B : Nat) (w : World) (v : Value) (bs : List Int) : Prop :=
  OwnsB B w v bs ∨ (bs = headBytes ∧ ∃ g, v = .slice (some ⟨g, 0, none⟩) 3 3 ∧ B ≤ g ∧ w.heap[g]? = some (.cells #[.int .u8 104, .int .u8 114, .int .u8 49] 5 (3, 4)))

theorem OutB.below {B : Nat} {w w' : World} {v : Value} {bs : List Int} (h : OutB B w v bs) (hb : Below w.heap.size w w') : OutB B w' v bs := by
  rcases h with h | ⟨rfl, g, rfl, hB, hg⟩
  · exact Or.inl (kept_owns h hb)
  · exact Or.inr ⟨rfl, g, rfl, hB, (hb.block g (heap_lt hg)).trans hg⟩

theorem OutB.alloc {B : Nat} {w : World} {v : Value} {bs : List Int} (h : OutB B w v bs) (o : Obj) : OutB B (w.alloc o) v bs := h.below ((Below.refl _ _).alloc (Nat.le_refl _) _)

theorem OutB.mono {B B' : Nat} {w : World} {v : Value} {bs : List Int} (h : OutB B w v bs) (hB : B' ≤ B) : OutB B' w v bs := by
  rcases h with h | ⟨rfl, g, rfl, hg, r⟩
  · exact Or.inl (h.mono hB)
  · exact Or.inr ⟨rfl, g, rfl, Nat.le_trans hB hg, r⟩

theorem OutB.lt {B : Nat} {w : World} {v : Value} {bs : List Int} (h : OutB B w v bs) : ∀ k, v.ownBlock = some k → B ≤ k := by
  rcases h with h | ⟨rfl, g, rfl, hB, hg⟩
  · exact fun k hk => (World.ownsRow.lt h k hk).1
  · intro k hk
    simp [Value.ownBlock] at hk
    omega

theorem OutB.ne {B b : Nat} {w : World} {v : Value} {bs : List Int} {c : Array Value} {t : TypeId} (h : OutB B w v bs) (hb : w.heap[b]? = some (.cells c t)) (hne : 5 ≠ t) : some b ≠ v.ownBlock := by
  rcases h with h | ⟨rfl, g, rfl, hB, hg⟩
  · exact owns_ne h hb hne
  · intro hv
    simp [Value.ownBlock] at hv
    subst hv
    rw [hb] at hg
    simp at hg

theorem OutB.sliceR {B : Nat} {w : World} {v : Value} {bs : List Int} (h : OutB B w v bs) : SliceR 5 1 B w v bs.length (byteCells bs) := by
  rcases h with h | ⟨rfl, g, rfl, hB, hg⟩
  · exact byteSliceR_of_owns h
  · refine ⟨_, 3, rfl, Or.inr ⟨g, rfl, hB, 3, byteCells headBytes, ⟨_, (3, 4), hg, rfl, fun i hi => ?_, Or.inr (by decide)⟩, by decide, fun _ _ => rfl⟩⟩
    match i, hi with
    | 0, _ => rfl
    | 1, _ => rfl
    | 2, _ => rfl

theorem wpList_append_out {w : World} {ops : Array Oper} {rest : List Oper} {o : Oper} {a : Act} {Q : Exit → Act → World → Prop} (hgd : o.guard = none) (s x : Operand)
    (ho : o.op = .call { callee := .builtin .append, args := #[s, x], argTypes := #[22, 22] })
    (B : Nat) (v : Value) (bs : List Int) (hs : a.eval s = v) (hown : OutB B w v bs)
    (ad : Addr) (m c : Nat) (ns : List Int) (news : List Value) (hm : 0 < m) (hx : a.eval x = .slice (some ad) m c) (hl : m = ns.length) (he : news = ns.map (fun b => .int .u8 b)) (hnews : ∀ j u, news[j]? = some u → w.cell? (ad.add j) = some u)
    (hlen : bs.length + m ≤ 100000) (hbase : B ≤ w.heap.size)
    (h : ∀ v' w', OwnsB B w' v' (bs ++ ns) → w.grownBy w' v.ownBlock → wpList Try.prog ops Q rest (a.put o.dst v') w') : wpList Try.prog ops Q (o :: rest) a w := by
  subst he hl
  obtain ⟨i0, hi, hz0, hz1, hz2⟩ := info_parts info_byte
  have h1 : ∀ u ∈ ns.map (fun b => Value.int .u8 b), u.oneCell' = true := fun u hu => by
    obtain ⟨b, _, rfl⟩ := List.mem_map.1 hu
    rfl
  rcases hown with hown | ⟨rfl, g, rfl, hB, hg⟩
  · exact wpList_append_own w hgd s x 22 ho B 5 i0 (.int .u8 0) 1 1 Try.underlying22 hi hz0 hz1 hz2 rfl (by decide) v bs.length _ hs hown ad ns.length c _ hx (by simp) hnews h1 (by unfold maxLen; omega) (by omega) hbase
      (fun v' w' h2 h3 _ => h v' w' (OwnsB.more h2 rfl rfl) h3)
  · refine wpList_append_grows w hgd s x 22 ho 5 i0 (.int .u8 0) 1 1 Try.underlying22 hi hz0 hz1 hz2 rfl (by decide) (some ⟨g, 0, none⟩) 3 3 (headBytes.map (fun b => .int .u8 b)) hs (fun e => by cases e) rfl
      (fun b hb j u hj => ?_) ad ns.length c _ hx (by simp) hnews h1 (by omega) (by unfold maxLen; omega) (by omega) (fun v' w' h2 h3 => h v' w' ?_ ?_)
    · cases hb
      rw [Addr.add_lit, Nat.zero_add]
      simp only [World.cell?, hg]
      match j, hj with
      | 0, hj => exact hj
      | 1, hj => exact hj
      | 2, hj => exact hj
      | j + 3, hj => simp [headBytes] at hj
    · have : OwnsB w.heap.size w' v' (headBytes ++ ns) := OwnsB.more (bs := headBytes) h2 rfl rfl
      exact this.mono hbase
    · exact ⟨h3.os, h3.tape, h3.output, h3.size, fun k hk _ => h3.block k hk (by simp)⟩
end Go.Proofs.Ytnbmhopoiijhoaa

/- The program's bytes of code are the plain ones. -/
namespace Go.Proofs.Ytnbmhopoiijhoaa
open Go.RowKit

set_option maxHeartbeats 1000000 in
set_option maxRecDepth 100000 in
theorem appendIns_calls (B g m : Nat) (v : Value) (op x y z : Int) (bs : List Int) (w : World) (hown : OutB B w v bs) (hB : B ≤ w.heap.size) (hg : w.heap[g]? = some (.cells #[.int .i64 x, .int .i64 y, .int .i64 z] 3)) (h3 : m ≤ 3) (hl : bs.length ≤ 20000) :
    Calls Try.prog 15 #[v, .int .i64 op, .slice (some ⟨g, 0, none⟩) m 3] w fun e w' => (∃ v', e = .returned v' ∧ OwnsB B w' v' (bs ++ ([op % 256] ++ ([x, y, z].take m).flatMap four))) ∧ Below B w w' := by
  have Hlb : Hid (bs.length ≤ 20000) := hl
  clear hl
  obtain ⟨i0, hi, hz0, hz1, hz2⟩ := info_parts info_byte
  have hltg := heap_lt hg
  have Hg : Hid (w.heap[g]? = some (.cells #[.int .i64 x, .int .i64 y, .int .i64 z] 3)) := hg
  clear hg
  go_enter Try.func15, Try.ntmps15
  go_wp2_with (first
    | (at_builtin; refine wpList_append_out rfl _ _ rfl B _ bs rfl (hown.alloc _) ⟨w.heap.size, 0, none⟩ 1 1 [op % 256] [.int .u8 (op % 256)] (by decide) rfl rfl rfl (cell_oneC _ _ rfl _ _) (by have := Hlb.out; omega) (by simp; omega) ?_
       intro v' w3 hown3 hgrow3
       have hg3 : w3.heap[g]? = some (.cells #[.int .i64 x, .int .i64 y, .int .i64 z] 3) := by
         have e1 : (w.alloc (.cells #[.int .u8 (op % 256)] 5)).heap[g]? = some (.cells #[.int .i64 x, .int .i64 y, .int .i64 z] 3) := by
           rw [Below.heap_alloc _ _ _ hltg]; exact Hg.out
         rw [hgrow3.block g (by simp; omega) ((hown.alloc _).ne e1 (by decide))]
         exact e1
       have hbw3 : Below B w w3 := Below.grown ((Below.refl B w).alloc hB _) hgrow3 (by simp; omega) (fun j hj => hown.lt _ hj)
       clear hgrow3 hown Hg))
  go_loopw [0, 17] (fun o j wi => ∃ q : Nat, j = .int .i64 q ∧ q ≤ m ∧ OwnsB B wi o ((bs ++ [op % 256]) ++ ([x, y, z].take q).flatMap four) ∧ wi.heap[g]? = some (.cells #[.int .i64 x, .int .i64 y, .int .i64 z] 3) ∧ Below B w wi) (fun _ j _ => m - (intOf j).toNat)
  case atStart => exact ⟨0, rfl, Nat.zero_le _, by simpa using hown3, hg3, hbw3⟩
  case round =>
    obtain ⟨q, rfl, hqm, hownq, h7q, hnxq⟩ := hrel
    clear hown3 hg3 hbw3
    have hlt7 := heap_lt h7q
    have hszq := hnxq.size
    by_cases hq : (q : Int) < (m : Int)
    · have hq3 : q < 3 := by omega
      have r7 := cell_of_heap h7q q
      have HT : Hid (([x, y, z].take (q + 1)).flatMap four = ([x, y, z].take q).flatMap four ++ four ([x, y, z].getD q 0)) := by
        show _ = _
        rw [List.take_succ_eq_append_getElem (by simpa using hq3), List.flatMap_append]
        simp [List.getD, hq3]
      rw [show (#[.int .i64 x, .int .i64 y, .int .i64 z] : Array Value)[q]? = some (.int .i64 ([x, y, z].getD q 0)) by
        match q, hq3 with
        | 0, _ => rfl
        | 1, _ => rfl
        | 2, _ => rfl] at r7
      have HLQ : Hid (((bs ++ [op % 256]) ++ ([x, y, z].take q).flatMap four).length ≤ 20020) := by
        show _ ≤ _
        have := Hlb.out
        simp only [List.length_append, flat_length, List.length_take, List.length_cons, List.length_nil]
        omega
      generalize [x, y, z].getD q 0 = nq at *
      obtain ⟨cur, hcur⟩ : ∃ cur, (bs ++ [op % 256]) ++ ([x, y, z].take q).flatMap four = cur := ⟨_, rfl⟩
      have Hcur : Hid ((bs ++ [op % 256]) ++ ([x, y, z].take q).flatMap four = cur) := hcur
      rw [hcur] at hownq HLQ
      clear hcur
      have hN : [Value.int .u8 (nq % 4294967296 / 16777216), .int .u8 (nq % 4294967296 / 65536 % 256), .int .u8 (nq % 4294967296 / 256 % 256), .int .u8 (nq % 256)] = (four nq).map (fun b => .int .u8 b) := by
        rw [show nq % 4294967296 / 16777216 = nq / 16777216 % 256 by omega, show nq % 4294967296 / 65536 % 256 = nq / 65536 % 256 by omega, show nq % 4294967296 / 256 % 256 = nq / 256 % 256 by omega]
        rfl
      have HNE : Hid _ := hN
      clear hN
      go_wp2_with (first
        | (at_builtin; refine wpList_append_own _ rfl _ _ 22 rfl B 5 i0 (.int .u8 0) 1 1 Try.underlying22 hi hz0 hz1 hz2 rfl (by decide) _ _ _ rfl (hownq.alloc _) ⟨wr.heap.size, 0, none⟩ 4 4 [.int .u8 (nq % 4294967296 / 16777216), .int .u8 (nq % 4294967296 / 65536 % 256), .int .u8 (nq % 4294967296 / 256 % 256), .int .u8 (nq % 256)] rfl rfl (cell_four_new _ _ rfl _ _ _ _ _) (fun u hu => by simp at hu; rcases hu with rfl | rfl | rfl | rfl <;> rfl) (by have := HLQ.out; unfold maxLen; omega) (by have := HLQ.out; omega) (by simp; omega) ?_
           intro v7 w7 hown7' hgrow7 hnil7
           have k7 : w7.heap[g]? = some (.cells #[.int .i64 x, .int .i64 y, .int .i64 z] 3) := by
             have e1 : (wr.alloc (.cells #[.int .u8 (nq % 4294967296 / 16777216), .int .u8 (nq % 4294967296 / 65536 % 256), .int .u8 (nq % 4294967296 / 256 % 256), .int .u8 (nq % 256)] 5)).heap[g]? = some (.cells #[.int .i64 x, .int .i64 y, .int .i64 z] 3) := by
               rw [Below.heap_alloc _ _ _ hlt7]; exact h7q
             rw [hgrow7.block g (by simp; omega) (owns_ne (hownq.alloc _) e1 (by decide))]
             exact e1
           have hbw7 : Below B w w7 := Below.grown (hnxq.alloc (by omega) _) hgrow7 (by simp; omega) (fun j hj => by have := (hownq.lt _ hj).1; omega)
           have hown7 : OwnsB B w7 v7 (cur ++ four nq) := OwnsB.more hown7' HNE.out rfl
           have K7 : Hid _ := k7
           clear hgrow7 hnil7 hown7' hownq hnxq k7 h7q))
      have hs : m - (intOf (.int .i64 ((q + 1 : Nat) : Int))).toNat < m - (intOf (.int .i64 (q : Int))).toNat := by simp only [intOf, Int.toNat_natCast]; omega
      try rw [wrap_one (k := q) (len := m) (by omega) (by omega)]
      refine ⟨⟨q + 1, rfl, by omega, ?_, K7.out, hbw7⟩, hs⟩
      rw [HT.out, ← List.append_assoc, Hcur.out]
      exact hown7
    · have hqm' : q = m := by omega
      subst hqm'
      have HX : Hid (OwnsB B wr u0 (bs ++ ([op % 256] ++ ([x, y, z].take q).flatMap four))) := by
        show OwnsB _ _ _ _
        rw [← List.append_assoc]
        exact hownq
      clear hownq h7q
      go_wp2_with fail
      go_ret
      exact ⟨⟨_, rfl, HX.out⟩, hnxq⟩
end Go.Proofs.Ytnbmhopoiijhoaa

/- The program's bytes of code are the plain ones: the whole. -/
namespace Go.Proofs.Ytnbmhopoiijhoaa
open Go.RowKit

set_option maxHeartbeats 4000000 in
set_option maxRecDepth 100000 in
theorem implBytes_calls (b off cap : Nat) (cs : List In) (w : World) (hb : b < w.heap.size) (hn : InsAt w b off cs) :
    Calls Try.prog 5 #[.slice (some ⟨b, off, none⟩) cs.length cap] w fun e w' => (∃ v, e = .returned (.tuple #[v, .bool (codeOkZ cs)]) ∧ OutB w.heap.size w' v (if codeOkZ cs then codeBytesZ cs else [])) ∧ Below w.heap.size w w' := by
  have HL : Hid (Calls _ _ _ _ _) := listOk_calls b off cap cs w hb hn
  obtain ⟨len, hlen⟩ : ∃ len, cs.length = len := ⟨_, rfl⟩
  have Hlen : Hid (cs.length = len) := hlen
  have HN : Hid (InsAt w b off cs) := hn
  clear hn
  cases hok : codeOkZ cs with
  | false =>
    rw [hlen, hok] at HL
    rw [hlen, if_neg (by simp)]
    go_enter Try.func5, Try.ntmps5
    go_wp2_with fail
    refine HL.out.mono ?_
    rintro e w1 ⟨rfl, hb1⟩
    go_wp2_with fail
    go_ret2
    exact ⟨⟨.slice none 0 0, rfl, Or.inl (World.ownsRow_nil _ _ _ _)⟩, hb1⟩
  | true =>
    rw [hlen, hok] at HL
    rw [hlen, if_pos rfl]
    have HM : Hid (len ≤ 1500 ∧ cs.all In.ok = true) := by
      unfold codeOkZ at hok
      rw [Bool.and_eq_true] at hok
      exact ⟨by have := of_decide_eq_true hok.1; omega, hok.2⟩
    obtain ⟨ansR, hansR⟩ : ∃ ansR, codeBytesZ cs = ansR := ⟨_, rfl⟩
    have HAN : Hid (codeBytesZ cs = ansR) := hansR
    rw [hansR]
    clear hlen hok hansR
    go_enter Try.func5, Try.ntmps5
    go_wp2_with fail
    refine HL.out.mono ?_
    rintro e w1 ⟨rfl, hb1⟩
    have hsz1 := hb1.size
    clear HL
    have hcv := Joins.run_convert_bytes_const_at (P := Try.prog) w1 22 5 #[.int .u8 104, .int .u8 114, .int .u8 49] 3 3 w1.heap.size rfl Try.underlying22 Try.underlying5
    go_wp2_with fail
    clear hcv
    go_loopw [4, 14] (fun o i wr => ∃ k : Nat, i = .int .i64 k ∧ k ≤ len ∧ OutB w1.heap.size wr o (codeBytesZ (cs.take k)) ∧ Below w1.heap.size w1 wr) (fun _ i _ => len - (intOf i).toNat)
    case atStart => exact ⟨0, rfl, Nat.zero_le _, Or.inr ⟨by simp [codeBytesZ], _, rfl, Nat.le_refl _, (MapKept.heap_alloc w1 _).1⟩, (Below.refl _ _).alloc (Nat.le_refl _) _⟩
    case round =>
      obtain ⟨k, rfl, hk, hown, hnx⟩ := hrel
      have hszr := hnx.size
      by_cases hkl : (k : Int) < (len : Int)
      · have hkn : k < cs.length := by rw [Hlen.out]; omega
        have hcell := fun c (hc : c < 4) => ((hnx.cell (p := ⟨b, off + k * 4 + c, none⟩) (Nat.lt_of_lt_of_le hb hsz1)).trans (hb1.cell (p := ⟨b, off + k * 4 + c, none⟩) hb)).trans (HN.out k hkn c hc)
        have HD : Hid (cs.take (k + 1) = cs.take k ++ [cs.getD k default]) := ins_drop hkn
        have hok : In.ok (cs.getD k default) = true := by
          have h1 := List.all_eq_true.1 HM.out.2 (cs.getD k default) (by simp [List.getD, List.getElem?_eq_getElem hkn])
          exact h1
        generalize cs.getD k default = n at hcell HD hok
        obtain ⟨op, x, y, z⟩ := n
        have c0 := hcell 0 (by omega)
        have c1 := hcell 1 (by omega)
        have c2 := hcell 2 (by omega)
        have c3 := hcell 3 (by omega)
        simp only [In.cell, Nat.add_zero] at c0 c1 c2 c3
        clear hcell hkn
        have hlb : (codeBytesZ (cs.take k)).length ≤ 20000 := by
          have h1 := code_length (cs.take k)
          have h2 : (cs.take k).length ≤ k := by simp; omega
          have := HM.out.1
          unfold codeBytesZ headBytes
          simp only [List.length_append, List.length_cons, List.length_nil]
          omega
        have HB : Hid (codeBytesZ (cs.take (k + 1)) = codeBytesZ (cs.take k) ++ In.bytes ⟨op, x, y, z⟩) := by
          show _ = _
          rw [HD.out]
          simp [codeBytesZ]
        obtain ⟨mm, hmm, hm3⟩ := numsZ_range op
        have HBy : Hid (In.bytes ⟨op, x, y, z⟩ = [op % 256] ++ ([x, y, z].take mm).flatMap four) := by
          show _ = _
          have h0 : ¬ manyZ op < 0 := fun h => by
            simp only [In.ok] at hok
            unfold insOkZ at hok
            rw [if_pos (Or.inl h)] at hok
            cases hok
          have h1 : manyZ op = (mm : Int) := by
            rw [← hmm, numsZ_many, if_neg h0]
          simp only [In.bytes, In.nums, h1, Int.toNat_natCast]
          rfl
        have HMM : Hid (numsZ op = (mm : Int)) := hmm
        have Hlb : Hid ((codeBytesZ (cs.take k)).length ≤ 20000) := hlb
        clear hlb HD hok hmm
        generalize codeBytesZ (cs.take k) = bs at *
        go_wp2_with fail
        clear c0 c1 c2 c3
        have hownA := hown.alloc (.cells #[.int .i64 op, .int .i64 x, .int .i64 y, .int .i64 z] 37)
        have h6 := (MapKept.heap_alloc wr (.cells #[.int .i64 op, .int .i64 x, .int .i64 y, .int .i64 z] 37)).1
        have hnxA := hnx.alloc hszr (.cells #[.int .i64 op, .int .i64 x, .int .i64 y, .int .i64 z] 37)
        have hszA : w1.heap.size ≤ (wr.alloc (.cells #[.int .i64 op, .int .i64 x, .int .i64 y, .int .i64 z] 37)).heap.size := hnxA.size
        have hlt6 : wr.heap.size < (wr.alloc (.cells #[.int .i64 op, .int .i64 x, .int .i64 y, .int .i64 z] 37)).heap.size := by simp
        generalize wr.alloc (.cells #[.int .i64 op, .int .i64 x, .int .i64 y, .int .i64 z] 37) = WA at *
        have q0 := cell_of_heap h6 0
        have q1 := cell_of_heap h6 1
        have q2 := cell_of_heap h6 2
        have q3 := cell_of_heap h6 3
        simp at q0 q1 q2 q3
        generalize wr.heap.size = B6 at *
        clear h6 hown hnx
        go_region_with (first
          | (go_at_call 16; refine (numbers_calls op x y z mm _ HMM.out hm3).mono ?_; rintro e W2 ⟨rfl, hg2, hb2⟩; have q0' := (hb2.cell (p := ⟨B6, 0, none⟩) hlt6).trans q0)
          | (go_at_call 15; refine (appendIns_calls w1.heap.size _ mm _ op x y z bs _ (OutB.below (w := WA.drew) hownA hb2) (Nat.le_trans hszA hb2.size) hg2 hm3 Hlb.out).mono ?_; rintro e W3 ⟨⟨v3, rfl, hown3⟩, hb3⟩))
        all_goals
          have hX : OutB w1.heap.size W3 v3 (codeBytesZ (cs.take (k + 1))) := by
            rw [HB.out, HBy.out]
            exact Or.inl hown3
          have hY : Below w1.heap.size w1 W3 := hnxA.drew.trans ((hb2.mono hszA).trans hb3)
          clear hown3 hb3 hb2 hg2
          have HX : Hid _ := hX
          clear hX
          go_wp2_with fail
          have hs : len - (intOf (.int .i64 ((k + 1 : Nat) : Int))).toNat < len - (intOf (.int .i64 (k : Int))).toNat := by simp only [intOf, Int.toNat_natCast]; omega
          try rw [wrap_one (k := k) (len := len) (by omega) (by have := HM.out.1; omega)]
          exact ⟨⟨k + 1, rfl, by omega, HX.out, hY⟩, hs⟩
      · have e1 : cs.take k = cs := List.take_of_length_le (by rw [Hlen.out]; omega)
        rw [e1, HAN.out] at hown
        clear e1
        go_wp2_with fail
        go_ret2
        exact ⟨⟨u4, rfl, hown.mono hsz1⟩, hb1.trans (hnx.mono hsz1)⟩
end Go.Proofs.Ytnbmhopoiijhoaa

/- What is written is read back, and nothing else. -/
namespace Go.Proofs.Ytnbmhopoiijhoaa
open Go.RowKit

/-- Numbers that four bytes hold. -/
def Fits4 (n : Int) : Prop := -2147483648 ≤ n ∧ n ≤ 2147483647

theorem num_four (n : Int) (h : Fits4 n) (r : List Int) : numAt (four n ++ r) 0 = n := by
  unfold Fits4 at h
  show num4 (n / 16777216 % 256) (n / 65536 % 256) (n / 256 % 256) (n % 256) = n
  unfold num4 wrap32
  omega

/-- What is known of an instruction that may be. -/
theorem ok_of {i : In} (h : In.ok i = true) : IsB i.op ∧ Fits4 i.a ∧ Fits4 i.b ∧ Fits4 i.c ∧ (insMany i.op < 1 → i.a = 0) ∧ (insMany i.op < 2 → i.b = 0) ∧ (insMany i.op < 3 → i.c = 0) := by
  obtain ⟨op, a, b, c⟩ := i
  dsimp only
  unfold In.ok insOkZ at h
  dsimp only at h
  rw [← many_eq]
  split at h
  · cases h
  rename_i hm
  simp only [not_or, not_and, Decidable.not_not] at hm
  obtain ⟨h0, h1, h2, h3⟩ := hm
  have hop : IsB op := by
    unfold IsB
    unfold manyZ at h0
    split at h0
    · omega
    split at h0
    · omega
    split at h0
    · omega
    split at h0 <;> omega
  have ha : (manyZ op).toNat < 1 → a = 0 := fun x => h1 (by omega)
  have hb : (manyZ op).toNat < 2 → b = 0 := fun x => h2 (by omega)
  have hc : (manyZ op).toNat < 3 → c = 0 := fun x => h3 (by omega)
  refine ⟨hop, ?_, ?_, ?_, ha, hb, hc⟩
  all_goals
    unfold Fits4
    split at h
    · rename_i e
      subst e
      have m1 : manyZ 1 = 1 := by decide
      rw [m1] at hb hc
      have := of_decide_eq_true h
      have := hb (by decide)
      have := hc (by decide)
      omega
    split at h
    · rename_i e
      subst e
      have m1 : manyZ 2 = 1 := by decide
      rw [m1] at hb hc
      have := of_decide_eq_true h
      have := hb (by decide)
      have := hc (by decide)
      omega
    split at h
    · rename_i e
      subst e
      have m1 : manyZ 14 = 1 := by decide
      rw [m1] at hb hc
      have := of_decide_eq_true h
      have := hb (by decide)
      have := hc (by decide)
      omega
    split at h
    · cases h
    have := of_decide_eq_true h
    omega

theorem ins_back {i : In} (h : In.ok i = true) (r : List Int) : i.bytes = i.op :: i.nums.flatMap four ∧ (i.nums.flatMap four).length = 4 * insMany i.op ∧ insOf i.op (i.nums.flatMap four ++ r) = i := by
  obtain ⟨ho, ha, hb, hc, za, zb, zc⟩ := ok_of h
  have hm := insMany_le i.op
  obtain ⟨op, a, b, c⟩ := i
  dsimp only at ho ha hb hc za zb zc hm
  have e0 : op % 256 = op := by unfold IsB at ho; omega
  simp only [In.bytes, In.nums, insOf, many_eq, e0]
  have n4 (x : List Int) : numAt x 4 = numAt (x.drop 4) 0 := by rw [numAt_drop]
  have n8 (x : List Int) : numAt x 8 = numAt ((x.drop 4).drop 4) 0 := by rw [numAt_drop, numAt_drop]
  have d4 (n : Int) (x : List Int) : (four n ++ x).drop 4 = x := rfl
  generalize insMany op = m at *
  match m, hm with
  | 0, _ =>
    rw [za (by omega), zb (by omega), zc (by omega)]
    exact ⟨trivial, rfl, rfl⟩
  | 1, _ =>
    rw [zb (by omega), zc (by omega), show List.flatMap four (List.take 1 [a, 0, 0]) = four a ++ [] from rfl, if_pos (by omega), if_neg (by omega), if_neg (by omega), List.append_nil, num_four a ha]
    exact ⟨trivial, rfl, rfl⟩
  | 2, _ =>
    rw [zc (by omega), show List.flatMap four (List.take 2 [a, b, 0]) = four a ++ (four b ++ []) from rfl, if_pos (by omega), if_pos (by omega), if_neg (by omega), List.append_nil, List.append_assoc, num_four a ha, n4, d4, num_four b hb]
    exact ⟨trivial, rfl, rfl⟩
  | 3, _ =>
    rw [show List.flatMap four (List.take 3 [a, b, c]) = four a ++ (four b ++ (four c ++ [])) from rfl, if_pos (by omega), if_pos (by omega), if_pos (by omega), List.append_nil, List.append_assoc, List.append_assoc, num_four a ha, n4, n8, d4, d4, num_four b hb, num_four c hc]
    exact ⟨trivial, rfl, rfl⟩

theorem parse_bytes : ∀ cs : List In, cs.all In.ok = true → parse (cs.flatMap In.bytes) = some cs
  | [], _ => rfl
  | i :: r, h => by
    rw [List.all_cons, Bool.and_eq_true] at h
    obtain ⟨e1, e2, e3⟩ := ins_back h.1 (r.flatMap In.bytes)
    rw [List.flatMap_cons, e1, List.cons_append, parse_cons, if_pos (by rw [List.length_append]; omega), e3, List.drop_append_of_le_length (by omega), List.drop_eq_nil_of_le (by omega), List.nil_append, parse_bytes r h.2]
    rfl

theorem numAt_append (t r : List Int) (k : Nat) (h : k + 4 ≤ t.length) : numAt (t ++ r) k = numAt t k := by
  unfold numAt
  simp only [List.getD]
  rw [List.getElem?_append_left (by omega), List.getElem?_append_left (by omega), List.getElem?_append_left (by omega), List.getElem?_append_left (by omega)]

theorem insOf_append (op : Int) (t r : List Int) (h : 4 * insMany op ≤ t.length) : insOf op (t ++ r) = insOf op t := by
  have hm := insMany_le op
  unfold insOf
  generalize insMany op = m at *
  match m, hm with
  | 0, _ => rfl
  | 1, _ => simp only [Nat.lt_irrefl, if_false, show (0 : Nat) < 1 from by omega, if_true, show ¬ (2 : Nat) < 1 from by omega, numAt_append t r 0 (by omega)]
  | 2, _ => simp only [Nat.lt_irrefl, if_false, show (0 : Nat) < 2 from by omega, show (1 : Nat) < 2 from by omega, if_true, numAt_append t r 0 (by omega), numAt_append t r 4 (by omega)]
  | 3, _ => simp only [show (0 : Nat) < 3 from by omega, show (1 : Nat) < 3 from by omega, show (2 : Nat) < 3 from by omega, if_true, numAt_append t r 0 (by omega), numAt_append t r 4 (by omega), numAt_append t r 8 (by omega)]

theorem parse_append : ∀ (n : Nat) (l r : List Int) (e : List In), l.length ≤ n → parse l = some e → parse (l ++ r) = (parse r).map (e ++ ·)
  | _, [], r, e, _, h => by
    rw [parse_nil] at h
    cases h
    simp
  | 0, _ :: _, _, _, hn, _ => by simp at hn
  | n + 1, op :: t, r, e, hn, h => by
    rw [parse_cons] at h
    split at h
    · rename_i hl
      obtain ⟨e', he', rfl⟩ := Option.map_eq_some_iff.1 h
      have ih := parse_append n (t.drop (4 * insMany op)) r e' (by simp at hn; simp; omega) he'
      rw [List.cons_append, parse_cons, if_pos (by rw [List.length_append]; omega), List.drop_append_of_le_length hl, ih, insOf_append op t r hl, Option.map_map]
      congr 1
    · cases h

/-- What is read is right, and its bytes are those that were read. -/
theorem read_some {bs : List Int} (hb : ∀ x ∈ bs, IsB x) {c : List In} (h : readZ bs = some c) : codeOkZ c = true ∧ codeBytesZ c = bs ∧ parse (bs.drop 3) = some c := by
  unfold readZ at h
  split at h
  · cases h
  rename_i hh
  rw [not_or, Decidable.not_not] at hh
  split at h
  · cases h
  rename_i c' hc
  split at h
  · rename_i ho
    cases h
    refine ⟨ho, ?_, hc⟩
    have he := parse_enc _ _ c (Nat.le_refl _) (fun x hx => hb x (List.mem_of_mem_drop hx)) hc
    unfold codeBytesZ
    rw [he, ← hh.2]
    exact List.take_append_drop 3 bs
  · cases h

/-- What is written is read back. -/
theorem read_back {c : List In} (h : codeOkZ c = true) : readZ (codeBytesZ c) = some c := by
  have h' := h
  unfold codeOkZ at h'
  rw [Bool.and_eq_true] at h'
  have hl := code_length c
  have h1 := of_decide_eq_true h'.1
  unfold readZ
  have e : codeBytesZ c = headBytes ++ c.flatMap In.bytes := rfl
  rw [if_neg (by
    rw [not_or, Decidable.not_not, e]
    refine ⟨?_, rfl⟩
    rw [List.length_append, show headBytes.length = 3 from rfl]
    omega), show (codeBytesZ c).drop 3 = c.flatMap In.bytes from rfl, parse_bytes c h'.2]
  simp only
  rw [if_pos h]

/-- A part of it is less, if it is anything. -/
theorem read_part {c e : List In} (h : codeOkZ c = true) {k : Nat} (hk : k < (codeBytesZ c).length) (he : readZ ((codeBytesZ c).take k) = some e) (hb : ∀ x ∈ codeBytesZ c, IsB x) : e.length < c.length := by
  obtain ⟨-, h2, h3⟩ := read_some (fun x hx => hb x (List.mem_of_mem_take hx)) he
  have hp := (read_some hb (read_back h)).2.2
  have hk3 : 3 ≤ k := by
    have := congrArg List.length h2
    unfold codeBytesZ at this
    rw [List.length_append, show headBytes.length = 3 from rfl, List.length_take] at this
    omega
  have hs : (codeBytesZ c).drop 3 = ((codeBytesZ c).take k).drop 3 ++ (codeBytesZ c).drop k := by
    have h4 : ((codeBytesZ c).take k ++ (codeBytesZ c).drop k).drop 3 = _ := List.drop_append_of_le_length (by rw [List.length_take]; omega)
    rw [List.take_append_drop] at h4
    exact h4
  rw [hs, parse_append _ _ _ _ (Nat.le_refl _) h3] at hp
  obtain ⟨c2, hc2, rfl⟩ := Option.map_eq_some_iff.1 hp
  rw [List.length_append]
  have hne : c2 ≠ [] := by
    intro h0
    have h5 := parse_enc _ _ _ (Nat.le_refl _) (fun x hx => hb x (List.mem_of_mem_drop hx)) hc2
    have h6 := congrArg List.length h5
    rw [List.length_drop, show (c2.flatMap In.bytes).length = 0 by rw [h0]; rfl] at h6
    omega
  have := List.length_pos_iff.2 hne
  omega
end Go.Proofs.Ytnbmhopoiijhoaa

/- Reading and writing code, whatever slices hold it. -/
namespace Go.Proofs.Ytnbmhopoiijhoaa
open Go.RowKit

/-- A slice of these bytes, with room behind them or not. -/
def RawB (W : World) (v : Value) (bs : List Int) : Prop :=
  ∃ ad cap, v = .slice ad bs.length cap ∧ bs.length ≤ cap ∧ (bs = [] ∨ ∃ g off, ad = some ⟨g, off, none⟩ ∧ g < W.heap.size ∧ BytesIs W g off bs)

theorem RawB.below {W W' : World} {v : Value} {bs : List Int} (h : RawB W v bs) (hb : Below W.heap.size W W') : RawB W' v bs := by
  obtain ⟨ad, cap, rfl, hc, h⟩ := h
  refine ⟨ad, cap, rfl, hc, h.imp id ?_⟩
  rintro ⟨g, off, rfl, hg, hn⟩
  exact ⟨g, off, rfl, Nat.lt_of_lt_of_le hg hb.size, hn.below hb hg⟩

theorem raw_of_owns {B : Nat} {W : World} {v : Value} {bs : List Int} (h : OwnsB B W v bs) : RawB W v bs := by
  have h' := h
  obtain ⟨-, ⟨rfl, h0⟩ | ⟨g, cap, cur, rfl, hB, hc, hl, -⟩⟩ := h
  · refine ⟨none, 0, by rw [h0], by omega, Or.inl (List.eq_nil_of_length_eq_zero h0)⟩
  · refine ⟨_, cap, rfl, hl, Or.inr ⟨g, 0, rfl, heap_lt hc, fun k hk => ?_⟩⟩
    rw [Nat.zero_add, World.ownsRow.cellAt h' k (by omega)]
    simp [List.getD, hk]

theorem raw_of_out {B : Nat} {W : World} {v : Value} {bs : List Int} (h : OutB B W v bs) : RawB W v bs := by
  rcases h with h | ⟨rfl, g, rfl, hB, hg⟩
  · exact raw_of_owns h
  · refine ⟨_, 3, rfl, by decide, Or.inr ⟨g, 0, rfl, heap_lt hg, fun k hk => ?_⟩⟩
    have hk' : k = 0 ∨ k = 1 ∨ k = 2 := by
      have : headBytes.length = 3 := rfl
      omega
    rcases hk' with rfl | rfl | rfl <;> simp [World.cell?, hg, headBytes, List.getD]

theorem raw_string {W : World} {v : Value} {bs : List Int} (h : RawB W v bs) (hB : ∀ x ∈ bs, IsB x) : (convert 22 9 v).run Try.prog W = .ok (.string (byteStr bs)) W := by
  obtain ⟨ad, cap, rfl, hc, h⟩ := h
  rcases h with rfl | ⟨g, off, rfl, hg, hn⟩
  · cases ad with
    | none => simp [convert, go_sem, byteStr, Conv.bytesToString]; rfl
    | some a => exact run_convert_bytes_back (P := Try.prog) W 22 9 5 a cap [] Try.underlying22 Try.underlying5 Try.underlying9 (fun i hi => by simp at hi)
  · exact bytes_string W g off cap bs hB hn

set_option maxRecDepth 100000 in
theorem specRead_none (ad : Option Addr) (cap : Nat) (w : World) :
    Calls Try.prog 10 #[.slice ad 0 cap] w fun e w' => (∃ v, e = .returned (.tuple #[v, .bool false]) ∧ OwnsI w.heap.size w' v []) ∧ Below w.heap.size w w' := by
  go_enter Try.func10, Try.ntmps10
  go_wp2_with fail
  go_ret2
  exact ⟨⟨_, rfl, World.ownsRow_nil _ _ _ _⟩, Below.refl _ _⟩

theorem read_empty : readZ [] = none := by
  unfold readZ
  rw [if_pos (Or.inr (by decide))]

theorem specRead_any {W : World} {v : Value} {bs : List Int} (h : RawB W v bs) (hB : ∀ x ∈ bs, IsB x) :
    Calls Try.prog 10 #[v] W fun e w' => (∃ v', e = .returned (.tuple #[v', .bool (readZ bs).isSome]) ∧ OwnsI W.heap.size w' v' ((readZ bs).getD [])) ∧ Below W.heap.size W w' := by
  obtain ⟨ad, cap, rfl, hc, h⟩ := h
  rcases h with rfl | ⟨g, off, rfl, hg, hn⟩
  · rw [read_empty]
    exact specRead_none ad cap W
  · exact specRead_cap g off cap bs W hc hg hn hB

set_option maxRecDepth 100000 in
theorem hasNone_calls (ad a' : Option Addr) (cap cap' : Nat) (w : World) :
    Calls Try.prog 29 #[.slice ad 0 cap, .slice a' 3 cap'] w fun e w' => e = .returned (.bool false) ∧ w = w' := by
  go_enter Try.func29, Try.ntmps29
  go_wp2_with fail
  go_ret
  exact ⟨rfl, rfl⟩

set_option maxRecDepth 100000 in
theorem cutNone_calls (ad a' : Option Addr) (cap cap' : Nat) (w : World) :
    Calls Try.prog 20 #[.slice ad 0 cap, .slice a' 3 cap'] w fun e w' => e = .returned (.tuple #[.slice ad 0 cap, .bool false]) ∧ Below w.heap.size w w' := by
  go_enter Try.func20, Try.ntmps20
  go_wp2_with fail
  refine (hasNone_calls ad a' cap cap' _).mono ?_
  rintro e w1 ⟨rfl, rfl⟩
  go_wp2_with fail
  go_ret2
  exact ⟨rfl, Below.refl _ _⟩

set_option maxRecDepth 100000 in
set_option maxHeartbeats 2000000 in
theorem implRead_none (ad : Option Addr) (cap : Nat) (w : World) :
    Calls Try.prog 7 #[.slice ad 0 cap] w fun e w' => (∃ v, e = .returned (.tuple #[v, .bool false]) ∧ OwnsI w.heap.size w' v []) ∧ Below w.heap.size w w' := by
  refine (callsIn_wide (n := 0)).1 ?_
  refine callsIn_of_wp_marks Try.func7 rfl trivial ?_ rfl
  simp only [Try.ntmps7, List.size_toArray, List.length_cons, List.length_nil, Nat.reduceAdd, Nat.reduceSub, Array.replicate_succ, Array.replicate_zero, List.push_toArray, List.append_toArray, List.nil_append, List.cons_append]
  have hcv := Joins.run_convert_bytes_const_at (P := Try.prog) ((w.alloc (.cells #[.slice none 0 0] 23)).alloc (.cells #[.bool false] 4)) 22 5 #[.int .u8 104, .int .u8 114, .int .u8 49] 3 3 (w.heap.size + 1 + 1) (by simp) Try.underlying22 Try.underlying5
  gi_wp2_with fail
  obtain ⟨W3, hW3, k2, k3, k4, hb3⟩ := three_new w (.cells #[.slice none 0 0] 23) (.cells #[.bool false] 4) (.cells #[.int .u8 104, .int .u8 114, .int .u8 49] 5 (3, 4))
  rw [hW3]
  clear hW3 hcv k4
  refine ⟨trivial, rfl, (callsIn_wide.2 (cutNone_calls ad _ cap 3 W3)).mono ?_⟩
  rintro e W4 ⟨rfl, hb4⟩
  have j2 := (hb4.block _ (heap_lt k2)).trans k2
  have j3 := (hb4.block _ (heap_lt k3)).trans k3
  have hbw := hb3.trans (hb4.mono hb3.size)
  clear k2 k3 hb3 hb4
  have c2 := cell_of_heap j2 0
  have c3 := cell_of_heap j3 0
  have z2 := frozen_of_heap j2 0
  have z3 := frozen_of_heap j3 0
  simp at c2 c3
  have HJ2 := hid j2
  have HJ3 := hid j3
  have HBw := hid hbw
  clear j2 j3 hbw
  gi_wp2_with fail
  obtain ⟨s2, s3, sb⟩ := set_two HJ2.out HJ3.out HBw.out (.slice none 0 0) (.bool false)
  exact none_told rfl rfl s2 s3 sb

theorem implRead_any {W : World} {v : Value} {bs : List Int} (h : RawB W v bs) (hB : ∀ x ∈ bs, IsB x) :
    Calls Try.prog 7 #[v] W fun e w' => (∃ v', e = .returned (.tuple #[v', .bool (readZ bs).isSome]) ∧ OwnsI W.heap.size w' v' ((readZ bs).getD [])) ∧ Below W.heap.size W w' := by
  obtain ⟨ad, cap, rfl, hc, h⟩ := h
  rcases h with rfl | ⟨g, off, rfl, hg, hn⟩
  · rw [read_empty]
    exact implRead_none ad cap W
  · exact implRead_cap g off cap bs W hc hg hn hB

set_option maxRecDepth 100000 in
theorem implBytes_none (ad : Option Addr) (cap : Nat) (w : World) :
    Calls Try.prog 5 #[.slice ad 0 cap] w fun e w' => (∃ v, e = .returned (.tuple #[v, .bool true]) ∧ OutB w.heap.size w' v headBytes) ∧ Below w.heap.size w w' := by
  have HLn := hid (listNone_calls ad cap w)
  go_enter Try.func5, Try.ntmps5
  go_wp2_with fail
  refine HLn.out.mono ?_
  rintro e w1 ⟨rfl, hb1⟩
  have hcv := Joins.run_convert_bytes_const_at (P := Try.prog) w1 22 5 #[.int .u8 104, .int .u8 114, .int .u8 49] 3 3 w1.heap.size rfl Try.underlying22 Try.underlying5
  go_wp2_with fail
  refine wp_loop_rounds 1 ?_
  rw [rounds_succ]
  go_wp2
  go_ret2
  exact ⟨⟨_, rfl, Or.inr ⟨rfl, _, rfl, hb1.size, (MapKept.heap_alloc w1 _).1⟩⟩, hb1.alloc hb1.size _⟩

theorem implBytes_any {v : Value} {cs : List In} (w : World) (h : InsSlice w v cs) :
    Calls Try.prog 5 #[v] w fun e w' => (∃ v', e = .returned (.tuple #[v', .bool (codeOkZ cs)]) ∧ OutB w.heap.size w' v' (if codeOkZ cs then codeBytesZ cs else [])) ∧ Below w.heap.size w w' := by
  obtain ⟨ad, cap, rfl, h⟩ := h
  by_cases h0 : cs = []
  · subst h0
    exact implBytes_none ad cap w
  · obtain ⟨g, o, rfl, hb, hr⟩ := h.resolve_left h0
    exact implBytes_calls g o cap cs w hb hr

set_option maxRecDepth 100000 in
theorem hrCode_none (ad ad' : Option Addr) (cap cap' : Nat) (w : World) :
    Calls Try.prog 8 #[.slice ad 0 cap, .slice ad' 0 cap'] w fun e w' => e = .returned (.bool true) ∧ Below w.heap.size w w' := by
  go_enter Try.func8, Try.ntmps8
  go_wp2_with fail
  refine wp_loop_rounds 1 ?_
  rw [rounds_succ]
  go_wp2_with fail
  go_ret
  exact ⟨rfl, Below.refl _ _⟩

set_option maxHeartbeats 2000000 in
set_option maxRecDepth 100000 in
theorem hrCode_rows (b off b' off' cap cap' : Nat) (cs : List In) (w : World) (hn : InsAt w b off cs) (hn' : InsAt w b' off' cs) (hm : cs.length ≤ 1048576) :
    Calls Try.prog 8 #[.slice (some ⟨b, off, none⟩) cs.length cap, .slice (some ⟨b', off', none⟩) cs.length cap'] w fun e w' => e = .returned (.bool true) ∧ Below w.heap.size w w' := by
  obtain ⟨len, hlen⟩ : ∃ len, cs.length = len := ⟨_, rfl⟩
  have HM : Hid (len ≤ 1048576) := by show _ ≤ _; omega
  have HN := hid (And.intro hn (And.intro hn' hlen))
  rw [hlen]
  clear hm hn hn' hlen
  go_enter Try.func8, Try.ntmps8
  go_wp2_with fail
  go_loopw [5] (fun i wr => ∃ k : Nat, k ≤ len ∧ i = .int .i64 k ∧ Below w.heap.size w wr ∧ ∀ a, wr.cell? a = w.cell? a) (fun i _ => len - (intOf i).toNat)
  case atStart => exact ⟨0, Nat.zero_le _, rfl, Below.refl _ _, fun _ => rfl⟩
  case round =>
    obtain ⟨k, hk, rfl, hnx, hce⟩ := hrel
    by_cases hkl : (k : Int) < (len : Int)
    · have hkc : k < cs.length := by rw [HN.out.2.2]; omega
      have c0 := (hce _).trans (HN.out.1 k hkc 0 (by omega))
      have c1 := (hce _).trans (HN.out.1 k hkc 1 (by omega))
      have c2 := (hce _).trans (HN.out.1 k hkc 2 (by omega))
      have c3 := (hce _).trans (HN.out.1 k hkc 3 (by omega))
      have d0 := (hce _).trans (HN.out.2.1 k hkc 0 (by omega))
      have d1 := (hce _).trans (HN.out.2.1 k hkc 1 (by omega))
      have d2 := (hce _).trans (HN.out.2.1 k hkc 2 (by omega))
      have d3 := (hce _).trans (HN.out.2.1 k hkc 3 (by omega))
      obtain ⟨⟨op, x, y, z⟩, hi⟩ : ∃ i, cs.getD k default = i := ⟨_, rfl⟩
      rw [hi] at c0 c1 c2 c3 d0 d1 d2 d3
      simp only [In.cell, Nat.add_zero] at c0 c1 c2 c3 d0 d1 d2 d3
      have hi0 : (0 : Int) ≤ (k : Int) := by omega
      have Hce : Hid (∀ a, wr.cell? a = w.cell? a) := hce
      have hs : len - (intOf (.int .i64 ((k + 1 : Nat) : Int))).toNat < len - (intOf (.int .i64 (k : Int))).toNat := by simp only [intOf, Int.toNat_natCast]; omega
      clear hce hi hkc
      go_wp2_with fail
      go_region
      all_goals
        go_wp2_with fail
        try rw [wrap_inc (by omega) HM.out]
        exact ⟨⟨k + 1, by omega, rfl, hnx.drew, Hce.out⟩, hs⟩
    · go_wp2_with fail
      go_ret
      exact ⟨rfl, hnx⟩

theorem hrCode_any {v v' : Value} {cs : List In} (w : World) (hm : cs.length ≤ 1048576) (h : InsSlice w v cs) (h' : InsSlice w v' cs) :
    Calls Try.prog 8 #[v, v'] w fun e w' => e = .returned (.bool true) ∧ Below w.heap.size w w' := by
  obtain ⟨ad, cap, rfl, h⟩ := h
  obtain ⟨ad', cap', rfl, h'⟩ := h'
  by_cases h0 : cs = []
  · subst h0
    exact hrCode_none ad ad' cap cap' w
  · obtain ⟨g, o, rfl, -, hr⟩ := h.resolve_left h0
    obtain ⟨g', o', rfl, -, hr'⟩ := h'.resolve_left h0
    exact hrCode_rows g o g' o' cap cap' cs w hr hr' hm
end Go.Proofs.Ytnbmhopoiijhoaa

/- Drawn code, longer now and then; drawn bytes. -/
namespace Go.Proofs.Ytnbmhopoiijhoaa
open Go.RowKit Go.Deep

def lenOf : Value → Nat
  | .slice _ n _ => n
  | _ => 0

theorem insS_of {W : World} {B : Nat} {v : Value} {cs : List In} (h : W.ownsRow B 37 4 v cs.length (rowZ In.cell 4 cs)) : InsSlice W v cs := by
  have h' := h
  obtain ⟨-, ⟨rfl, h0⟩ | ⟨g, cap, cur, rfl, hB, hc, hr⟩⟩ := h
  · exact ⟨none, 0, by rw [h0], Or.inl (List.eq_nil_of_length_eq_zero h0)⟩
  · exact ⟨_, cap, rfl, Or.inr ⟨g, 0, rfl, heap_lt hc, ins_at h'⟩⟩

def DrawnK (W : World) (e : Ending) (W' : World) : Prop := ∃ v cs, e = .returned v ∧ InsSlice W' v cs ∧ cs.length ≤ 960000 ∧ Below W.heap.size W W'

def DrawnB (W : World) (e : Ending) (W' : World) : Prop := ∃ v bs, e = .returned v ∧ RawB W' v bs ∧ (∀ x ∈ bs, IsB x) ∧ Below W.heap.size W W'

/-- A row of one's own grows: the reader stays. -/
theorem rd_grown {d : Dr} {Y X X' : World} {p p0 : Nat} {v : Value} (h0 : Rdr d Y p0) (hr : Rdr d X p) (hg : Grew d Y X) (hgr : X.grownBy X' v.ownBlock) (hown : ∀ k, v.ownBlock = some k → Y.heap.size ≤ k) : Rdr d X' p ∧ Grew d Y X' := by
  have hB : d.B < Y.heap.size := heap_lt h0.blk
  have key : ∀ k, k < Y.heap.size → X'.heap[k]? = X.heap[k]? := fun k hk => hgr.block k (Nat.lt_of_lt_of_le hk hg.size) (fun e => by have := hown k e.symm; omega)
  refine ⟨⟨(key _ hB).trans hr.blk, fun hl => ?_⟩, ⟨hgr.os.trans hg.os, hgr.tape.trans hg.tape, hgr.output.trans hg.output, Nat.le_trans hg.size hgr.size, fun q hq => (key q hq.1).trans (hg.block q hq)⟩⟩
  obtain ⟨b, off, ea, hq, hz⟩ := hr.bytes hl
  have hbl := bytes_lowC h0 b off ea hl
  refine ⟨b, off, ea, ⟨Nat.lt_of_lt_of_le hq.1 hgr.size, hq.2⟩, fun i hi => ?_⟩
  obtain ⟨z, hz, h5⟩ := hz i hi
  exact ⟨z, (World.cell?_of_block (a := ⟨b, off + i, none⟩) (key b hbl)).trans hz, h5⟩

/-- The reader, newly opened. -/
theorem rdr_start (W : World) (a0 : Option Addr) (len cap m : Nat) (hm : m ≤ len) (hB : BytesAt W a0 len) : Rdr ⟨W.heap.size, W.heap.size, a0, m, cap⟩ (W.alloc (.cells #[.slice a0 m cap, .int .i64 0] 50)) 0 := by
  have hh := (MapKept.heap_alloc W (.cells #[.slice a0 m cap, .int .i64 0] 50)).1
  refine ⟨hh, fun h0 => ?_⟩
  obtain ⟨b, off, ea, hb, hz⟩ := hB (show 0 < len by have : 0 < m := h0; omega)
  refine ⟨b, off, ea, ⟨by simp; omega, by show b ≠ W.heap.size; omega, by show b ≠ W.heap.size; omega⟩, fun i hi => ?_⟩
  obtain ⟨z, hz, h1⟩ := hz i (by have : i < m := hi; omega)
  exact ⟨z, (((Below.refl W.heap.size W).alloc (Nat.le_refl _) _).cell (p := ⟨b, off + i, none⟩) hb).trans hz, h1⟩

set_option maxHeartbeats 4000000 in
set_option maxRecDepth 100000 in
theorem drawBytes_calls (a0 : Option Addr) (len cap : Nat) (W : World) (hl : len ≤ 1048576) (hc : len ≤ cap) (hB : BytesAt W a0 len) : Calls Try.prog 4 #[.slice a0 len cap] W (DrawnK W) := by
  have HO := hid (ropen_calls a0 len cap W (by omega) hc)
  have HB := hid hB
  clear hB
  go_enter Try.func4, Try.ntmps4
  go_wp2_with fail
  refine HO.out.mono ?_
  rintro e W1 ⟨rfl, m, hm, rfl⟩
  have HR := hid (rdr_start W a0 len cap m hm HB.out)
  have HW : Hid (Below W.heap.size W (W.alloc (.cells #[.slice a0 m cap, .int .i64 0] 50))) := (Below.refl _ _).alloc (Nat.le_refl _) _
  have HS : Hid ((W.alloc (.cells #[.slice a0 m cap, .int .i64 0] 50)).heap.size = W.heap.size + 1) := by show _ = _; simp
  obtain ⟨Y, hY⟩ : ∃ Y, W.alloc (.cells #[.slice a0 m cap, .int .i64 0] 50) = Y := ⟨_, rfl⟩
  rw [hY] at HR HW HS ⊢
  obtain ⟨d, hd⟩ : ∃ d : Dr, (⟨W.heap.size, W.heap.size, a0, m, cap⟩ : Dr) = d := ⟨_, rfl⟩
  have HD : Hid (d.B = W.heap.size ∧ d.G = W.heap.size) := by show _ ∧ _; rw [← hd]; exact ⟨rfl, rfl⟩
  rw [hd] at HR
  have HA := hid (code_calls (d := d) (HD.out.2.trans HD.out.1.symm) HR.out (by omega))
  rw [HD.out.1] at HA
  clear HO hm hY hd HB
  go_wp2_with fail
  refine HA.out.mono ?_
  rintro e W2 ⟨v, cs, q, rfl, hown, hlen, hrd, hq, hg⟩
  obtain ⟨av, cv, rfl⟩ := own_slice hown
  have HO := hid hown
  have HL := hid hlen
  have HRd := hid hrd
  have HQ := hid hq
  have HG := hid hg
  obtain ⟨L, hLL⟩ : ∃ L, cs.length = L := ⟨_, rfl⟩
  have HLL := hid hLL
  rw [hLL]
  clear hown hlen hrd hq hg HA hLL
  go_wp2_with fail
  have HP := hid (rdr_pick HRd.out (by have := HQ.out; omega) 60 (by decide))
  rw [HD.out.1] at HP
  refine HP.out.mono ?_
  rintro e W3 ⟨m6, rfl, hm0, hm1, hr3, hg3, -, -⟩
  have R3 := hid hr3
  have G3 := hid (HG.out.trans hg3)
  have O3 := hid (g_grew HO.out (by have := HD.out; have := HS.out; omega) (by have := HD.out; have := HS.out; omega) hg3)
  clear hr3 hg3 HP HO HG HRd
  by_cases h6 : m6 = 0
  · subst h6
    clear hm0 hm1
    go_wp2_with fail
    go_loopw [4] (fun c wr => ∃ (cs : List In) (L q j : Nat) (av : Option Addr) (cv : Nat), c = .slice av L cv ∧ Hid (cs.length = L) ∧ Hid (wr.ownsRow Y.heap.size 37 4 (.slice av L cv) cs.length (rowZ In.cell 4 cs)) ∧ Hid (cs.length ≤ 960000 ∧ q ≤ 200030 + j ∧ j ≤ cs.length ∧ j ≤ 1501) ∧ Hid (Rdr d wr q) ∧ Hid (Grew d Y wr)) (fun c _ => 1502 - lenOf c)
    case atStart => exact ⟨cs, L, q + 1, 0, av, cv, rfl, HLL, by rw [← HLL.out]; exact O3, ⟨by have := HL.out; omega, by have := HQ.out; omega, Nat.zero_le _, by omega⟩, R3, G3⟩
    case round =>
      clear HLL O3 HL R3 G3 HQ
      obtain ⟨cs, L, q, j, av, cv, rfl, HLL, HO, HI, HRd, HG⟩ := hrel
      have HP := hid (rdr_pick HRd.out (by have := HI.out; omega) 2 (by decide))
      rw [HD.out.1] at HP
      go_wp2_with fail
      refine HP.out.mono ?_
      rintro e W4 ⟨m2, rfl, h0, h1, hr4, hg4, -, -⟩
      have R4 := hid hr4
      have G4 := hid (HG.out.trans hg4)
      have O4 := hid (g_grew HO.out (by have := HD.out; have := HS.out; omega) (by have := HD.out; have := HS.out; omega) hg4)
      clear hr4 hg4 HP HO HG HRd
      by_cases hlt : (L : Int) < 1500 + m2
      · have HLt : Hid (L ≤ 1500) := by show _ ≤ _; omega
        have hstep : 1502 - lenOf (.slice none (L + 1) 0) < 1502 - lenOf (.slice none L 0) := by simp only [lenOf]; have := HLt.out; omega
        obtain ⟨i0, hi, hz0, hz1, hz2⟩ := info_parts info_insC
        have hD : Hid (Y.heap.size ≤ W4.heap.size) := G4.out.size
        go_wp2_with (first
          | (at_builtin; refine wpList_append_own _ rfl _ _ 23 rfl Y.heap.size 37 i0 (.agg #[.int .i64 0, .int .i64 0, .int .i64 0, .int .i64 0]) 4 32 Try.underlying23 hi hz0 hz1 hz2 rfl (by decide) _ _ _ rfl (World.ownsRow.alloc O4.out _) ⟨_, 0, none⟩ 1 1 [.int .i64 3, .int .i64 0, .int .i64 0, .int .i64 0] rfl rfl (cell_four_new _ _ rfl _ _ _ _ _) (fun u hu => by simp only [List.mem_cons, List.not_mem_nil, or_false] at hu; rcases hu with rfl | rfl | rfl | rfl <;> rfl) (by have := HLL.out; have := HLt.out; unfold maxLen; omega) (by have := HLL.out; have := HLt.out; omega) (by have := hD.out; simp; omega) ?_
             intro v' w3 hown3 hgrow3 _
             have HX3 : Hid (w3.ownsRow Y.heap.size 37 4 v' (L + 1) (rowZ In.cell 4 (cs ++ [⟨3, 0, 0, 0⟩]))) := by
               show World.ownsRow _ _ _ _ _ _ _
               rw [rowZ_app, ← HLL.out]
               exact hown3
             have hrg := rd_grown HR.out (R4.out.below ((Below.refl _ _).alloc (Nat.le_refl _) _)) (G4.out.alloc _) hgrow3 (fun k hk => (O4.out.lt k hk).1)
             have HRG := hid hrg
             clear hown3 hgrow3 hrg
             obtain ⟨av', cv', rfl⟩ := own_slice HX3.out))
        have HLn : Hid ((cs ++ [(⟨3, 0, 0, 0⟩ : In)]).length = L + 1) := by show _ = _; rw [List.length_append, HLL.out]; rfl
        exact ⟨⟨cs ++ [⟨3, 0, 0, 0⟩], L + 1, q + 1, j + 1, av', cv', rfl, HLn, by rw [HLn.out]; exact HX3, ⟨by rw [HLn.out]; have := HLt.out; omega, by have := HI.out; omega, by rw [HLn.out]; have := HI.out; have := HLL.out; omega, by have := HI.out; have := HLL.out; have := HLt.out; omega⟩, HRG.out.1, HRG.out.2⟩, hstep⟩
      · go_wp2_with fail
        go_ret
        exact ⟨_, cs, rfl, insS_of O4.out, by have := HI.out; omega, HW.out.trans (G4.out.below (by have := HW.out.size; omega) (by rw [HD.out.1]; exact Nat.le_refl _) (by rw [HD.out.2]; exact Nat.le_refl _))⟩
  · have h6' : (m6 == 0) = false := by simp [h6]
    go_wp2_with fail
    go_ret
    exact ⟨_, cs, rfl, insS_of (by rw [← HLL.out]; exact O3.out), HL.out, HW.out.trans (G3.out.below (by have := HW.out.size; omega) (by rw [HD.out.1]; exact Nat.le_refl _) (by rw [HD.out.2]; exact Nat.le_refl _))⟩
end Go.Proofs.Ytnbmhopoiijhoaa

/- Drawn bytes. -/
namespace Go.Proofs.Ytnbmhopoiijhoaa
open Go.RowKit Go.Deep

/-- A byte of one's own row is written. -/
theorem owns_byte {B g cap k : Nat} {X : World} {bs : List Int} (h : OwnsB B X (.slice (some ⟨g, 0, none⟩) bs.length cap) bs) (x : Int) : OwnsB B (X.setCell ⟨g, k, none⟩ (.int .u8 x)) (.slice (some ⟨g, 0, none⟩) bs.length cap) (bs.set k x) := by
  unfold OwnsB at h ⊢
  rw [List.length_set, List.map_set]
  exact (World.ownsRow.stored h k (.int .u8 x)).1

theorem set_isB {bs : List Int} {k : Nat} {x : Int} (h : ∀ y ∈ bs, IsB y) (hx : IsB x) : ∀ y ∈ bs.set k x, IsB y := fun y hy => by
  rcases List.mem_or_eq_of_mem_set hy with h1 | rfl
  · exact h y h1
  · exact hx

theorem raw_take {B : Nat} {W : World} {bs : List Int} {g cap k : Nat} (h : OwnsB B W (.slice (some ⟨g, 0, none⟩) bs.length cap) bs) (hk : k ≤ bs.length) : RawB W (.slice (some ⟨g, 0, none⟩) k cap) (bs.take k) := by
  obtain ⟨ad, cap', e, hc, h'⟩ := raw_of_owns h
  cases e
  have hl : (bs.take k).length = k := by rw [List.length_take]; omega
  refine ⟨_, cap, by rw [hl], by omega, ?_⟩
  rcases h' with rfl | ⟨g', off, e, hg, hn⟩
  · exact Or.inl (by simp)
  · cases e
    exact Or.inr ⟨g, 0, rfl, hg, hn.take k⟩

theorem shl_fits {m : Int} (h0 : 0 ≤ m) (h1 : m < 8) : IntKind.u8.wrap (2 ^ m.toNat) = 2 ^ m.toNat := by
  have h : m = 0 ∨ m = 1 ∨ m = 2 ∨ m = 3 ∨ m = 4 ∨ m = 5 ∨ m = 6 ∨ m = 7 := by omega
  rcases h with rfl | rfl | rfl | rfl | rfl | rfl | rfl | rfl <;> rfl

set_option maxHeartbeats 8000000 in
set_option maxRecDepth 100000 in
theorem drawRead_calls (a0 : Option Addr) (len cap : Nat) (W : World) (hl : len ≤ 1048576) (hc : len ≤ cap) (hB : BytesAt W a0 len) : Calls Try.prog 9 #[.slice a0 len cap] W (DrawnB W) := by
  have HO := hid (ropen_calls a0 len cap W (by omega) hc)
  have HB := hid hB
  clear hB
  go_enter Try.func9, Try.ntmps9
  go_wp2_with fail
  refine HO.out.mono ?_
  rintro e W1 ⟨rfl, m, hm, rfl⟩
  have HR := hid (rdr_start W a0 len cap m hm HB.out)
  have HW : Hid (Below W.heap.size W (W.alloc (.cells #[.slice a0 m cap, .int .i64 0] 50))) := (Below.refl _ _).alloc (Nat.le_refl _) _
  have HS : Hid ((W.alloc (.cells #[.slice a0 m cap, .int .i64 0] 50)).heap.size = W.heap.size + 1) := by show _ = _; simp
  obtain ⟨Y, hY⟩ : ∃ Y, W.alloc (.cells #[.slice a0 m cap, .int .i64 0] 50) = Y := ⟨_, rfl⟩
  rw [hY] at HR HW HS ⊢
  obtain ⟨d, hd⟩ : ∃ d : Dr, (⟨W.heap.size, W.heap.size, a0, m, cap⟩ : Dr) = d := ⟨_, rfl⟩
  have HD : Hid (d.B = W.heap.size ∧ d.G = W.heap.size) := by show _ ∧ _; rw [← hd]; exact ⟨rfl, rfl⟩
  rw [hd] at HR
  have HA := hid (code_calls (d := d) (HD.out.2.trans HD.out.1.symm) HR.out (by omega))
  rw [HD.out.1] at HA
  clear HO hm hY hd HB
  go_wp2_with fail
  refine HA.out.mono ?_
  rintro e W2 ⟨v, cs, q, rfl, hown, -, hrd, hq, hg⟩
  have HCb := hid (specBytes_any W2 (insS_of hown))
  have HRd := hid hrd
  have HQ := hid hq
  have HG := hid hg
  obtain ⟨av, cv, rfl⟩ := own_slice hown
  clear hown hrd hq hg HA
  go_wp2_with fail
  refine HCb.out.mono ?_
  rintro e W3 ⟨⟨vb, rfl, hvb⟩, hb3⟩
  obtain ⟨bs, hbs⟩ : ∃ bs, (if codeOkZ cs then codeBytesZ cs else []) = bs := ⟨_, rfl⟩
  rw [hbs] at hvb
  have HIs : Hid (∀ x ∈ bs, IsB x) := by
    show ∀ x, _
    rw [← hbs]
    split
    · exact enc_isB cs
    · intro x hx; cases hx
  have HLn : Hid (bs.length ≤ 20000) := by
    show _ ≤ _
    rw [← hbs]
    split
    · rename_i h
      unfold codeOkZ at h
      rw [Bool.and_eq_true] at h
      have h1 := of_decide_eq_true h.1
      have h2 := code_length cs
      simp only [codeBytesZ, headBytes, List.length_append, List.length_cons, List.length_nil]
      omega
    · exact Nat.zero_le _
  generalize codeOkZ cs = okc at *
  have O3 : Hid (OwnsB Y.heap.size W3 vb bs) := hvb.mono HG.out.size
  have R3 := hid (HRd.out.below hb3)
  have G3 := hid (HG.out.trans (Grew.of_below hb3))
  clear hvb hb3 hbs HCb HRd HG
  have FIN : Hid (∀ (v : Value) (bs : List Int) (X : World), RawB X v bs → (∀ x ∈ bs, IsB x) → Grew d Y X → DrawnB W (.returned v) X) := fun v bs X h1 h2 h3 =>
    ⟨v, bs, rfl, h1, h2, HW.out.trans (h3.below (by have := HW.out.size; omega) (by rw [HD.out.1]; exact Nat.le_refl _) (by rw [HD.out.2]; exact Nat.le_refl _))⟩
  obtain ⟨n, hn⟩ : ∃ n, bs.length = n := ⟨_, rfl⟩
  have HN := hid hn
  obtain ⟨ab, cb, rfl⟩ := own_slice O3.out
  rw [hn] at O3 HLn ⊢
  clear hn
  by_cases h0 : (0 : Int) < (n : Int)
  case neg =>
    have hn0 : n = 0 := by omega
    subst hn0
    go_wp2_with fail
    go_ret
    exact FIN.out _ bs _ (raw_of_owns O3.out) HIs.out G3.out
  obtain ⟨g, hgv⟩ : ∃ g, ab = some ⟨g, 0, none⟩ := by
    have h1 := HN.out
    obtain ⟨-, ⟨-, h2⟩ | ⟨g, cap, cur, e, -⟩⟩ := O3.out
    · omega
    · cases e
      exact ⟨g, rfl⟩
  subst hgv
  have HP := hid (rdr_pick R3.out (by have := HQ.out; omega) 8 (by decide))
  rw [HD.out.1] at HP
  go_wp2_with fail
  refine HP.out.mono ?_
  rintro e W4 ⟨m8, rfl, hm0, hm1, hr4, hg4, -, -⟩
  have R4 := hid hr4
  have G4 := hid (G3.out.trans hg4)
  have O4 : Hid (OwnsB Y.heap.size W4 (.slice (some ⟨g, 0, none⟩) n cb) bs) := g_grew O3.out (by have := HD.out; have := HS.out; omega) (by have := HD.out; have := HS.out; omega) hg4
  clear hr4 hg4 HP O3 R3 G3
  by_cases e0 : m8 = 0
  · subst e0
    clear hm0 hm1
    have HP := hid (rdr_pick R4.out (by have := HQ.out; omega) (n : Int) h0)
    rw [HD.out.1] at HP
    go_wp2_with fail
    refine HP.out.mono ?_
    rintro e W5 ⟨mk, rfl, hk0, hk1, hr5, hg5, -, -⟩
    obtain ⟨k, rfl⟩ : ∃ k : Nat, mk = (k : Int) := ⟨mk.toNat, by omega⟩
    have R5 := hid hr5
    have G5 := hid (G4.out.trans hg5)
    have O5 : Hid (OwnsB Y.heap.size W5 (.slice (some ⟨g, 0, none⟩) n cb) bs) := g_grew O4.out (by have := HD.out; have := HS.out; omega) (by have := HD.out; have := HS.out; omega) hg5
    clear hr5 hg5 HP O4 R4 G4
    have HCe : Hid (∀ X, OwnsB Y.heap.size X (.slice (some ⟨g, 0, none⟩) n cb) bs → X.cell? ⟨g, k, none⟩ = some (.int .u8 (bs.getD k 0))) := fun X h => by
      have hkn : k < bs.length := by have := HN.out; omega
      have h' : OwnsB Y.heap.size X (.slice (some ⟨g, 0, none⟩) bs.length cb) bs := by
        rw [← HN.out] at h
        exact h
      rw [World.ownsRow.cellAt h' k (by omega)]
      simp [List.getD, hkn]
    have HFz : Hid (∀ X, OwnsB Y.heap.size X (.slice (some ⟨g, 0, none⟩) n cb) bs → X.frozen? ⟨g, k, none⟩ = false) := fun X h => by
      obtain ⟨-, cur, h2⟩ := g_type h (g := g) rfl
      exact frozen_of_heap h2 k
    have HSt : Hid (∀ X y, OwnsB Y.heap.size X (.slice (some ⟨g, 0, none⟩) n cb) bs → Grew d Y X → OwnsB Y.heap.size (X.setCell ⟨g, k, none⟩ (.int .u8 y)) (.slice (some ⟨g, 0, none⟩) n cb) (bs.set k y) ∧ Grew d Y (X.setCell ⟨g, k, none⟩ (.int .u8 y))) := fun X y h hg => by
      have hgl := (World.ownsRow.lt h g rfl).1
      have h3 := HN.out
      refine ⟨by rw [← h3] at h ⊢; exact owns_byte h y, ⟨hg.os, hg.tape, hg.output, by simpa [World.setCell] using hg.size, fun q hq => (Below.heap_setCell X ⟨g, k, none⟩ _ q (by have := hq.1; dsimp only; omega)).trans (hg.block q hq)⟩⟩
    obtain ⟨x, hx⟩ : ∃ x, bs.getD k 0 = x := ⟨_, rfl⟩
    rw [hx] at HCe
    clear hx
    go_upto_region 7 with fail
    have hD : Below W5.heap.size W5 W5.drew := (Below.refl _ _).drew
    obtain ⟨D, hDe⟩ : ∃ D, W5.drew = D := ⟨_, rfl⟩
    rw [hDe] at hD
    have RD := hid (R5.out.below hD)
    have GD := hid (G5.out.trans (Grew.of_below hD))
    have OD : Hid (OwnsB Y.heap.size D (.slice (some ⟨g, 0, none⟩) n cb) bs) := kept_owns O5.out hD
    have HPk := hid (rdr_pick RD.out (by have := HQ.out; omega) 8 (by decide))
    rw [HD.out.1] at HPk
    refine pick_begin (S := fun _ => True) (by kernel_rfl) rfl rfl ?_
    rw [hDe]
    clear hDe hD O5 R5 G5
    refine pick_op (i := 0) (v := .slice (some ⟨g, 0, none⟩) n cb) (by kernel_rfl) rfl (by kernel_rfl) (by kernel_rfl) rfl rfl (fun w' _ => by simp [go_sem]) trivial (by simp [go_sem]; exact rfl) ?_
    refine pick_op (i := 1) (v := .int .i64 (k : Int)) (by kernel_rfl) rfl (by kernel_rfl) (by kernel_rfl) rfl rfl (fun w' _ => by simp [go_sem]) trivial (by simp [go_sem]; exact rfl) ?_
    refine pick_op (i := 2) (v := .slice (some ⟨g, 0, none⟩) n cb) (by kernel_rfl) rfl (by kernel_rfl) (by kernel_rfl) rfl rfl (fun w' _ => by simp [go_sem]) trivial (by simp [go_sem]; exact rfl) ?_
    refine pick_op (i := 3) (v := .int .i64 (k : Int)) (by kernel_rfl) rfl (by kernel_rfl) (by kernel_rfl) rfl rfl (fun w' _ => by simp [go_sem]) trivial (by simp [go_sem]; exact rfl) ?_
    refine pick_op (i := 4) (v := .pointer (some ⟨g, k, none⟩)) (by kernel_rfl) rfl (by kernel_rfl) (by kernel_rfl) rfl rfl (fun w' _ => by simp [go_sem, hk0, hk1]) trivial (by simp [go_sem]; exact rfl) ?_
    refine pick_op (i := 6) (v := .pointer (some ⟨W.heap.size, 0, none⟩)) (by kernel_rfl) rfl (by kernel_rfl) (by kernel_rfl) rfl rfl (fun w' _ => by simp [go_sem]) trivial (by simp [go_sem]; exact rfl) ?_
    refine pick_either (i := 5) (j := 7) (by kernel_rfl) ?_ ?_
    · have c1 := HCe.out D OD.out
      refine ⟨_, .int .u8 x, D, rfl, rfl, by simp [go_sem, c1], trivial, ?_⟩
      refine pick_frame (by simp [go_sem]; exact rfl) ?_
      clear c1
      refine pick_enter (i := 7) (f := 13) (args := #[.pointer (some ⟨W.heap.size, 0, none⟩), .int .i64 8]) rfl (by kernel_rfl) rfl rfl (by simp [go_sem]) ?_
      refine HPk.out.mono ?_
      rintro e W7 ⟨m9, rfl, hm0, hm1, hr7, hg7, -, ho7⟩
      have O7 : Hid (OwnsB Y.heap.size W7 (.slice (some ⟨g, 0, none⟩) n cb) bs) := g_grew OD.out (by have := HD.out; have := HS.out; omega) (by have := HD.out; have := HS.out; omega) hg7
      have G7 := hid (GD.out.trans hg7)
      clear hr7 hg7 ho7
      refine ⟨_, rfl, trivial, ?_⟩
      refine pick_frame (by simp [go_sem]; exact rfl) ?_
      have c1 := HCe.out W7 O7.out
      have z1 := HFz.out W7 O7.out
      refine pick_op (i := 8) (v := .int .u8 (2 ^ m9.toNat)) (by kernel_rfl) rfl (by kernel_rfl) (by kernel_rfl) rfl rfl (fun w' _ => by simp [go_sem]; exact shl_fits hm0 hm1) trivial (by simp [go_sem]; exact rfl) ?_
      obtain ⟨sh, hsh⟩ : ∃ z : Int, (2 : Int) ^ m9.toNat = z := ⟨_, rfl⟩
      rw [hsh]
      clear hsh
      refine pick_op (i := 9) (v := .int .u8 (bits .xor .u8 x sh)) (by kernel_rfl) rfl (by kernel_rfl) (by kernel_rfl) rfl rfl (fun w' _ => by simp [go_sem]) trivial (by simp [go_sem]; exact rfl) ?_
      have HBy : Hid (IsB (bits .xor .u8 x sh)) := ⟨bits_lo_u8 _ _ _, by have := bits_hi_u8 .xor x sh; omega⟩
      obtain ⟨by_, hby⟩ : ∃ z : Int, bits .xor .u8 x sh = z := ⟨_, rfl⟩
      rw [hby] at HBy ⊢
      clear hby
      refine pick_op (i := 10) (v := .pointer (some ⟨g, k, none⟩)) (by kernel_rfl) rfl (by kernel_rfl) (by kernel_rfl) rfl rfl (fun w' _ => by simp [go_sem, hk0, hk1]) trivial (by simp [go_sem]; exact rfl) ?_
      refine pick_skip (i := 11) rfl (w1 := W7.setCell ⟨g, k, none⟩ (.int .u8 by_)) rfl (by kernel_rfl) rfl rfl (by simp [go_sem, c1, z1]) trivial ?_
      refine pick_end (by kernel_rfl) ?_
      have HQ8 := hid (HSt.out W7 by_ O7.out G7.out)
      generalize W7.setCell ⟨g, k, none⟩ (.int .u8 by_) = Z at *
      clear c1 z1
      go_wp2_with fail
      go_ret
      exact FIN.out _ (bs.set k by_) _ (raw_of_owns HQ8.out.1) (set_isB HIs.out HBy.out) HQ8.out.2
    · refine ⟨_, 13, #[.pointer (some ⟨W.heap.size, 0, none⟩), .int .i64 8], rfl, rfl, by simp [go_sem], ?_⟩
      refine HPk.out.mono ?_
      rintro e W7 ⟨m9, rfl, hm0, hm1, hr7, hg7, -, ho7⟩
      have O7 : Hid (OwnsB Y.heap.size W7 (.slice (some ⟨g, 0, none⟩) n cb) bs) := g_grew OD.out (by have := HD.out; have := HS.out; omega) (by have := HD.out; have := HS.out; omega) hg7
      have G7 := hid (GD.out.trans hg7)
      clear hr7 hg7 ho7
      refine ⟨_, rfl, trivial, ?_⟩
      refine pick_frame (by simp [go_sem]; exact rfl) ?_
      have c1 := HCe.out W7 O7.out
      have z1 := HFz.out W7 O7.out
      refine pick_op (i := 8) (v := .int .u8 (2 ^ m9.toNat)) (by kernel_rfl) rfl (by kernel_rfl) (by kernel_rfl) rfl rfl (fun w' _ => by simp [go_sem]; exact shl_fits hm0 hm1) trivial (by simp [go_sem]; exact rfl) ?_
      refine pick_make (i := 5) (v := .int .u8 x) (w1 := W7) rfl (by kernel_rfl) rfl rfl (by simp [go_sem, c1]) trivial (by simp [go_sem]; exact rfl) ?_
      obtain ⟨sh, hsh⟩ : ∃ z : Int, (2 : Int) ^ m9.toNat = z := ⟨_, rfl⟩
      rw [hsh]
      clear hsh
      refine pick_op (i := 9) (v := .int .u8 (bits .xor .u8 x sh)) (by kernel_rfl) rfl (by kernel_rfl) (by kernel_rfl) rfl rfl (fun w' _ => by simp [go_sem]) trivial (by simp [go_sem]; exact rfl) ?_
      have HBy : Hid (IsB (bits .xor .u8 x sh)) := ⟨bits_lo_u8 _ _ _, by have := bits_hi_u8 .xor x sh; omega⟩
      obtain ⟨by_, hby⟩ : ∃ z : Int, bits .xor .u8 x sh = z := ⟨_, rfl⟩
      rw [hby] at HBy ⊢
      clear hby
      refine pick_op (i := 10) (v := .pointer (some ⟨g, k, none⟩)) (by kernel_rfl) rfl (by kernel_rfl) (by kernel_rfl) rfl rfl (fun w' _ => by simp [go_sem, hk0, hk1]) trivial (by simp [go_sem]; exact rfl) ?_
      refine pick_skip (i := 11) rfl (w1 := W7.setCell ⟨g, k, none⟩ (.int .u8 by_)) rfl (by kernel_rfl) rfl rfl (by simp [go_sem, c1, z1]) trivial ?_
      refine pick_end (by kernel_rfl) ?_
      have HQ8 := hid (HSt.out W7 by_ O7.out G7.out)
      generalize W7.setCell ⟨g, k, none⟩ (.int .u8 by_) = Z at *
      clear c1 z1
      go_wp2_with fail
      go_ret
      exact FIN.out _ (bs.set k by_) _ (raw_of_owns HQ8.out.1) (set_isB HIs.out HBy.out) HQ8.out.2
  by_cases e1 : m8 = 1
  · subst e1
    clear hm0 hm1 e0
    have HP := hid (rdr_pick R4.out (by have := HQ.out; omega) (n : Int) h0)
    rw [HD.out.1] at HP
    go_wp2_with fail
    refine HP.out.mono ?_
    rintro e W5 ⟨mk, rfl, hk0, hk1, hr5, hg5, -, -⟩
    obtain ⟨k, rfl⟩ : ∃ k : Nat, mk = (k : Int) := ⟨mk.toNat, by omega⟩
    have G5 := hid (G4.out.trans hg5)
    have O5 : Hid (OwnsB Y.heap.size W5 (.slice (some ⟨g, 0, none⟩) n cb) bs) := g_grew O4.out (by have := HD.out; have := HS.out; omega) (by have := HD.out; have := HS.out; omega) hg5
    have HCp : (n : Int) ≤ (cb : Int) := by
      obtain ⟨ad, cap', e, hc, -⟩ := raw_of_owns O4.out
      cases e
      have := HN.out
      omega
    clear hr5 hg5 HP O4 R4 G4
    go_wp2_with fail
    go_ret
    exact FIN.out _ (bs.take k) _ (raw_take (by rw [HN.out]; exact O5.out) (by have := HN.out; omega)) (fun x hx => HIs.out x (List.mem_of_mem_take hx)) G5.out
  by_cases e2 : m8 = 2
  · subst e2
    clear hm0 hm1 e0 e1
    have HP := hid (rdr_pick R4.out (by have := HQ.out; omega) 30 (by decide))
    rw [HD.out.1] at HP
    go_wp2_with fail
    refine HP.out.mono ?_
    rintro e W5 ⟨mk, rfl, hk0, hk1, hr5, hg5, -, -⟩
    have R5 := hid hr5
    have G5 := hid (G4.out.trans hg5)
    have O5 : Hid (OwnsB Y.heap.size W5 (.slice (some ⟨g, 0, none⟩) n cb) bs) := g_grew O4.out (by have := HD.out; have := HS.out; omega) (by have := HD.out; have := HS.out; omega) hg5
    clear hr5 hg5 HP O4 R4 G4
    obtain ⟨i0, hi, hz0, hz1, hz2⟩ := info_parts info_byte
    have hD : Hid (Y.heap.size ≤ W5.heap.size) := G5.out.size
    have HMk : Hid (IsB mk) := ⟨hk0, by omega⟩
    go_wp2_with (first
      | (at_builtin; refine wpList_append_own _ rfl _ _ 22 rfl Y.heap.size 5 i0 (.int .u8 0) 1 1 Try.underlying22 hi hz0 hz1 hz2 rfl (by decide) _ _ _ rfl (World.ownsRow.alloc O5.out _) ⟨_, 0, none⟩ 1 1 [.int .u8 mk] rfl rfl (cell_oneC _ _ rfl _ _) (fun u hu => by rw [List.mem_singleton] at hu; subst hu; rfl) (by have := HN.out; have := HLn.out; unfold maxLen; omega) (by have := HN.out; have := HLn.out; omega) (by have := hD.out; simp; omega) ?_
         intro v' w3 hown3 hgrow3 _
         have HX3 : Hid (OwnsB Y.heap.size w3 v' (bs ++ [mk])) := OwnsB.more (ns := [mk]) hown3 rfl rfl
         have hrg := rd_grown HR.out (R5.out.below ((Below.refl _ _).alloc (Nat.le_refl _) _)) (G5.out.alloc _) hgrow3 (fun k hk => (World.ownsRow.lt O5.out k hk).1)
         have HRG := hid hrg
         clear hown3 hgrow3 hrg))
    go_ret
    refine FIN.out _ (bs ++ [mk]) _ (raw_of_owns HX3.out) (fun x hx => ?_) HRG.out.2
    rcases List.mem_append.1 hx with h | h
    · exact HIs.out x h
    · rw [List.mem_singleton] at h
      subst h
      exact HMk.out
  · have z0 : (m8 == 0) = false := by simp [e0]
    have z1 : (m8 == 1) = false := by simp [e1]
    have z2 : (m8 == 2) = false := by simp [e2]
    clear e0 e1 e2
    go_wp2_with fail
    go_ret
    exact FIN.out _ bs _ (raw_of_owns O4.out) HIs.out G4.out
end Go.Proofs.Ytnbmhopoiijhoaa

/- The law of code that is written and read back, walked: whatever is drawn. -/
namespace Go.Proofs.Ytnbmhopoiijhoaa
open Go.RowKit Go.Deep

theorem insS_owns {B : Nat} {W : World} {v : Value} {cs : List In} (h : OwnsI B W v cs) : InsSlice W v cs := h.sliceR.insSlice

theorem read_len {bs : List Int} (hb : ∀ x ∈ bs, IsB x) : ((readZ bs).getD []).length ≤ 1500 := by
  cases h : readZ bs with
  | none => exact Nat.zero_le _
  | some c =>
    have h1 := (read_some hb h).1
    unfold codeOkZ at h1
    rw [Bool.and_eq_true] at h1
    exact of_decide_eq_true h1.1

theorem strS_same (S : ByteArray) : (S.toList != S.toList) = false := by simp
theorem strS_eq (S : ByteArray) : (S.toList == S.toList) = true := by simp

theorem raw_cut {W : World} {ad : Option Addr} {n cap k : Nat} {bs : List Int} (h : RawB W (.slice ad n cap) bs) (hk : k ≤ bs.length) : RawB W (.slice ad k cap) (bs.take k) := by
  obtain ⟨ad', cap', e, hc, h'⟩ := h
  cases e
  have hl : (bs.take k).length = k := by rw [List.length_take]; omega
  refine ⟨_, cap, by rw [hl], by omega, ?_⟩
  rcases h' with rfl | ⟨g, off, e, hg, hn⟩
  · exact Or.inl (by simp)
  · exact Or.inr ⟨g, off, e, hg, hn.take k⟩

def BackP (W : World) (e : Ending) (W' : World) : Prop := e = .returned (.bool true) ∧ Below W.heap.size W W'

/-- What the second half asks for, from any later world on. -/
structure RestB (W : World) (a1 : Option Addr) (len1 cap1 : Nat) : Prop where
  len : len1 ≤ 1048576
  cap : len1 ≤ cap1
  bytes : BytesAt W a1 len1

set_option maxHeartbeats 8000000 in
set_option maxRecDepth 100000 in
theorem back_walk (a0 a1 : Option Addr) (len cap len1 cap1 : Nat) (W : World) (hcap : len ≤ cap) (hcap1 : len1 ≤ cap1) (hB : BytesAt W a0 len) (hB1 : BytesAt W a1 len1) :
    Calls Try.prog 3 #[.slice a0 len cap, .slice a1 len1 cap1] W (BackP W) := by
  by_cases hl : (1048576 : Int) < (len : Int)
  · go_enter Try.func3, Try.ntmps3
    go_wp2_with fail
    go_ret
    exact ⟨rfl, Below.refl _ _⟩
  by_cases hl1 : (1048576 : Int) < (len1 : Int)
  · go_enter Try.func3, Try.ntmps3
    go_wp2_with fail
    go_ret
    exact ⟨rfl, Below.refl _ _⟩
  have HDr := hid (drawBytes_calls a0 len cap W (by omega) hcap hB)
  have HRs : Hid (RestB W a1 len1 cap1) := ⟨by omega, hcap1, hB1⟩
  have HLe : Hid ((len1 : Int) ≤ 1048576) := by show _ ≤ _; omega
  clear hB hB1 hcap hcap1
  go_enter Try.func3, Try.ntmps3
  go_wp2_with fail
  refine HDr.out.mono ?_
  rintro e W1 ⟨v, cs, rfl, hv, hc, hb1⟩
  obtain ⟨av, cv, rfl, -⟩ := id hv
  obtain ⟨L, hLL⟩ : ∃ L, cs.length = L := ⟨_, rfl⟩
  rw [hLL] at hv hc ⊢
  have HLL := hid hLL
  have HV := hid hv
  have HC := hid hc
  have HB1 := hid hb1
  have HI := hid (implBytes_any W1 hv)
  obtain ⟨BS, hBS⟩ : ∃ BS, (if codeOkZ cs then codeBytesZ cs else []) = BS := ⟨_, rfl⟩
  have HIs : Hid (∀ x ∈ BS, IsB x) := by
    show ∀ x, _
    rw [← hBS]
    split
    · exact enc_isB cs
    · intro x hx; cases hx
  have HBS := hid hBS
  obtain ⟨ok, hok⟩ : ∃ ok, codeOkZ cs = ok := ⟨_, rfl⟩
  have HOk := hid hok
  rw [hBS, hok] at HI
  clear HDr hv hc hb1 hl hl1 hLL hBS hok
  go_wp2_with fail
  refine HI.out.mono ?_
  rintro e W2 ⟨⟨vb, rfl, hvb⟩, hb2⟩
  have hrb := raw_of_out hvb
  obtain ⟨ab, cb, rfl, hcb, -⟩ := id hrb
  obtain ⟨nb, hnb⟩ : ∃ nb, BS.length = nb := ⟨_, rfl⟩
  have HNb := hid (And.intro hnb hcb)
  rw [hnb] at hrb ⊢
  have HRb := hid hrb
  have HV2 := hid (HV.out.below hb2)
  have HB2 := hid (HB1.out.trans (hb2.mono HB1.out.size))
  have HSp := hid (specBytes_any W2 HV2.out)
  rw [HBS.out, HOk.out] at HSp
  clear hvb hrb hb2 hcb hnb HV HB1 HI
  go_wp2_with fail
  refine HSp.out.mono ?_
  rintro e W3 ⟨⟨vw, rfl, hvw⟩, hb3⟩
  have hrw := raw_of_owns hvw
  obtain ⟨aw, cw, rfl, -, -⟩ := id hrw
  have HR3 := hid (HRb.out.below hb3)
  have HV3 := hid (HV2.out.below hb3)
  have HB3 := hid (HB2.out.trans (hb3.mono HB2.out.size))
  have hcv1 := raw_string HR3.out HIs.out
  have hcv2 := raw_string hrw HIs.out
  clear hvw hrw hb3 HV2 HB2 HRb HSp
  obtain ⟨nw, hnw⟩ : ∃ nw, BS.length = nw := ⟨_, rfl⟩
  rw [hnw] at hcv2 ⊢
  clear hnw
  obtain ⟨SB, hSB⟩ : ∃ SB, byteStr BS = SB := ⟨_, rfl⟩
  rw [hSB] at hcv1 hcv2
  clear hSB
  have hss := strS_same SB
  cases ok with
  | false =>
    go_wp2_with fail
    clear hcv1 hcv2 hss
    have HDr := hid (drawRead_calls a1 len1 cap1 W3 HRs.out.len HRs.out.cap (HRs.out.bytes.below HB3.out))
    refine HDr.out.mono ?_
    rintro e W6 ⟨vr, bs, rfl, hvr, hisb, hb6⟩
    obtain ⟨ar, cr, rfl, -, -⟩ := id hvr
    obtain ⟨nr, hnr⟩ : ∃ nr, bs.length = nr := ⟨_, rfl⟩
    rw [hnr] at hvr ⊢
    have HVr := hid hvr
    have HI6 := hid hisb
    have HB6 := hid (HB3.out.trans (hb6.mono HB3.out.size))
    have HIr := hid (implRead_any hvr hisb)
    clear hvr hisb hb6 hnr HDr
    go_wp2_with fail
    refine HIr.out.mono ?_
    rintro e W7 ⟨⟨vx, rfl, hvx⟩, hb7⟩
    have HX7 := hid (insS_owns hvx)
    obtain ⟨ax, cx, rfl, -⟩ := id HX7.out
    have HVr7 := hid (HVr.out.below hb7)
    have HB7 := hid (HB6.out.trans (hb7.mono HB6.out.size))
    have HSr := hid (specRead_any HVr7.out HI6.out)
    clear hvx hb7 HVr HB6 HIr
    obtain ⟨Z, hZ⟩ : ∃ Z, readZ bs = Z := ⟨_, rfl⟩
    have HZ := hid hZ
    rw [hZ] at HX7 HSr ⊢
    clear hZ
    go_wp2_with fail
    refine HSr.out.mono ?_
    rintro e W8 ⟨⟨vy, rfl, hvy⟩, hb8⟩
    have HY8 := hid (insS_owns hvy)
    obtain ⟨ay, cy, rfl, -⟩ := id HY8.out
    have HX8 := hid (HX7.out.below hb8)
    have HVr8 := hid (HVr7.out.below hb8)
    have HB8 := hid (HB7.out.trans (hb8.mono HB7.out.size))
    have HHr := hid (hrCode_any W8 (by rw [← HZ.out]; have := read_len HI6.out; omega) HX8.out HY8.out)
    clear hvy hb8 HX7 HVr7 HB7 HSr
    cases Z with
    | none =>
      simp only [Option.isSome_none, Option.getD_none, List.length_nil] at HHr ⊢
      go_wp2_with fail
      refine HHr.out.mono ?_
      rintro e W9 ⟨rfl, hb9⟩
      have HB9 := hid (HB8.out.trans (hb9.mono HB8.out.size))
      clear hb9
      go_wp2_with fail
      go_ret
      exact ⟨rfl, HB9.out⟩
    | some x =>
      simp only [Option.isSome_some, Option.getD_some] at HHr HX8 ⊢
      obtain ⟨lx, hlx⟩ : ∃ lx, x.length = lx := ⟨_, rfl⟩
      rw [hlx] at HHr HX8 ⊢
      clear hlx
      go_wp2_with fail
      refine HHr.out.mono ?_
      rintro e W9 ⟨rfl, hb9⟩
      have HX9 := hid (HX8.out.below hb9)
      have HVr9 := hid (HVr8.out.below hb9)
      have HB9 := hid (HB8.out.trans (hb9.mono HB8.out.size))
      have HIw := hid (implBytes_any W9 HX9.out)
      have h1 := read_some HI6.out HZ.out
      rw [h1.1, h1.2.1, if_pos rfl] at HIw
      clear hb9 HX8 HVr8 HB8 HHr h1
      go_wp2_with fail
      refine HIw.out.mono ?_
      rintro e W10 ⟨⟨vz, rfl, hvz⟩, hb10⟩
      have hrz := raw_of_out hvz
      obtain ⟨az, cz, rfl, -, -⟩ := id hrz
      have HB10 := hid (HB9.out.trans (hb10.mono HB9.out.size))
      have hcv1 := raw_string (HVr9.out.below hb10) HI6.out
      have hcv2 := raw_string hrz HI6.out
      clear hvz hrz hb10 HVr9 HB9 HIw HX9
      obtain ⟨nz, hnz⟩ : ∃ nz, bs.length = nz := ⟨_, rfl⟩
      rw [hnz] at hcv2 ⊢
      clear hnz
      obtain ⟨SZ, hSZ⟩ : ∃ SZ, byteStr bs = SZ := ⟨_, rfl⟩
      rw [hSZ] at hcv1 hcv2
      clear hSZ
      have hss := strS_eq SZ
      go_wp2_with fail
      go_ret
      exact ⟨rfl, HB10.out⟩
  | true =>
    have HBC : Hid (codeBytesZ cs = BS) := by
      show _ = _
      rw [← HBS.out, HOk.out]
      rfl
    have HRd := hid (implRead_any HR3.out HIs.out)
    have HZ : Hid (readZ BS = some cs) := by show _ = _; rw [← HBC.out]; exact read_back HOk.out
    rw [HZ.out] at HRd
    go_wp2_with fail
    clear hcv1 hcv2 hss
    refine HRd.out.mono ?_
    rintro e W4 ⟨⟨vd, rfl, hvd⟩, hb4⟩
    have hid4 := insS_owns hvd
    obtain ⟨ad, cd, rfl, -⟩ := id hid4
    have HV4 := hid (HV3.out.below hb4)
    have HR4 := hid (HR3.out.below hb4)
    have HB4 := hid (HB3.out.trans (hb4.mono HB3.out.size))
    have HH := hid (hrCode_any W4 (by have := HC.out; have := HLL.out; omega) HV4.out hid4)
    have hisS : (Option.isSome (some cs)) = true := rfl
    clear hvd hid4 hb4 HV3 HR3 HB3 HRd
    simp only [Option.getD_some, HLL.out] at HH ⊢
    go_wp2_with fail
    refine HH.out.mono ?_
    rintro e W5 ⟨rfl, hb5⟩
    have HV5 := hid (HV4.out.below hb5)
    have HR5 := hid (HR4.out.below hb5)
    have HB5 := hid (HB4.out.trans (hb5.mono HB4.out.size))
    clear hb5 HV4 HR4 HB4 HH hisS
    have hnb0 : (nb : Int) ≠ 0 := by
      have h1 := HNb.out.1
      rw [← HBC.out] at h1
      simp only [codeBytesZ, headBytes, List.length_append, List.length_cons, List.length_nil] at h1
      omega
    have hsl : (0 : Int) ≤ (len1 : Int) % (nb : Int) ∧ (len1 : Int) % (nb : Int) ≤ (cb : Int) := by
      have h1 := HNb.out
      have h2 := Int.emod_lt_of_pos (len1 : Int) (show (0 : Int) < (nb : Int) by omega)
      exact ⟨Int.emod_nonneg _ hnb0, by omega⟩
    have HKl : Hid (len1 % nb < nb) := Nat.mod_lt _ (by omega)
    go_wp2_with fail
    clear hsl hnb0
    obtain ⟨kk, hkk⟩ : ∃ kk, len1 % nb = kk := ⟨_, rfl⟩
    rw [hkk] at HKl ⊢
    clear hkk
    have HRt := hid (implRead_any (raw_cut HR5.out (by have := HNb.out; have := HKl.out; omega)) (fun x hx => HIs.out x (List.mem_of_mem_take hx)) (bs := BS.take kk))
    obtain ⟨Zq, hZq⟩ : ∃ Zq, readZ (BS.take kk) = Zq := ⟨_, rfl⟩
    have HZq := hid hZq
    rw [hZq] at HRt
    clear hZq
    refine HRt.out.mono ?_
    rintro e Wq ⟨⟨vq, rfl, hvq⟩, hbq⟩
    obtain ⟨aq, cq, rfl, -⟩ := id (insS_owns hvq)
    have HBq := hid (HB5.out.trans (hbq.mono HB5.out.size))
    clear hvq hbq HR5 HB5 HRt HV5
    cases Zq with
    | none =>
      simp only [Option.isSome_none, Option.getD_none, List.length_nil]
      go_wp2_with fail
      have HDr := hid (drawRead_calls a1 len1 cap1 Wq HRs.out.len HRs.out.cap (HRs.out.bytes.below HBq.out))
      refine HDr.out.mono ?_
      rintro e W6 ⟨vr, bs, rfl, hvr, hisb, hb6⟩
      obtain ⟨ar, cr, rfl, -, -⟩ := id hvr
      obtain ⟨nr, hnr⟩ : ∃ nr, bs.length = nr := ⟨_, rfl⟩
      rw [hnr] at hvr ⊢
      have HVr := hid hvr
      have HI6 := hid hisb
      have HB6 := hid (HBq.out.trans (hb6.mono HBq.out.size))
      have HIr := hid (implRead_any hvr hisb)
      clear hvr hisb hb6 hnr HDr
      go_wp2_with fail
      refine HIr.out.mono ?_
      rintro e W7 ⟨⟨vx, rfl, hvx⟩, hb7⟩
      have HX7 := hid (insS_owns hvx)
      obtain ⟨ax, cx, rfl, -⟩ := id HX7.out
      have HVr7 := hid (HVr.out.below hb7)
      have HB7 := hid (HB6.out.trans (hb7.mono HB6.out.size))
      have HSr := hid (specRead_any HVr7.out HI6.out)
      clear hvx hb7 HVr HB6 HIr
      obtain ⟨Z, hZ⟩ : ∃ Z, readZ bs = Z := ⟨_, rfl⟩
      have HZ := hid hZ
      rw [hZ] at HX7 HSr ⊢
      clear hZ
      go_wp2_with fail
      refine HSr.out.mono ?_
      rintro e W8 ⟨⟨vy, rfl, hvy⟩, hb8⟩
      have HY8 := hid (insS_owns hvy)
      obtain ⟨ay, cy, rfl, -⟩ := id HY8.out
      have HX8 := hid (HX7.out.below hb8)
      have HVr8 := hid (HVr7.out.below hb8)
      have HB8 := hid (HB7.out.trans (hb8.mono HB7.out.size))
      have HHr := hid (hrCode_any W8 (by rw [← HZ.out]; have := read_len HI6.out; omega) HX8.out HY8.out)
      clear hvy hb8 HX7 HVr7 HB7 HSr
      cases Z with
      | none =>
        simp only [Option.isSome_none, Option.getD_none, List.length_nil] at HHr ⊢
        go_wp2_with fail
        refine HHr.out.mono ?_
        rintro e W9 ⟨rfl, hb9⟩
        have HB9 := hid (HB8.out.trans (hb9.mono HB8.out.size))
        clear hb9
        go_wp2_with fail
        go_ret
        exact ⟨rfl, HB9.out⟩
      | some x =>
        simp only [Option.isSome_some, Option.getD_some] at HHr HX8 ⊢
        obtain ⟨lx, hlx⟩ : ∃ lx, x.length = lx := ⟨_, rfl⟩
        rw [hlx] at HHr HX8 ⊢
        clear hlx
        go_wp2_with fail
        refine HHr.out.mono ?_
        rintro e W9 ⟨rfl, hb9⟩
        have HX9 := hid (HX8.out.below hb9)
        have HVr9 := hid (HVr8.out.below hb9)
        have HB9 := hid (HB8.out.trans (hb9.mono HB8.out.size))
        have HIw := hid (implBytes_any W9 HX9.out)
        have h1 := read_some HI6.out HZ.out
        rw [h1.1, h1.2.1, if_pos rfl] at HIw
        clear hb9 HX8 HVr8 HB8 HHr h1
        go_wp2_with fail
        refine HIw.out.mono ?_
        rintro e W10 ⟨⟨vz, rfl, hvz⟩, hb10⟩
        have hrz := raw_of_out hvz
        obtain ⟨az, cz, rfl, -, -⟩ := id hrz
        have HB10 := hid (HB9.out.trans (hb10.mono HB9.out.size))
        have hcv1 := raw_string (HVr9.out.below hb10) HI6.out
        have hcv2 := raw_string hrz HI6.out
        clear hvz hrz hb10 HVr9 HB9 HIw HX9
        obtain ⟨nz, hnz⟩ : ∃ nz, bs.length = nz := ⟨_, rfl⟩
        rw [hnz] at hcv2 ⊢
        clear hnz
        obtain ⟨SZ, hSZ⟩ : ∃ SZ, byteStr bs = SZ := ⟨_, rfl⟩
        rw [hSZ] at hcv1 hcv2
        clear hSZ
        have hss := strS_eq SZ
        go_wp2_with fail
        go_ret
        exact ⟨rfl, HB10.out⟩
    | some xq =>
      have hlt : (xq.length : Int) < (L : Int) := by
        have h1 := HZq.out
        rw [← HBC.out] at h1
        have h2 := read_part HOk.out (by rw [HBC.out]; have := HNb.out; have := HKl.out; omega) h1 (by rw [HBC.out]; exact HIs.out)
        have := HLL.out
        omega
      simp only [Option.isSome_some, Option.getD_some]
      obtain ⟨lq, hlq⟩ : ∃ lq, xq.length = lq := ⟨_, rfl⟩
      rw [hlq] at hlt ⊢
      clear hlq
      go_wp2_with fail
      clear hlt
      have HDr := hid (drawRead_calls a1 len1 cap1 Wq HRs.out.len HRs.out.cap (HRs.out.bytes.below HBq.out))
      refine HDr.out.mono ?_
      rintro e W6 ⟨vr, bs, rfl, hvr, hisb, hb6⟩
      obtain ⟨ar, cr, rfl, -, -⟩ := id hvr
      obtain ⟨nr, hnr⟩ : ∃ nr, bs.length = nr := ⟨_, rfl⟩
      rw [hnr] at hvr ⊢
      have HVr := hid hvr
      have HI6 := hid hisb
      have HB6 := hid (HBq.out.trans (hb6.mono HBq.out.size))
      have HIr := hid (implRead_any hvr hisb)
      clear hvr hisb hb6 hnr HDr
      go_wp2_with fail
      refine HIr.out.mono ?_
      rintro e W7 ⟨⟨vx, rfl, hvx⟩, hb7⟩
      have HX7 := hid (insS_owns hvx)
      obtain ⟨ax, cx, rfl, -⟩ := id HX7.out
      have HVr7 := hid (HVr.out.below hb7)
      have HB7 := hid (HB6.out.trans (hb7.mono HB6.out.size))
      have HSr := hid (specRead_any HVr7.out HI6.out)
      clear hvx hb7 HVr HB6 HIr
      obtain ⟨Z, hZ⟩ : ∃ Z, readZ bs = Z := ⟨_, rfl⟩
      have HZ := hid hZ
      rw [hZ] at HX7 HSr ⊢
      clear hZ
      go_wp2_with fail
      refine HSr.out.mono ?_
      rintro e W8 ⟨⟨vy, rfl, hvy⟩, hb8⟩
      have HY8 := hid (insS_owns hvy)
      obtain ⟨ay, cy, rfl, -⟩ := id HY8.out
      have HX8 := hid (HX7.out.below hb8)
      have HVr8 := hid (HVr7.out.below hb8)
      have HB8 := hid (HB7.out.trans (hb8.mono HB7.out.size))
      have HHr := hid (hrCode_any W8 (by rw [← HZ.out]; have := read_len HI6.out; omega) HX8.out HY8.out)
      clear hvy hb8 HX7 HVr7 HB7 HSr
      cases Z with
      | none =>
        simp only [Option.isSome_none, Option.getD_none, List.length_nil] at HHr ⊢
        go_wp2_with fail
        refine HHr.out.mono ?_
        rintro e W9 ⟨rfl, hb9⟩
        have HB9 := hid (HB8.out.trans (hb9.mono HB8.out.size))
        clear hb9
        go_wp2_with fail
        go_ret
        exact ⟨rfl, HB9.out⟩
      | some x =>
        simp only [Option.isSome_some, Option.getD_some] at HHr HX8 ⊢
        obtain ⟨lx, hlx⟩ : ∃ lx, x.length = lx := ⟨_, rfl⟩
        rw [hlx] at HHr HX8 ⊢
        clear hlx
        go_wp2_with fail
        refine HHr.out.mono ?_
        rintro e W9 ⟨rfl, hb9⟩
        have HX9 := hid (HX8.out.below hb9)
        have HVr9 := hid (HVr8.out.below hb9)
        have HB9 := hid (HB8.out.trans (hb9.mono HB8.out.size))
        have HIw := hid (implBytes_any W9 HX9.out)
        have h1 := read_some HI6.out HZ.out
        rw [h1.1, h1.2.1, if_pos rfl] at HIw
        clear hb9 HX8 HVr8 HB8 HHr h1
        go_wp2_with fail
        refine HIw.out.mono ?_
        rintro e W10 ⟨⟨vz, rfl, hvz⟩, hb10⟩
        have hrz := raw_of_out hvz
        obtain ⟨az, cz, rfl, -, -⟩ := id hrz
        have HB10 := hid (HB9.out.trans (hb10.mono HB9.out.size))
        have hcv1 := raw_string (HVr9.out.below hb10) HI6.out
        have hcv2 := raw_string hrz HI6.out
        clear hvz hrz hb10 HVr9 HB9 HIw HX9
        obtain ⟨nz, hnz⟩ : ∃ nz, bs.length = nz := ⟨_, rfl⟩
        rw [hnz] at hcv2 ⊢
        clear hnz
        obtain ⟨SZ, hSZ⟩ : ∃ SZ, byteStr bs = SZ := ⟨_, rfl⟩
        rw [hSZ] at hcv1 hcv2
        clear hSZ
        have hss := strS_eq SZ
        go_wp2_with fail
        go_ret
        exact ⟨rfl, HB10.out⟩
end Go.Proofs.Ytnbmhopoiijhoaa

/- At every two texts of bytes the promise on code written and read back holds: drawn code is read back from its bytes as itself, a cut of them is no code of the same length, and drawn bytes that are read are the bytes of what is read; the bytes unchanged; no condition. -/
namespace Go.Proofs.Ytnbmhopoiijhoaa.fnCodeBack
open Go.ChangeShapes Go.WideShapes Go.ChangeAt Go.RowKit

theorem own : ownKnob Try.prog.godebug = none := by kernel_rfl

theorem spot_none {W : World} {a : Addr} {v : Value} (h : W.cell? a = some v) : a.spot = none := by
  unfold World.cell? at h
  split at h
  · by_cases hs : a.spot.isSome
    · simp [hs] at h
    · simpa using hs
  · cases h

theorem block_lt {W : World} {a : Addr} {v : Value} (h : W.cell? a = some v) : a.block < W.heap.size := by
  unfold World.cell? at h
  split at h
  · rename_i e
    obtain ⟨hlt, _⟩ := Array.getElem?_eq_some_iff.mp e
    exact hlt
  · cases h

theorem cells_u8 : Try.prog.cellsOf 5 = 1 := by kernel_rfl
theorem laidOut : laidOutB Try.prog = true := by kernel_rfl

theorem open_bytes {H : Type} {enc : TypeId × Value → H} {W : World} {sp : Nat → Bool} {held : Bool} {fuel : Nat} {v : Value} {x : DataW H × List MemPlace}
    (h : DataW.trod enc Try.prog W 0 sp held fuel 22 [v] = some x) :
    ∃ a0 len cap, v = .slice a0 len cap ∧ len ≤ cap ∧ len ≤ maxLen ∧ BytesAt W a0 len := by
  rcases open_ints Try.underlying22 Try.underlying5 cells_u8 h with ⟨hc, _⟩ | ⟨a, len, cap, zs, hc, _, hl, hm, hz, _, hcell, hwf⟩
  · simp at hc
    subst hc
    exact ⟨none, 0, 0, rfl, Nat.le_refl _, Nat.zero_le _, fun h => absurd h (by omega)⟩
  · simp at hc
    subst hc
    have hlm : len ≤ zs.length := by rw [hz]; split <;> omega
    refine ⟨some a, len, cap, rfl, hl, by omega, fun h0 => ?_⟩
    have hc0 := hcell 0 (by omega)
    have hs := spot_none hc0
    have hb := block_lt hc0
    obtain ⟨b, off, spot⟩ := a
    have hspot : spot = none := by simpa [Addr.add] using hs
    subst hspot
    refine ⟨b, off, rfl, by simpa [Addr.add] using hb, fun i hi => ?_⟩
    have hci := hcell i (by omega)
    have e : (Addr.add ⟨b, off, none⟩ i) = ⟨b, off + i, none⟩ := by
      unfold Addr.add
      split
      · rename_i h
        subst h
        rfl
      · rfl
    rw [e] at hci
    have hin : zs.getD i 0 ∈ zs := by
      rw [List.getD, List.getElem?_eq_getElem (show i < zs.length by omega)]
      exact List.getElem_mem _
    have hw := hwf _ hin
    simp only [Lit.wf, Bool.and_eq_true, decide_eq_true_eq] at hw
    exact ⟨_, hci, hw.1, hw.2⟩

set_option maxRecDepth 100000 in
theorem lifted (os : Os) (started : os.Started) (H : Type) (enc : TypeId × Value → H) :
    ReturnsInHanded {} Try.checked os 3 .any (Rows.fnCodeBackSpec.pre6 enc Try.prog Try.f3 Rows.fnCodeBackRow.domain false) (Rows.fnCodeBackSpec.post enc Try.prog Try.f3 false true false false) := by
  refine returnsInHanded_of_change (C := Try.checked) own started (by kernel_rfl) Try.func3
    (ChangeSpec.witness6 (enc := enc) (C := Try.checked) false ⟨#[], #[.slice none 0 0, .slice none 0 0], []⟩ 8 (by kernel_rfl) (by kernel_rfl) (by kernel_rfl) (by kernel_rfl)) ?_
  intro W base args ds gs before hval0 hW hcnd _
  have hval : ∀ (j : Nat) t v, Try.f3.params[j]? = some t → args[j]? = some v → Value.okWide Try.prog W .any base t v := hval0
  have hW' := hW
  obtain ⟨p, q, hA0, hV, rfl, hfz, hnd⟩ := hW
  have hA : DataW.TrodAll enc Try.prog W 0 (fun _ => true) true Try.f3.params.toList args.toList ds p := hA0
  rw [Try.params3] at hA hval
  obtain ⟨v0, vs0, d0, ds0, p0, q0, hargs, rfl, rfl, h0, r0⟩ := trodAll_cons hA
  obtain ⟨v1, vs1, d1, ds1, p1, q1, hargs1, rfl, rfl, h1, r1⟩ := trodAll_cons r0
  obtain ⟨rfl, rfl, rfl⟩ := trodAll_nil r1
  obtain rfl : args = #[v0, v1] := by cases args; simp_all
  obtain ⟨rfl, rfl⟩ := trodVars_none hV
  clear hA0 hval0
  simp only [List.append_nil] at hW'
  have hlt : ∀ y ∈ p0 ++ p1, y.block < W.heap.size := fun y hy => by simpa using hW'.lt y (by simpa using hy)
  have h0k := h0
  have h1k := h1
  obtain ⟨fuel, hf⟩ := h0
  obtain ⟨fuel1, hf1⟩ := h1
  obtain ⟨a1, len1, cap1, rfl⟩ := okWide_slice Try.underlying22 (hval 0 22 v0 rfl rfl)
  obtain ⟨a2, len2, cap2, rfl⟩ := okWide_slice Try.underlying22 (hval 1 22 v1 rfl rfl)
  obtain ⟨a0, len, cap, hv, hl, -, hB⟩ := open_bytes (by simpa [Value.cells] using hf)
  cases hv
  obtain ⟨a3, len3, cap3, hv, hl3, -, hB3⟩ := open_bytes (by simpa [Value.cells] using hf1)
  cases hv
  refine (back_walk _ _ _ _ _ _ W hl hl3 hB hB3).mono fun e W' ⟨he, hg⟩ => ?_
  subst he
  refine ⟨_, rfl, _, _, _, [], p0 ++ p1, [], hW', ?_, ?_, rfl, hg.frame _, fun h => by cases h⟩
  · exact trodAll_cons_mk (shut_bool Try.underlying4 _) trodAll_mk0
  · exact trodAll_mk2 (Below.trod laidOut (by kernel_rfl) (of_decide_eq_true (by kernel_rfl)) h0k hg (fun y hy => hlt y (List.mem_append_left _ hy))) (Below.trod laidOut (by kernel_rfl) (of_decide_eq_true (by kernel_rfl)) h1k hg (fun y hy => hlt y (List.mem_append_right _ hy)))

theorem over : Rows.fnCodeBackRow.holds Try.pinned (OpenSpec.ofChange Rows.fnCodeBackSpec) :=
  OpenClaim.holds_of_wide 3 Try.f3 rfl rfl rfl rfl rfl rfl rfl ⟨rfl, rfl, rfl, rfl, rfl⟩ rfl rfl rfl rfl rfl (by kernel_rfl) Try.func3 (by kernel_rfl)
    (of_decide_eq_true (by kernel_rfl)) (by unfold Func.isWrapper; first | (rw [if_pos (by decide +kernel)]; kernel_rfl) | (rw [if_neg (by decide +kernel)]; exact ⟨rfl, rfl⟩))
    (fun os started H enc _ => lifted os started H enc)

theorem proved : Rows.FnCodeBackSaid := over

#print axioms proved
end Go.Proofs.Ytnbmhopoiijhoaa.fnCodeBack
