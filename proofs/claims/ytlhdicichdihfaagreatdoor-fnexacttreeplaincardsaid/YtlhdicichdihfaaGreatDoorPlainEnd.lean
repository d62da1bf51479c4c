/- A tree named anew: the specification's answer and the program's are one. -/
import Derived.Test.YtlhdicichdihfaaGreatDoorSpecPlainBMP
import Derived.Test.YtlhdicichdihfaaGreatDoorNodeHeldMP
import Derived.Test.YtlhdicichdihfaaGreatDoorFreeEndP
namespace Go.Proofs.YtlhdicichdihfaaGreatDoor
open Go.RowKit

theorem ndRow_get : ∀ (l : List Nd) (i : Nat), i < l.length * 6 → (ndRow l).getD i undef = ndF l i
  | [], i, h => by simp at h
  | n :: l, i, h => by
    have e : ndRow (n :: l) = [.int .i64 n.kind, .int .i64 n.num, .string n.a, .string n.b, .string n.c, .int .i64 n.kids] ++ ndRow l := by
      unfold ndRow
      rw [List.flatMap_cons]
    rw [e]
    by_cases hi : i < 6
    · have h6 : i = 0 ∨ i = 1 ∨ i = 2 ∨ i = 3 ∨ i = 4 ∨ i = 5 := by omega
      rcases h6 with rfl | rfl | rfl | rfl | rfl | rfl <;> rfl
    · have h1 := ndRow_get l (i - 6) (by rw [List.length_cons] at h; omega)
      have h2 : ndF (n :: l) i = ndF l (i - 6) := by
        unfold ndF
        rw [show i / 6 = (i - 6) / 6 + 1 by omega, show i % 6 = (i - 6) % 6 by omega]
        rfl
      rw [h2, ← h1]
      simp only [List.getD]
      rw [List.getElem?_append_right (by simp; omega)]
      rfl

theorem nd_owns {B : Nat} {w : World} {v : Value} {l : List Nd} (h : w.ownsRow B 42 6 v l.length (ndRow l)) : SliceR 42 6 B w v l.length (ndF l) := (sliceR_of_owns h).congr (fun i hi => ndRow_get l i hi)

theorem plain_both (ns : List Nd) (hm : ns.length ≤ 1048576) (hs : Short ns) : ∃ l : List Nd, l.length ≤ 1048576 ∧
    (∀ (W : World) (b cap : Nat), b < W.heap.size → NodesAt W b 0 ns → Calls Tryz.prog 6 #[.slice (some ⟨b, 0, none⟩) ns.length cap] W fun e W' => ∃ u, e = .returned u ∧ SliceR 42 6 W.heap.size W' u l.length (ndF l) ∧ Below W.heap.size W W') ∧
    (∀ (W : World) (b cap : Nat), b < W.heap.size → NodesAt W b 0 ns → Laid W → Calls Tryz.prog 8 #[.slice (some ⟨b, 0, none⟩) ns.length cap] W fun e W' => ∃ u, e = .returned u ∧ SliceR 42 6 W.heap.size W' u l.length (ndF l) ∧ Below W.heap.size W W') := by
  obtain ⟨R, hSA, hIA⟩ := answers ns
  cases R with
  | false =>
    refine ⟨[], Nat.zero_le _, fun W b cap hb hn => ?_, fun W b cap hb hn _ => ?_⟩
    · refine (specPlain_bad W hm hb hn hSA).mono ?_
      rintro e W' ⟨rfl, hB⟩
      exact ⟨_, rfl, ⟨none, 0, rfl, Or.inl rfl⟩, hB⟩
    · refine (implPlain_bad W hm hb hn hs hIA).mono ?_
      rintro e W' ⟨rfl, hB⟩
      exact ⟨_, rfl, ⟨none, 0, rfl, Or.inl rfl⟩, hB⟩
  | true =>
    have hI := hIA
    have hS := hSA
    rcases hI with ⟨_, h⟩ | ⟨_, _, _, h⟩ | ⟨h1, h2, n, k, e1, e2, e3, hR⟩
    · cases h
    · cases h
    have hall : ns.all nodeOkZ = true := by
      have := hR.symm
      simp only [Bool.and_eq_true] at this
      exact this.1
    have hown : ns.all ownOk = true := by
      rcases hS with ⟨_, h⟩ | ⟨_, _, _, h⟩ | ⟨_, _, _, _, _, _, _, h⟩
      · cases h
      · cases h
      · have := h.symm
        simp only [Bool.and_eq_true] at this
        exact this.1
    have hl : (plainOf (wholeW n k)).length ≤ 1048576 := by
      unfold plainOf
      split
      · have h5 := (kidsW_plain n (renZ n [] 0) k 0 [] (stepW n [] ⟨[], [], 0⟩)).1
        have h6 : (wholeW n k).plain.length = (stepW n [] ⟨[], [], 0⟩).plain.length + k.flat.length := h5
        rw [h6]
        rw [e1, List.length_cons] at h2
        simp [stepW]
        omega
      · exact Nat.zero_le _
    refine ⟨plainOf (wholeW n k), hl, fun W b cap hb hn => ?_, fun W b cap hb hn hL => ?_⟩
    · refine (specPlain_calls W h2 hb hn hSA hown e1 e2 e3).mono ?_
      rintro e W' ⟨u, rfl, hB, hu⟩
      exact ⟨u, rfl, nd_owns hu, hB⟩
    · refine (implPlain_calls W h2 hb hn hs hIA hall e1 e2 e3 hL).mono ?_
      rintro e W' ⟨u, rfl, hB, hu⟩
      exact ⟨u, rfl, nd_owns hu, hB⟩
end Go.Proofs.YtlhdicichdihfaaGreatDoor

/- The law of a tree named anew returns true, wherever the table of powers lies as the program lays it. -/
namespace Go.Proofs.YtlhdicichdihfaaGreatDoor
open Go.RowKit

set_option maxHeartbeats 8000000 in
set_option maxRecDepth 100000 in
theorem plainWalk {v : Value} {ns : List Nd} (w : World) (hL : Laid w) (hv : NodeSlice w v ns) (hs : Short ns) (hm : ns.length ≤ maxLen) :
    Calls Tryz.prog 3 #[v] w fun e w' => e = .returned (.bool true) ∧ Below w.heap.size w w' := by
  have HBo := hid (fun h => plain_both ns h hs)
  have HSz := hid (szNodeS_any 1048576 w hv hs hm (by omega) (by omega))
  have HTo := hid (fun (X : World) (hb : Below w.heap.size w X) (h : ns.length ≤ 1048576) => toNodeS_row X (hv.below hb) h)
  have HLa := hid hL
  obtain ⟨ad, cap, rfl, -⟩ := hv
  clear hs hm hL
  obtain ⟨n, hn⟩ : ∃ n, ns.length = n := ⟨_, rfl⟩
  rw [hn] at HSz HTo HBo ⊢
  have HNn := hid hn
  clear hn
  go_enter Tryz.func3, Tryz.ntmps3
  go_wp2_with fail
  refine HSz.out.mono ?_
  rintro e W1 ⟨⟨r, rfl, -, hr⟩, hb1⟩
  have B1 := hid hb1
  clear hb1 HSz
  by_cases hneg : r < 0
  · go_wp2_with fail
    go_ret
    exact ⟨rfl, B1.out⟩
  have HL := hid (hr.resolve_left hneg)
  clear hr
  obtain ⟨l, hll, hS, hI⟩ := HBo.out HL.out
  have HLl := hid hll
  have HS := hid hS
  have HI := hid hI
  clear hll hS hI HBo
  go_wp2_with fail
  refine (HTo.out W1 B1.out HL.out).mono ?_
  rintro e W2 ⟨rfl, hr2, hl2, hb2⟩
  have B2 := hid (B1.out.trans (hb2.mono B1.out.size))
  rw [← HNn.out] at hr2
  have HN2 := hid (And.intro hl2 hr2.nodesAt)
  clear hr2 hl2 hb2
  go_wp2_with fail
  refine (HS.out W2 _ _ HN2.out.1 HN2.out.2).mono ?_
  rintro e W3 ⟨u0, rfl, hu0, hb3⟩
  obtain ⟨ad0, cap0, rfl, -⟩ := id hu0
  have B3 := hid (B2.out.trans (hb3.mono B2.out.size))
  have HU0 := hid (fun X (hX : Below W3.heap.size W3 X) => hu0.below hX)
  have M3 := hid (Held.start W3)
  clear hu0 hb3 HN2 B2 B1 HS
  go_wp2_with fail
  refine (HTo.out W3 B3.out HL.out).mono ?_
  rintro e W4 ⟨rfl, hr4, hl4, hb4⟩
  have M4 := hid (M3.out.slice hb4 hr4)
  rw [← HNn.out] at hr4
  have HN4 := hid (And.intro hl4 hr4.nodesAt)
  have HU4 := hid hr4.inside
  rw [HNn.out] at HU4
  have HB3 := hid (fun X (hX : Below W3.heap.size W3 X) => B3.out.trans (hX.mono B3.out.size))
  clear hr4 hl4 hb4 M3 B3
  go_wp2_with fail
  refine (HI.out W4 _ _ HN4.out.1 HN4.out.2 (HLa.out.stays (HB3.out _ M4.out.below))).mono ?_
  rintro e W5 ⟨u1, rfl, hu1, hb5⟩
  have M5 := hid (M4.out.slice hb5 hu1)
  have HU5 := hid hu1.inside
  obtain ⟨ad1, cap1, rfl, -⟩ := id hu1
  have HN5 := hid (And.intro (Nat.lt_of_lt_of_le HN4.out.1 hb5.size) (HN4.out.2.below hb5 HN4.out.1))
  clear hu1 hb5 M4 HN4
  go_wp2_with fail
  refine (eqNodeS_any W5 HLl.out (M5.out.tells _ List.mem_cons_self) (HU0.out _ M5.out.below)).mono ?_
  rintro e W6 ⟨rfl, hb6⟩
  have M6 := hid (M5.out.keep hb6)
  have HN6 := hid (And.intro (Nat.lt_of_lt_of_le HN5.out.1 hb6.size) (HN5.out.2.below hb6 HN5.out.1))
  clear hb6 M5 HN5
  go_wp2_with fail
  refine (HTo.out W6 (HB3.out _ M6.out.below) HL.out).mono ?_
  rintro e W7 ⟨rfl, hr7, hl7, hb7⟩
  have M7 := hid (M6.out.keep hb7)
  rw [← HNn.out] at hr7
  have HN7 := hid (And.intro hl7 hr7.nodesAt)
  have HN7' := hid (And.intro (Nat.lt_of_lt_of_le HN6.out.1 hb7.size) (HN6.out.2.below hb7 HN6.out.1))
  clear hr7 hl7 hb7 M6 HN6
  go_wp2_with fail
  refine (eqNodeS_calls _ _ _ _ _ _ _ ns _ HN7'.out.1 HN7.out.1 HN7'.out.2 HN7.out.2 (Nat.le_of_eq HNn.out.symm) HL.out).mono ?_
  rintro e W8 ⟨rfl, hb8⟩
  have M8 := hid (M7.out.keep hb8)
  clear hb8 M7 HN7 HN7'
  go_wp2_with fail
  refine (markNodeS_any _ HL.out (M8.out.tells _ (List.mem_cons_of_mem _ List.mem_cons_self))).mono ?_
  rintro e W9 ⟨rfl, hs9, ht9⟩
  have M9 := hid (M8.out.mark [_] HU4.out (Below.refl _ _) ht9 hs9)
  clear M8 hs9 ht9
  have hm0 : ¬ (1 + 6 * (n : Int) < 0) := by omega
  generalize 1 + 6 * (n : Int) = kk at *
  go_wp2_with fail
  refine (eqNodeS_any W9 HLl.out (M9.out.tells _ List.mem_cons_self) (HU0.out _ M9.out.below)).mono ?_
  rintro e W10 ⟨rfl, hb10⟩
  have M10 := hid (M9.out.keep hb10)
  clear M9 hb10
  go_wp2_with fail
  refine (markNodeS_any W10 HLl.out (M10.out.tells _ List.mem_cons_self)).mono ?_
  rintro e W11 ⟨rfl, hs11, ht11⟩
  have M11 := hid (M10.out.mark [] HU5.out (Below.refl _ _) ht11 hs11)
  clear M10 hs11 ht11
  have HH : Hid (∀ X, SliceR 42 6 W4.heap.size X (.slice ad1 l.length cap1) l.length ndMarks → Calls Tryz.prog 11 #[.slice ad1 l.length cap1, .int .i64 1] X fun e w' => e = .returned (.int .i64 (1 + 6 * (l.length : Int))) ∧ Below X.heap.size X w') := fun X h => heldNodeS_any X HLl.out h
  have hm1 : ¬ (1 + 6 * (l.length : Int) < 0) := by omega
  generalize 1 + 6 * (l.length : Int) = mm at *
  have hmm : (mm != mm) = false := by simp
  go_wp2_with fail
  refine (HH.out W11 (M11.out.tells _ List.mem_cons_self)).mono ?_
  rintro e W12 ⟨rfl, hb12⟩
  have M12 := hid (M11.out.keep hb12)
  clear M11 hb12
  go_wp2_with fail
  refine (HTo.out W12 (HB3.out _ M12.out.below) HL.out).mono ?_
  rintro e W13 ⟨rfl, hr13, hl13, hb13⟩
  have M13 := hid (M12.out.keep hb13)
  rw [← HNn.out] at hr13
  have HN13 := hid (And.intro hl13 hr13.nodesAt)
  clear hr13 hl13 hb13 M12
  go_wp2_with fail
  refine (HI.out W13 _ _ HN13.out.1 HN13.out.2 (HLa.out.stays (HB3.out _ M13.out.below))).mono ?_
  rintro e W14 ⟨u2, rfl, hu2, hb14⟩
  have M14 := hid (M13.out.keep hb14)
  obtain ⟨ad2, cap2, rfl, -⟩ := id hu2
  have HU2 := hid hu2
  clear hu2 hb14 M13 HN13
  go_wp2_with fail
  refine (eqNodeS_any W14 HLl.out HU2.out (HU0.out _ M14.out.below)).mono ?_
  rintro e W15 ⟨rfl, hb15⟩
  have M15 := hid (M14.out.keep hb15)
  clear M14 hb15 HU2
  go_wp2_with fail
  refine (HH.out W15 (M15.out.tells _ List.mem_cons_self)).mono ?_
  rintro e W16 ⟨rfl, hb16⟩
  have M16 := hid (M15.out.keep hb16)
  clear M15 hb16
  go_wp2_with fail
  go_ret
  exact ⟨rfl, HB3.out _ M16.out.below⟩
end Go.Proofs.YtlhdicichdihfaaGreatDoor
