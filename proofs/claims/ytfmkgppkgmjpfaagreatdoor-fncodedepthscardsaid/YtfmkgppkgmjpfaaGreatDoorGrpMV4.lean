/- The drawer keeps its contract. -/
import Derived.Test.YtfmkgppkgmjpfaaGreatDoorGrpMV3
import Derived.Test.YtfmkgppkgmjpfaaGreatDoorGrpMV1
import Derived.Test.YtfmkgppkgmjpfaaGreatDoorGrpMV2
import Derived.Test.YtfmkgppkgmjpfaaGreatDoorRows
import Derived.WalkKit
import Derived.ProofKit
import Derived.Deep.OwnRows
import Derived.BigQuiet
import Derived.Test.YtfmkgppkgmjpfaaGreatDoorInsRows
import Derived.Conc.LoneCalls
import Derived.Test.YtfmkgppkgmjpfaaGreatDoorOwnRow
namespace Go.Proofs.YtfmkgppkgmjpfaaGreatDoor
open Go.RowKit Go.Deep

/-- The contract of what draws handlers. -/
def HanC (d : Dr) (ve : Value) (es : List Ef) (D : Nat) : Prop :=
  ∀ (ty deep : Int) (v vm : Value) (ks : List Kn) (ms : List Bool) (X : World) (s : Cn), deep ≤ D → -90 ≤ deep → Gen d ve X s → Fit s 250 → Env d ve es X v ks vm ms (D + 1) →
    Calls Tryz.prog 59 #[.pointer (some ⟨d.G, 0, none⟩), .int .i64 ty, v, vm, .int .i64 deep] X (NodesPost d ve X s 250)

/-- What is spent within, the count taken off first. -/
theorem of_post {d : Dr} {ve : Value} {W X : World} {s s1 : Cn} {e : Ending} {Y : World} {c : Nat} (hg : Grew d W X) (e1 : s1.p = s.p) (e2 : s1.next = s.next) (e3 : s1.left = s.left - 1) (h : NodesPost d ve X s1 c e Y) (hc : c ≤ 9 ∨ (0 < s.left ∧ c ≤ 300)) : NodesPost d ve W s 10 e Y := by
  obtain ⟨v, ns, s', t, h1, h2, h3, h4, h5, h6⟩ := h
  refine ⟨v, ns, s', t + 1, h1, h2, by omega, h4, hg.trans h5, ?_⟩
  unfold Spent at h6 ⊢
  omega

theorem of_fit {s s1 : Cn} (hf : Fit s 10) (e1 : s1.p = s.p) (e2 : s1.next = s.next) (e3 : s1.left = s.left - 1) : Fit s1 9 ∧ (0 < s.left → Fit s1 300) := by
  unfold Fit at hf ⊢
  omega

set_option maxHeartbeats 4000000 in
set_option maxRecDepth 100000 in
/-- A function, small. -/
theorem leaf5n {d : Dr} {ve v : Value} {W : World} {s : Cn} {ks : List Kn} (ty : Int) (h1 : ty ≠ 1) (h2 : ty ≠ 2) (h3 : ty ≠ 3) (h4 : ty ≠ 4) (h : Gen d ve W s) (hf : Fit s 9) (hk : KnowsD d W v ks) (hl : ks.length ≤ 998) :
    Calls Tryz.prog 55 #[.pointer (some ⟨d.G, 0, none⟩), .int .i64 ty, v] W (NodesPost d ve W s 9) := by
  have HF := hid hf
  have A0 := hid (At.start h)
  have HKn := hid hk
  have HKl := hid hl
  have HK := hid (A0.out.nodes0 (gknown_calls ty h (by unfold Fit at hf; omega) hk (by omega)))
  obtain ⟨ad, cp, rfl⟩ := hk.is
  clear hk hl h hf
  have e1 : (ty == 1) = false := by simp [h1]
  have e2 : (ty == 2) = false := by simp [h2]
  have e3 : (ty == 3) = false := by simp [h3]
  have e4 : (ty == 4) = false := by simp [h4]
  clear h1 h2 h3 h4
  go_enter Tryz.func55, Tryz.ntmps55
  go_wp2_with fail
  refine HK.out.mono ?_
  rintro e X1 ⟨v1, n1, s1, t1, rfl, hn1, hl1, ha1, hg1⟩
  have A1 := hid ha1
  have N1 := hid (And.intro hn1 hl1)
  have G1 := hid hg1
  obtain ⟨ad1, cp1, rfl⟩ := hn1.is
  obtain ⟨l1, hl1e⟩ : ∃ l, n1.length = l := ⟨_, rfl⟩
  have HL1 := hid hl1e
  rw [hl1e] at N1 ⊢
  clear hn1 hl1 ha1 hg1 HK hl1e A0
  by_cases hz : l1 = 0
  · subst hz
    go_wp2_with fail
    refine (A1.out.name HF.out (by omega)).mono ?_
    rintro e X2 ⟨x2, s2, rfl, hb2, ha, hg⟩
    have A2 := hid ha
    have G2 := hid hg
    clear ha hg
    have B2 := hid hb2
    clear hb2
    go_wp2_with fail
    refine (A2.out.add x2 1 0 (HKn.out.grew (G1.out.trans G2.out)) B2.out (by have := HKl.out; omega)).mono ?_
    rintro e X3 ⟨u3, ks3, rfl, hk3, hkl3, ha, hg⟩
    have A3 := hid ha
    have G3 := hid hg
    clear ha hg
    have K3 := hid (And.intro hk3 hkl3)
    clear hk3 hkl3
    go_wp2_with fail
    refine (A3.out.nodes (leaf1 1 rfl A3.out.1 (A3.out.fit HF.out 4 (by omega)) K3.out.1 (by have := K3.out.2; have := HKl.out; omega))).mono ?_
    rintro e X4 ⟨v4, n4, s4, t4, rfl, hn4, hl4, ha, hg⟩
    have A4 := hid ha
    have G4 := hid hg
    clear ha hg
    have N4 := hid (And.intro hn4 hl4)
    obtain ⟨ad4, cp4, rfl⟩ := hn4.is
    clear hn4 hl4
    go_wp2_with fail
    refine (A4.out.put1 6 0 0 x2 ByteArray.empty ByteArray.empty N4.out.1 ⟨B2.out, brief_none, brief_none⟩ (by have := A4.out.bound HF.out (by omega) (by decide); have := N4.out.2; omega)).mono ?_
    rintro e X5 ⟨v5, n5, rfl, hn5, hl5, ha, hg⟩
    have A5 := hid ha
    have G5 := hid hg
    clear ha hg
    have N5 := hid (And.intro hn5 hl5)
    obtain ⟨ad5, cp5, rfl⟩ := hn5.is
    clear hn5 hl5
    go_wp2_with fail
    go_ret
    exact A5.out.done 1 N5.out.1 (by have := N5.out.2; have := N4.out.2; omega) (by omega)
  · have hz' : (0 : Int) < (l1 : Int) := by omega
    have g0 := A1.out.1.c0
    go_wp2_with fail
    refine (A1.out.pick HF.out (by omega) 3 (by decide)).mono ?_
    rintro e X2 ⟨m2, s2, rfl, hm2, hM2, ha, hg⟩
    have A2 := hid ha
    have G2 := hid hg
    clear ha hg
    clear g0
    by_cases hm : 0 < m2
    · go_wp2_with fail
      go_ret
      exact A2.out.done 0 (N1.out.1.grew G2.out) (by have := N1.out.2; have := HL1.out; omega) (by omega)
    · have hm0 : m2 = 0 := by omega
      subst hm0
      go_wp2_with fail
      refine (A2.out.name HF.out (by omega)).mono ?_
      rintro e X3 ⟨x3, s3, rfl, hb3, ha, hg⟩
      have A3 := hid ha
      have G3 := hid hg
      clear ha hg
      have B3 := hid hb3
      clear hb3
      go_wp2_with fail
      refine (A3.out.add x3 1 0 (HKn.out.grew (G1.out.trans (G2.out.trans G3.out))) B3.out (by have := HKl.out; omega)).mono ?_
      rintro e X4 ⟨u4, ks4, rfl, hk4, hkl4, ha, hg⟩
      have A4 := hid ha
      have G4 := hid hg
      clear ha hg
      have K4 := hid (And.intro hk4 hkl4)
      clear hk4 hkl4
      go_wp2_with fail
      refine (A4.out.nodes (leaf1 1 rfl A4.out.1 (A4.out.fit HF.out 4 (by omega)) K4.out.1 (by have := K4.out.2; have := HKl.out; omega))).mono ?_
      rintro e X5 ⟨v5, n5, s5, t5, rfl, hn5, hl5, ha, hg⟩
      have A5 := hid ha
      have G5 := hid hg
      clear ha hg
      have N5 := hid (And.intro hn5 hl5)
      obtain ⟨ad5, cp5, rfl⟩ := hn5.is
      clear hn5 hl5
      go_wp2_with fail
      refine (A5.out.put1 6 0 0 x3 ByteArray.empty ByteArray.empty N5.out.1 ⟨B3.out, brief_none, brief_none⟩ (by have := A5.out.bound HF.out (by omega) (by decide); have := N5.out.2; omega)).mono ?_
      rintro e X6 ⟨v6, n6, rfl, hn6, hl6, ha, hg⟩
      have A6 := hid ha
      have G6 := hid hg
      clear ha hg
      have N6 := hid (And.intro hn6 hl6)
      obtain ⟨ad6, cp6, rfl⟩ := hn6.is
      clear hn6 hl6
      go_wp2_with fail
      go_ret
      exact A6.out.done 1 N6.out.1 (by have := N6.out.2; have := N5.out.2; omega) (by omega)

theorem leaf_nine {d : Dr} {ve v : Value} {W : World} {s : Cn} {ks : List Kn} (ty : Int) (h : Gen d ve W s) (hf : Fit s 9) (hk : KnowsD d W v ks) (hl : ks.length ≤ 998) :
    Calls Tryz.prog 55 #[.pointer (some ⟨d.G, 0, none⟩), .int .i64 ty, v] W (NodesPost d ve W s 9) := by
  by_cases h1 : ty = 1
  · exact (leaf1 ty h1 h (hf.mono (by omega)) hk (by omega)).mono fun e W' h => h.mono (by omega)
  by_cases h2 : ty = 2
  · exact (leaf2 ty h2 h (hf.mono (by omega)) hk (by omega)).mono fun e W' h => h.mono (by omega)
  by_cases h3 : ty = 3
  · exact (leaf3 ty h3 h (hf.mono (by omega)) hk (by omega)).mono fun e W' h => h.mono (by omega)
  by_cases h4 : ty = 4
  · exact (leaf4 ty h4 h (hf.mono (by omega)) hk (by omega)).mono fun e W' h => h.mono (by omega)
  exact leaf5n ty h1 h2 h3 h4 h hf hk hl

set_option maxHeartbeats 8000000 in
set_option maxRecDepth 100000 in
theorem of_step {d : Dr} {ve : Value} {es : List Ef} {D : Nat} (hD : D ≤ 90) (hO : OfC d ve es D) (hH : HanC d ve es D) : OfC d ve es (D + 1) := by
  intro deep ty v vm ks ms W s h1 h2 hf h hE
  have HO := hid hO
  have HH := hid hH
  have hl := h.setLeft (s.left - 1)
  have f2 := h.f2
  have c2 := h.c2
  have HF0 := hid hf
  have HW : Hid (wrap64 (s.left - 1) = s.left - 1) := by show _ = _; unfold Fit at hf; unfold wrap64; omega
  have HD0 := hid (And.intro h1 (And.intro h2 hD))
  obtain ⟨ad, cp, rfl⟩ := hE.know.is
  obtain ⟨adm, cpm, rfl⟩ := hE.may.is
  obtain ⟨X, hX⟩ : ∃ X, W.setCell ⟨d.G, 2, none⟩ (.int .i64 (s.left - 1)) = X := ⟨_, rfl⟩
  rw [hX] at hl
  have HX := hid hX
  obtain ⟨s1, hs1⟩ : ∃ s1 : Cn, { s with left := s.left - 1 } = s1 := ⟨_, rfl⟩
  rw [hs1] at hl
  have e1 : s1.p = s.p := by rw [← hs1]
  have e2 : s1.next = s.next := by rw [← hs1]
  have e3 : s1.left = s.left - 1 := by rw [← hs1]
  have HFF := hid (of_fit hf e1 e2 e3)
  have HP := hid (fun (c : Nat) (e : Ending) (Y : World) (h : NodesPost d ve X s1 c e Y) (hc : c ≤ 9 ∨ (0 < s.left ∧ c ≤ 300)) => of_post hl.2 e1 e2 e3 h hc)
  have A0 := hid (At.start hl.1)
  have HE := hid (hE.grew hl.2)
  have g2 := hl.1.c2
  have g0 := hl.1.c0
  rw [e3] at g2
  obtain ⟨L, hL⟩ : ∃ L : Int, s.left - 1 = L := ⟨_, rfl⟩
  have HLe := hid hL
  rw [hL] at g2
  clear hO hH hl hf h hE hX hs1 e1 e2 e3 hL
  go_enter Tryz.func30, Tryz.ntmps30
  go_upto_region 2 with fail
  try rw [HW.out]
  rw [HX.out]
  clear c2 f2 HW HX
  have HLF := hid (leaf_nine ty A0.out.1 HFF.out.1 HE.out.know (by have := HE.out.room; omega))
  by_cases hd : deep ≤ 1
  · go_wp2_with fail
    refine HLF.out.mono ?_
    rintro e Xl ⟨vl, nl, sl, tl, rfl, hnl, hll, hgl, hgrl, hspl⟩
    have NL := hid (And.intro hnl (And.intro hll (And.intro hgl (And.intro hgrl hspl))))
    clear hnl hll hgl hgrl hspl
    go_wp2_with fail
    go_ret
    exact HP.out 9 _ _ ⟨vl, nl, sl, tl, rfl, NL.out.1, NL.out.2.1, NL.out.2.2.1, NL.out.2.2.2.1, NL.out.2.2.2.2⟩ (Or.inl (by omega))
  · by_cases hl0 : L ≤ 0
    · go_wp2_with fail
      refine HLF.out.mono ?_
      rintro e Xl ⟨vl, nl, sl, tl, rfl, hnl, hll, hgl, hgrl, hspl⟩
      have NL := hid (And.intro hnl (And.intro hll (And.intro hgl (And.intro hgrl hspl))))
      clear hnl hll hgl hgrl hspl
      go_wp2_with fail
      go_ret
      exact HP.out 9 _ _ ⟨vl, nl, sl, tl, rfl, NL.out.1, NL.out.2.1, NL.out.2.2.1, NL.out.2.2.2.1, NL.out.2.2.2.2⟩ (Or.inl (by omega))
    · have HPos : Hid (0 < s.left) := by show _ < _; have := HLe.out; omega
      have HF := hid (HFF.out.2 HPos.out)
      have HD := hid (And.intro (show deep - 1 ≤ (D : Int) by have := HD0.out.1; omega) (And.intro (show -90 ≤ deep - 1 by omega) (show D ≤ 100 by omega)))
      have hdu : deep ≤ 1000 := by have := HD0.out; omega
      go_wp2_with fail
      refine (A0.out.pick HF.out (by omega) 9 (by decide)).mono ?_
      rintro e X1 ⟨m1, s51, rfl, hm1, hM1, ha, hg⟩
      have A1 := hid ha
      have G1 := hid hg
      clear ha hg
      by_cases h9 : m1 = 0
      · subst h9
        have HL3 := hid (A1.out.nodes (leaf_calls ty A1.out.1 (A1.out.fit HF.out 10 (by omega)) (HE.out.grew G1.out).know (by have := HE.out.room; omega)))
        go_wp2_with fail
        refine HL3.out.mono ?_
        rintro e X2 ⟨v2, n2, s2, t2, rfl, hn2, hl2, ha, hg⟩
        have A2 := hid ha
        have G2 := hid hg
        clear ha hg
        have N2 := hid (And.intro hn2 hl2)
        clear hn2 hl2
        go_wp2_with fail
        go_ret
        exact HP.out 300 _ _ (A2.out.done 0 N2.out.1 (by have := N2.out.2; omega) (by omega)) (Or.inr ⟨HPos.out, by omega⟩)
      · have z9 : (m1 == 0) = false := by simp [h9]
        have g0 := A1.out.1.c0
        go_wp2_with fail
        refine (A1.out.pick HF.out (by omega) 11 (by decide)).mono ?_
        rintro e X2 ⟨m2, s2, rfl, hm2, hM2, ha, hg⟩
        have A2 := hid ha
        have G2 := hid hg
        clear ha hg
        clear g0
        have hcs : m2 = 0 ∨ m2 = 1 ∨ m2 = 2 ∨ m2 = 3 ∨ m2 = 4 ∨ m2 = 5 ∨ m2 = 6 ∨ m2 = 7 ∨ m2 = 8 ∨ m2 = 9 ∨ m2 = 10 := by omega
        rcases hcs with rfl | rfl | rfl | rfl | rfl | rfl | rfl | rfl | rfl | rfl | rfl
        · go_wp2_with fail
          refine (A2.out.nodes (HO.out (deep - 1) 2 _ _ _ _ _ _ (by have := HD.out; omega) (by have := HD.out; omega) (A2.out.fit HF.out 10 (by omega)) A2.out.1 (HE.out.grew (G1.out.trans G2.out)).down)).mono ?_
          rintro e X3 ⟨v3, n3, s3, t3, rfl, hn3, hl3, ha, hg⟩
          have A3 := hid ha
          have G3 := hid hg
          clear ha hg
          have N3 := hid (And.intro hn3 hl3)
          obtain ⟨ad3, cp3, rfl⟩ := hn3.is
          clear hn3 hl3
          go_wp2_with fail
          refine (A3.out.nodes (HO.out (deep - 1) ty _ _ _ _ _ _ (by have := HD.out; omega) (by have := HD.out; omega) (A3.out.fit HF.out 10 (by omega)) A3.out.1 (HE.out.grew (G1.out.trans (G2.out.trans G3.out))).down)).mono ?_
          rintro e X4 ⟨v4, n4, s4, t4, rfl, hn4, hl4, ha, hg⟩
          have A4 := hid ha
          have G4 := hid hg
          clear ha hg
          have N4 := hid (And.intro hn4 hl4)
          obtain ⟨ad4, cp4, rfl⟩ := hn4.is
          clear hn4 hl4
          go_wp2_with fail
          refine (A4.out.nodes (HO.out (deep - 1) ty _ _ _ _ _ _ (by have := HD.out; omega) (by have := HD.out; omega) (A4.out.fit HF.out 10 (by omega)) A4.out.1 (HE.out.grew (G1.out.trans (G2.out.trans (G3.out.trans G4.out)))).down)).mono ?_
          rintro e X5 ⟨v5, n5, s5, t5, rfl, hn5, hl5, ha, hg⟩
          have A5 := hid ha
          have G5 := hid hg
          clear ha hg
          have N5 := hid (And.intro hn5 hl5)
          obtain ⟨ad5, cp5, rfl⟩ := hn5.is
          clear hn5 hl5
          go_wp2_with fail
          refine (A5.out.put3 10 0 0 ByteArray.empty ByteArray.empty ByteArray.empty (N3.out.1.grew (G4.out.trans G5.out)) (N4.out.1.grew G5.out) N5.out.1 ⟨brief_none, brief_none, brief_none⟩ (by have := A5.out.bound HF.out (by omega) (by decide); have := N3.out.2; have := N4.out.2; have := N5.out.2; omega)).mono ?_
          rintro e X6 ⟨v6, n6, rfl, hn6, hl6, ha, hg⟩
          have A6 := hid ha
          have G6 := hid hg
          clear ha hg
          have N6 := hid (And.intro hn6 hl6)
          obtain ⟨ad6, cp6, rfl⟩ := hn6.is
          clear hn6 hl6
          go_wp2_with fail
          go_ret
          exact HP.out 300 _ _ (A6.out.done 1 N6.out.1 (by have := N6.out.2; have := N3.out.2; have := N4.out.2; have := N5.out.2; omega) (by omega)) (Or.inr ⟨HPos.out, by omega⟩)
        · go_wp2_with fail
          refine (A2.out.name HF.out (by omega)).mono ?_
          rintro e X3 ⟨x3, s3, rfl, hb3, ha, hg⟩
          have A3 := hid ha
          have G3 := hid hg
          clear ha hg
          have B3 := hid hb3
          clear hb3
          have g0 := A3.out.1.c0
          go_wp2_with fail
          refine (A3.out.pick HF.out (by omega) 5 (by decide)).mono ?_
          rintro e X4 ⟨m4, s4, rfl, hm4, hM4, ha, hg⟩
          have A4 := hid ha
          have G4 := hid hg
          clear ha hg
          clear g0
          go_wp2_with fail
          refine (A4.out.nodes (HO.out (deep - 1) (1 + m4) _ _ _ _ _ _ (by have := HD.out; omega) (by have := HD.out; omega) (A4.out.fit HF.out 10 (by omega)) A4.out.1 (HE.out.grew (G1.out.trans (G2.out.trans (G3.out.trans G4.out)))).down)).mono ?_
          rintro e X5 ⟨v5, n5, s5, t5, rfl, hn5, hl5, ha, hg⟩
          have A5 := hid ha
          have G5 := hid hg
          clear ha hg
          have N5 := hid (And.intro hn5 hl5)
          obtain ⟨ad5, cp5, rfl⟩ := hn5.is
          clear hn5 hl5
          go_wp2_with fail
          refine (A5.out.add x3 (1 + m4) 0 (HE.out.grew (G1.out.trans (G2.out.trans (G3.out.trans (G4.out.trans G5.out))))).know B3.out (by have := HE.out.room; omega)).mono ?_
          rintro e X6 ⟨u6, ks6, rfl, hk6, hkl6, ha, hg⟩
          have A6 := hid ha
          have G6 := hid hg
          clear ha hg
          have K6 := hid (And.intro hk6 hkl6)
          obtain ⟨ad6, cp6, rfl⟩ := hk6.is
          clear hk6 hkl6
          go_wp2_with fail
          refine (A6.out.nodes (HO.out (deep - 1) ty _ _ _ _ _ _ (by have := HD.out; omega) (by have := HD.out; omega) (A6.out.fit HF.out 10 (by omega)) A6.out.1 ((HE.out.grew (G1.out.trans (G2.out.trans (G3.out.trans (G4.out.trans (G5.out.trans G6.out)))))).with K6.out.1 (by have := K6.out.2; omega)))).mono ?_
          rintro e X7 ⟨v7, n7, s7, t7, rfl, hn7, hl7, ha, hg⟩
          have A7 := hid ha
          have G7 := hid hg
          clear ha hg
          have N7 := hid (And.intro hn7 hl7)
          obtain ⟨ad7, cp7, rfl⟩ := hn7.is
          clear hn7 hl7
          go_wp2_with fail
          refine (A7.out.put2 8 0 0 x3 ByteArray.empty ByteArray.empty (N5.out.1.grew (G6.out.trans G7.out)) N7.out.1 ⟨B3.out, brief_none, brief_none⟩ (by have := A7.out.bound HF.out (by omega) (by decide); have := N5.out.2; have := N7.out.2; omega)).mono ?_
          rintro e X8 ⟨v8, n8, rfl, hn8, hl8, ha, hg⟩
          have A8 := hid ha
          have G8 := hid hg
          clear ha hg
          have N8 := hid (And.intro hn8 hl8)
          obtain ⟨ad8, cp8, rfl⟩ := hn8.is
          clear hn8 hl8
          go_wp2_with fail
          go_ret
          exact HP.out 300 _ _ (A8.out.done 1 N8.out.1 (by have := N8.out.2; have := N5.out.2; have := N7.out.2; omega) (by omega)) (Or.inr ⟨HPos.out, by omega⟩)
        · go_wp2_with fail
          refine (A2.out.name HF.out (by omega)).mono ?_
          rintro e X3 ⟨x3, s3, rfl, hb3, ha, hg⟩
          have A3 := hid ha
          have G3 := hid hg
          clear ha hg
          have B3 := hid hb3
          clear hb3
          go_wp2_with fail
          refine (A3.out.name HF.out (by omega)).mono ?_
          rintro e X4 ⟨x4, s4, rfl, hb4, ha, hg⟩
          have A4 := hid ha
          have G4 := hid hg
          clear ha hg
          have B4 := hid hb4
          clear hb4
          go_wp2_with fail
          refine (A4.out.nodes (HO.out (deep - 1) 4 _ _ _ _ _ _ (by have := HD.out; omega) (by have := HD.out; omega) (A4.out.fit HF.out 10 (by omega)) A4.out.1 (HE.out.grew (G1.out.trans (G2.out.trans (G3.out.trans G4.out)))).down)).mono ?_
          rintro e X5 ⟨v5, n5, s5, t5, rfl, hn5, hl5, ha, hg⟩
          have A5 := hid ha
          have G5 := hid hg
          clear ha hg
          have N5 := hid (And.intro hn5 hl5)
          obtain ⟨ad5, cp5, rfl⟩ := hn5.is
          clear hn5 hl5
          go_wp2_with fail
          refine (A5.out.nodes (HO.out (deep - 1) ty _ _ _ _ _ _ (by have := HD.out; omega) (by have := HD.out; omega) (A5.out.fit HF.out 10 (by omega)) A5.out.1 (HE.out.grew (G1.out.trans (G2.out.trans (G3.out.trans (G4.out.trans G5.out))))).down)).mono ?_
          rintro e X6 ⟨v6, n6, s6, t6, rfl, hn6, hl6, ha, hg⟩
          have A6 := hid ha
          have G6 := hid hg
          clear ha hg
          have N6 := hid (And.intro hn6 hl6)
          obtain ⟨ad6, cp6, rfl⟩ := hn6.is
          clear hn6 hl6
          go_wp2_with fail
          refine (A6.out.add x3 1 0 (HE.out.grew (G1.out.trans (G2.out.trans (G3.out.trans (G4.out.trans (G5.out.trans G6.out)))))).know B3.out (by have := HE.out.room; omega)).mono ?_
          rintro e X7 ⟨u7, ks7, rfl, hk7, hkl7, ha, hg⟩
          have A7 := hid ha
          have G7 := hid hg
          clear ha hg
          have K7 := hid (And.intro hk7 hkl7)
          obtain ⟨ad7, cp7, rfl⟩ := hk7.is
          clear hk7 hkl7
          go_wp2_with fail
          refine (A7.out.add x4 4 0 K7.out.1 B4.out (by have := HE.out.room; have := K7.out.2; omega)).mono ?_
          rintro e X8 ⟨u8, ks8, rfl, hk8, hkl8, ha, hg⟩
          have A8 := hid ha
          have G8 := hid hg
          clear ha hg
          have K8 := hid (And.intro hk8 hkl8)
          obtain ⟨ad8, cp8, rfl⟩ := hk8.is
          clear hk8 hkl8
          go_wp2_with fail
          refine (A8.out.nodes (HO.out (deep - 1) ty _ _ _ _ _ _ (by have := HD.out; omega) (by have := HD.out; omega) (A8.out.fit HF.out 10 (by omega)) A8.out.1 ((HE.out.grew (G1.out.trans (G2.out.trans (G3.out.trans (G4.out.trans (G5.out.trans (G6.out.trans (G7.out.trans G8.out)))))))).with K8.out.1 (by have := K7.out.2; have := K8.out.2; omega)))).mono ?_
          rintro e X9 ⟨v9, n9, s9, t9, rfl, hn9, hl9, ha, hg⟩
          have A9 := hid ha
          have G9 := hid hg
          clear ha hg
          have N9 := hid (And.intro hn9 hl9)
          obtain ⟨ad9, cp9, rfl⟩ := hn9.is
          clear hn9 hl9
          go_wp2_with fail
          refine (A9.out.put3 20 0 0 x3 x4 ByteArray.empty (N5.out.1.grew (G6.out.trans (G7.out.trans (G8.out.trans G9.out)))) (N6.out.1.grew (G7.out.trans (G8.out.trans G9.out))) N9.out.1 ⟨B3.out, B4.out, brief_none⟩ (by have := A9.out.bound HF.out (by omega) (by decide); have := N5.out.2; have := N6.out.2; have := N9.out.2; omega)).mono ?_
          rintro e X10 ⟨v10, n10, rfl, hn10, hl10, ha, hg⟩
          have A10 := hid ha
          have G10 := hid hg
          clear ha hg
          have N10 := hid (And.intro hn10 hl10)
          obtain ⟨ad10, cp10, rfl⟩ := hn10.is
          clear hn10 hl10
          go_wp2_with fail
          go_ret
          exact HP.out 300 _ _ (A10.out.done 1 N10.out.1 (by have := N10.out.2; have := N5.out.2; have := N6.out.2; have := N9.out.2; omega) (by omega)) (Or.inr ⟨HPos.out, by omega⟩)
        · go_wp2_with fail
          refine (A2.out.nodes (HH.out ty (deep - 1) _ _ _ _ _ _ (by have := HD.out; omega) (by have := HD.out; omega) A2.out.1 (A2.out.fit HF.out 250 (by omega)) (HE.out.grew (G1.out.trans G2.out)))).mono ?_
          rintro e X3 ⟨v3, n3, s3, t3, rfl, hn3, hl3, ha, hg⟩
          have A3 := hid ha
          have G3 := hid hg
          clear ha hg
          have N3 := hid (And.intro hn3 hl3)
          obtain ⟨ad3, cp3, rfl⟩ := hn3.is
          clear hn3 hl3
          go_wp2_with fail
          go_ret
          exact HP.out 300 _ _ (A3.out.done 0 N3.out.1 (by have := N3.out.2; omega) (by omega)) (Or.inr ⟨HPos.out, by omega⟩)
        · go_wp2_with fail
          refine (A2.out.nodes (HH.out ty (deep - 1) _ _ _ _ _ _ (by have := HD.out; omega) (by have := HD.out; omega) A2.out.1 (A2.out.fit HF.out 250 (by omega)) (HE.out.grew (G1.out.trans G2.out)))).mono ?_
          rintro e X3 ⟨v3, n3, s3, t3, rfl, hn3, hl3, ha, hg⟩
          have A3 := hid ha
          have G3 := hid hg
          clear ha hg
          have N3 := hid (And.intro hn3 hl3)
          obtain ⟨ad3, cp3, rfl⟩ := hn3.is
          clear hn3 hl3
          go_wp2_with fail
          go_ret
          exact HP.out 300 _ _ (A3.out.done 0 N3.out.1 (by have := N3.out.2; omega) (by omega)) (Or.inr ⟨HPos.out, by omega⟩)
        · go_wp2_with fail
          refine (A2.out.nodes0 (cont_calls ty (deep - 1) HO.out (by have := HD.out; omega) (by have := HD.out; omega) (by have := HD.out; omega) A2.out.1 (A2.out.fit HF.out 30 (by omega)) (HE.out.grew (G1.out.trans G2.out)))).mono ?_
          rintro e X3 ⟨v3, n3, s3, t3, rfl, hn3, hl3, ha, hg⟩
          have A3 := hid ha
          have G3 := hid hg
          clear ha hg
          have N3 := hid (And.intro hn3 hl3)
          obtain ⟨ad3, cp3, rfl⟩ := hn3.is
          clear hn3 hl3
          by_cases hz : n3.length = 0
          · rw [hz]
            go_wp2_with fail
            refine (A3.out.nodes (gown_calls ty (deep - 1) HO.out (by have := HD.out; omega) (by have := HD.out; omega) (by have := HD.out; omega) A3.out.1 (A3.out.fit HF.out 100 (by omega)) (HE.out.grew (G1.out.trans (G2.out.trans G3.out))))).mono ?_
            rintro e X4 ⟨v4, n4, s4, t4, rfl, hn4, hl4, ha, hg⟩
            have A4 := hid ha
            have G4 := hid hg
            clear ha hg
            have N4 := hid (And.intro hn4 hl4)
            obtain ⟨ad4, cp4, rfl⟩ := hn4.is
            clear hn4 hl4
            go_wp2_with fail
            go_ret
            exact HP.out 300 _ _ (A4.out.done 0 N4.out.1 (by have := N4.out.2; omega) (by omega)) (Or.inr ⟨HPos.out, by omega⟩)
          · have hz' : (0 : Int) < (n3.length : Int) := by omega
            go_wp2_with fail
            go_ret
            exact HP.out 300 _ _ (A3.out.done 0 N3.out.1 (by have := N3.out.2; omega) (by omega)) (Or.inr ⟨HPos.out, by omega⟩)
        · go_wp2_with fail
          refine (A2.out.nodes0 (perform_calls ty (deep - 1) HO.out (by have := HD.out; omega) (by have := HD.out; omega) (by have := HD.out; omega) A2.out.1 (A2.out.fit HF.out 30 (by omega)) (HE.out.grew (G1.out.trans G2.out)))).mono ?_
          rintro e X3 ⟨v3, n3, s3, t3, rfl, hn3, hl3, ha, hg⟩
          have A3 := hid ha
          have G3 := hid hg
          clear ha hg
          have N3 := hid (And.intro hn3 hl3)
          obtain ⟨ad3, cp3, rfl⟩ := hn3.is
          clear hn3 hl3
          by_cases hz : n3.length = 0
          · rw [hz]
            go_wp2_with fail
            refine (A3.out.nodes (gown_calls ty (deep - 1) HO.out (by have := HD.out; omega) (by have := HD.out; omega) (by have := HD.out; omega) A3.out.1 (A3.out.fit HF.out 100 (by omega)) (HE.out.grew (G1.out.trans (G2.out.trans G3.out))))).mono ?_
            rintro e X4 ⟨v4, n4, s4, t4, rfl, hn4, hl4, ha, hg⟩
            have A4 := hid ha
            have G4 := hid hg
            clear ha hg
            have N4 := hid (And.intro hn4 hl4)
            obtain ⟨ad4, cp4, rfl⟩ := hn4.is
            clear hn4 hl4
            go_wp2_with fail
            go_ret
            exact HP.out 300 _ _ (A4.out.done 0 N4.out.1 (by have := N4.out.2; omega) (by omega)) (Or.inr ⟨HPos.out, by omega⟩)
          · have hz' : (0 : Int) < (n3.length : Int) := by omega
            go_wp2_with fail
            go_ret
            exact HP.out 300 _ _ (A3.out.done 0 N3.out.1 (by have := N3.out.2; omega) (by omega)) (Or.inr ⟨HPos.out, by omega⟩)
        · have g0 := A2.out.1.c0
          go_wp2_with fail
          refine (A2.out.pick HF.out (by omega) 2 (by decide)).mono ?_
          rintro e X3 ⟨m3, s3, rfl, hm3, hM3, ha, hg⟩
          have A3 := hid ha
          have G3 := hid hg
          clear ha hg
          clear g0
          by_cases h7 : m3 = 0
          · subst h7
            go_upto_region 29 with fail
            refine pick_begin (S := fun w' => w'.cell? ⟨d.G, 0, none⟩ = some (.pointer (some ⟨d.B, 0, none⟩))) (by kernel_rfl) rfl rfl ?_
            have A4 := hid A3.out.drew
            have G4 := hid (Grew.refl d X3).drew
            generalize X3.drew = X4 at *
            refine pick_op (i := 0) (v := .agg #[.int .i64 17, .int .i64 0, .string ⟨#[]⟩, .string ⟨#[]⟩, .string ⟨#[]⟩, .int .i64 0]) (by kernel_rfl) rfl (by kernel_rfl) (by kernel_rfl) rfl rfl (fun w' hw => by simp [go_sem]) (A4.out.1.c0) (by simp [go_sem]; exact rfl) ?_
            refine pick_op (i := 1) (v := .agg #[.int .i64 16, .int .i64 0, .string ⟨#[]⟩, .string ⟨#[]⟩, .string ⟨#[]⟩, .int .i64 0]) (by kernel_rfl) rfl (by kernel_rfl) (by kernel_rfl) rfl rfl (fun w' hw => by simp [go_sem]) (A4.out.1.c0) (by simp [go_sem]; exact rfl) ?_
            refine pick_op (i := 2) (v := .pointer (some ⟨d.G, 0, none⟩)) (by kernel_rfl) rfl (by kernel_rfl) (by kernel_rfl) rfl rfl (fun w' hw => by simp [go_sem]) (A4.out.1.c0) (by simp [go_sem]; exact rfl) ?_
            refine pick_op (i := 3) (v := .int .i64 ty) (by kernel_rfl) rfl (by kernel_rfl) (by kernel_rfl) rfl rfl (fun w' hw => by simp [go_sem]) (A4.out.1.c0) (by simp [go_sem]; exact rfl) ?_
            refine pick_op (i := 4) (v := .slice ad ks.length cp) (by kernel_rfl) rfl (by kernel_rfl) (by kernel_rfl) rfl rfl (fun w' hw => by simp [go_sem]) (A4.out.1.c0) (by simp [go_sem]; exact rfl) ?_
            refine pick_op (i := 5) (v := .slice adm ms.length cpm) (by kernel_rfl) rfl (by kernel_rfl) (by kernel_rfl) rfl rfl (fun w' hw => by simp [go_sem]) (A4.out.1.c0) (by simp [go_sem]; exact rfl) ?_
            refine pick_op (i := 6) (v := .int .i64 (deep - 1)) (by kernel_rfl) rfl (by kernel_rfl) (by kernel_rfl) rfl rfl (fun w' hw => by simp [go_sem]) (A4.out.1.c0) (by simp [go_sem]; exact rfl) ?_
            refine pick_op (i := 8) (v := .pointer (some ⟨d.G, 0, none⟩)) (by kernel_rfl) rfl (by kernel_rfl) (by kernel_rfl) rfl rfl (fun w' hw => by simp [go_sem]) (A4.out.1.c0) (by simp [go_sem]; exact rfl) ?_
            refine pick_op (i := 9) (v := .pointer (some ⟨d.G, 0, none⟩)) (by kernel_rfl) rfl (by kernel_rfl) (by kernel_rfl) rfl rfl (fun w' hw => by simp [go_sem]) (A4.out.1.c0) (by simp [go_sem]; exact rfl) ?_
            refine pick_op (i := 10) (v := .pointer (some ⟨d.G, 0, none⟩)) (by kernel_rfl) rfl (by kernel_rfl) (by kernel_rfl) rfl rfl (fun w' hw => by simp [go_sem]) (A4.out.1.c0) (by simp [go_sem]; exact rfl) ?_
            refine pick_op (i := 11) (v := .pointer (some ⟨d.G, 0, none⟩)) (by kernel_rfl) rfl (by kernel_rfl) (by kernel_rfl) rfl rfl (fun w' hw => by simp [go_sem]) (A4.out.1.c0) (by simp [go_sem]; exact rfl) ?_
            refine pick_op (i := 12) (v := .pointer (some ⟨d.B, 0, none⟩)) (by kernel_rfl) rfl (by kernel_rfl) (by kernel_rfl) rfl rfl (fun w' hw => by simp [go_sem, hw]) (A4.out.1.c0) (by simp [go_sem]; exact rfl) ?_
            refine pick_op (i := 15) (v := .slice ad ks.length cp) (by kernel_rfl) rfl (by kernel_rfl) (by kernel_rfl) rfl rfl (fun w' hw => by simp [go_sem]) (A4.out.1.c0) (by simp [go_sem]; exact rfl) ?_
            refine pick_enter (i := 7) (f := 30) (args := #[.pointer (some ⟨d.G, 0, none⟩), .int .i64 ty, .slice ad ks.length cp, .slice adm ms.length cpm, .int .i64 (deep - 1)]) rfl (by kernel_rfl) rfl rfl (by simp [go_sem]) ?_
            refine (A4.out.nodes (HO.out (deep - 1) ty _ _ _ _ _ _ (by have := HD.out; omega) (by have := HD.out; omega) (A4.out.fit HF.out 10 (by omega)) A4.out.1 (HE.out.grew (G1.out.trans (G2.out.trans (G3.out.trans G4.out)))).down)).mono ?_
            rintro e X5 ⟨v5, n5, s5, t5, rfl, hn5, hl5, ha, hg⟩
            have A5 := hid ha
            have G5 := hid hg
            clear ha hg
            have N5 := hid (And.intro hn5 hl5)
            obtain ⟨ad5, cp5, rfl⟩ := hn5.is
            clear hn5 hl5
            refine ⟨_, rfl, (A5.out.1.c0), ?_⟩
            refine pick_frame (by simp [go_sem]; exact rfl) ?_
            refine pick_enter (i := 13) (f := 16) (args := #[.pointer (some ⟨d.B, 0, none⟩), .int .i64 4]) rfl (by kernel_rfl) rfl rfl (by simp [go_sem]) ?_
            refine (A5.out.pick HF.out (by omega) 4 (by decide)).mono ?_
            rintro e X6 ⟨m6, s6, rfl, hm6, hM6, ha, hg⟩
            have A6 := hid ha
            have G6 := hid hg
            clear ha hg
            refine ⟨_, rfl, (A6.out.1.c0), ?_⟩
            refine pick_frame (by simp [go_sem]; exact rfl) ?_
            have hwr : IntKind.i64.wrap (1 + m6) = 1 + m6 := by rw [IntKind.wrap_i64]; omega
            refine pick_op (i := 14) (v := .int .i64 (1 + m6)) (by kernel_rfl) rfl (by kernel_rfl) (by kernel_rfl) rfl rfl (fun w' hw => by simp [go_sem, hwr]) (A6.out.1.c0) (by simp [go_sem]; exact rfl) ?_
            clear hwr
            refine pick_enter (i := 16) (f := 55) (args := #[.pointer (some ⟨d.G, 0, none⟩), .int .i64 (1 + m6), .slice ad ks.length cp]) rfl (by kernel_rfl) rfl rfl (by simp [go_sem]) ?_
            refine (A6.out.nodes (leaf_calls (1 + m6) A6.out.1 (A6.out.fit HF.out 10 (by omega)) (HE.out.grew (G1.out.trans (G2.out.trans (G3.out.trans (G4.out.trans (G5.out.trans G6.out)))))).know (by have := HE.out.room; omega))).mono ?_
            rintro e X7 ⟨v7, n7, s7, t7, rfl, hn7, hl7, ha, hg⟩
            have A7 := hid ha
            have G7 := hid hg
            clear ha hg
            have N7 := hid (And.intro hn7 hl7)
            obtain ⟨ad7, cp7, rfl⟩ := hn7.is
            clear hn7 hl7
            refine ⟨_, rfl, (A7.out.1.c0), ?_⟩
            refine pick_frame (by simp [go_sem]; exact rfl) ?_
            have KV : Hid (KidsV d (X7.alloc (.cells #[.slice ad5 n5.length cp5, .slice ad7 n7.length cp7] 53)) (.slice (some ⟨X7.heap.size, 0, none⟩) 2 2) [(.slice ad5 n5.length cp5, n5), (.slice ad7 n7.length cp7, n7)]) := (kids_lit [(.slice ad5 n5.length cp5, n5), (.slice ad7 n7.length cp7, n7)] _ rfl A7.out.1.ltB A7.out.1.ltG (fun x hx => by simp at hx; rcases hx with rfl | rfl; exact (N5.out.1.grew (G6.out.trans G7.out)); exact N7.out.1))
            have A8 := hid (A7.out.alloc (.cells #[.slice ad5 n5.length cp5, .slice ad7 n7.length cp7] 53))
            have G8 := hid ((Grew.refl d X7).alloc (.cells #[.slice ad5 n5.length cp5, .slice ad7 n7.length cp7] 53))
            refine pick_make (i := 17) (v := .slice (some ⟨X7.heap.size, 0, none⟩) 2 2) (w1 := X7.alloc (.cells #[.slice ad5 n5.length cp5, .slice ad7 n7.length cp7] 53)) rfl (by kernel_rfl) rfl rfl (by simp [go_sem]) (A8.out.1.c0) (by simp [go_sem]; exact rfl) ?_
            generalize X7.alloc (.cells #[.slice ad5 n5.length cp5, .slice ad7 n7.length cp7] 53) = X8 at *
            refine pick_enter (i := 18) (f := 56) (args := #[.agg #[.int .i64 16, .int .i64 0, .string ⟨#[]⟩, .string ⟨#[]⟩, .string ⟨#[]⟩, .int .i64 0], .slice (some ⟨X7.heap.size, 0, none⟩) 2 2]) rfl (by kernel_rfl) rfl rfl (by simp [go_sem]) ?_
            refine (A8.out.put_kids 16 0 0 ⟨#[]⟩ ⟨#[]⟩ ⟨#[]⟩ KV.out ⟨brief_none, brief_none, brief_none⟩ (by simp) (by have := A8.out.bound HF.out (by omega) (by decide); have := N5.out.2; have := N7.out.2; simp [flatL]; omega)).mono ?_
            rintro e X9 ⟨v9, n9, rfl, hn9, hl9, ha, hg⟩
            have A9 := hid ha
            have G9 := hid hg
            clear ha hg
            have N9 := hid (And.intro hn9 hl9)
            obtain ⟨ad9, cp9, rfl⟩ := hn9.is
            clear hn9 hl9
            refine ⟨_, rfl, (A9.out.1.c0), ?_⟩
            refine pick_frame (by simp [go_sem]; exact rfl) ?_
            have KW : Hid (KidsV d (X9.alloc (.cells #[.slice ad9 n9.length cp9] 53)) (.slice (some ⟨X9.heap.size, 0, none⟩) 1 1) [(.slice ad9 n9.length cp9, n9)]) := (kids_lit [(.slice ad9 n9.length cp9, n9)] _ rfl A9.out.1.ltB A9.out.1.ltG (fun x hx => by simp at hx; rcases hx with rfl; exact N9.out.1))
            have A10 := hid (A9.out.alloc (.cells #[.slice ad9 n9.length cp9] 53))
            have G10 := hid ((Grew.refl d X9).alloc (.cells #[.slice ad9 n9.length cp9] 53))
            refine pick_make (i := 19) (v := .slice (some ⟨X9.heap.size, 0, none⟩) 1 1) (w1 := X9.alloc (.cells #[.slice ad9 n9.length cp9] 53)) rfl (by kernel_rfl) rfl rfl (by simp [go_sem]) (A10.out.1.c0) (by simp [go_sem]; exact rfl) ?_
            generalize X9.alloc (.cells #[.slice ad9 n9.length cp9] 53) = X10 at *
            refine pick_enter (i := 20) (f := 56) (args := #[.agg #[.int .i64 17, .int .i64 0, .string ⟨#[]⟩, .string ⟨#[]⟩, .string ⟨#[]⟩, .int .i64 0], .slice (some ⟨X9.heap.size, 0, none⟩) 1 1]) rfl (by kernel_rfl) rfl rfl (by simp [go_sem]) ?_
            refine (A10.out.put_kids 17 0 0 ⟨#[]⟩ ⟨#[]⟩ ⟨#[]⟩ KW.out ⟨brief_none, brief_none, brief_none⟩ (by simp) (by have := A10.out.bound HF.out (by omega) (by decide); have q1 := N9.out.2; have := N5.out.2; have := N7.out.2; simp [flatL] at q1; simp [flatL]; omega)).mono ?_
            rintro e X11 ⟨v11, n11, rfl, hn11, hl11, ha, hg⟩
            have A11 := hid ha
            have G11 := hid hg
            clear ha hg
            have N11 := hid (And.intro hn11 hl11)
            obtain ⟨ad11, cp11, rfl⟩ := hn11.is
            clear hn11 hl11
            refine ⟨_, rfl, (A11.out.1.c0), ?_⟩
            refine pick_frame (by simp [go_sem]; exact rfl) ?_
            refine pick_op (i := 21) (v := .slice ad11 n11.length cp11) (by kernel_rfl) rfl (by kernel_rfl) (by kernel_rfl) rfl rfl (fun w' hw => by simp [go_sem]) (A11.out.1.c0) (by simp [go_sem]; exact rfl) ?_
            refine pick_end (by kernel_rfl) ?_
            go_wp2_with fail
            go_ret
            exact HP.out 300 _ _ (A11.out.done 5 N11.out.1 (by have := N11.out.2; have := N9.out.2; have := N5.out.2; have := N7.out.2; simp [flatL] at *; omega) (by omega)) (Or.inr ⟨HPos.out, by omega⟩)
          · have z7 : (m3 == 0) = false := by simp [h7]
            have g0 := A3.out.1.c0
            go_wp2_with fail
            refine (A3.out.pick HF.out (by omega) 4 (by decide)).mono ?_
            rintro e X4 ⟨m4, s4, rfl, hm4, hM4, ha, hg⟩
            have A4 := hid ha
            have G4 := hid hg
            clear ha hg
            clear g0
            go_wp2_with fail
            refine (A4.out.nodes (leaf_calls (1 + m4) A4.out.1 (A4.out.fit HF.out 10 (by omega)) (HE.out.grew (G1.out.trans (G2.out.trans (G3.out.trans G4.out)))).know (by have := HE.out.room; omega))).mono ?_
            rintro e X5 ⟨v5, n5, s5, t5, rfl, hn5, hl5, ha, hg⟩
            have A5 := hid ha
            have G5 := hid hg
            clear ha hg
            have N5 := hid (And.intro hn5 hl5)
            obtain ⟨ad5, cp5, rfl⟩ := hn5.is
            clear hn5 hl5
            go_wp2_with fail
            refine (A5.out.nodes (HO.out (deep - 1) ty _ _ _ _ _ _ (by have := HD.out; omega) (by have := HD.out; omega) (A5.out.fit HF.out 10 (by omega)) A5.out.1 (HE.out.grew (G1.out.trans (G2.out.trans (G3.out.trans (G4.out.trans G5.out))))).down)).mono ?_
            rintro e X6 ⟨v6, n6, s6, t6, rfl, hn6, hl6, ha, hg⟩
            have A6 := hid ha
            have G6 := hid hg
            clear ha hg
            have N6 := hid (And.intro hn6 hl6)
            obtain ⟨ad6, cp6, rfl⟩ := hn6.is
            clear hn6 hl6
            go_wp2_with fail
            refine (A6.out.put2 16 0 0 ByteArray.empty ByteArray.empty ByteArray.empty (N5.out.1.grew G6.out) N6.out.1 ⟨brief_none, brief_none, brief_none⟩ (by have := A6.out.bound HF.out (by omega) (by decide); have := N5.out.2; have := N6.out.2; omega)).mono ?_
            rintro e X7 ⟨v7, n7, rfl, hn7, hl7, ha, hg⟩
            have A7 := hid ha
            have G7 := hid hg
            clear ha hg
            have N7 := hid (And.intro hn7 hl7)
            obtain ⟨ad7, cp7, rfl⟩ := hn7.is
            clear hn7 hl7
            go_wp2_with fail
            refine (A7.out.put1 18 0 0 ByteArray.empty ByteArray.empty ByteArray.empty N7.out.1 ⟨brief_none, brief_none, brief_none⟩ (by have := A7.out.bound HF.out (by omega) (by decide); have := N7.out.2; have := N5.out.2; have := N6.out.2; omega)).mono ?_
            rintro e X8 ⟨v8, n8, rfl, hn8, hl8, ha, hg⟩
            have A8 := hid ha
            have G8 := hid hg
            clear ha hg
            have N8 := hid (And.intro hn8 hl8)
            obtain ⟨ad8, cp8, rfl⟩ := hn8.is
            clear hn8 hl8
            go_wp2_with fail
            go_ret
            exact HP.out 300 _ _ (A8.out.done 2 N8.out.1 (by have := N8.out.2; have := N7.out.2; have := N5.out.2; have := N6.out.2; omega) (by omega)) (Or.inr ⟨HPos.out, by omega⟩)
        · go_wp2_with fail
          refine (A2.out.nodes (gown_calls ty (deep - 1) HO.out (by have := HD.out; omega) (by have := HD.out; omega) (by have := HD.out; omega) A2.out.1 (A2.out.fit HF.out 100 (by omega)) (HE.out.grew (G1.out.trans G2.out)))).mono ?_
          rintro e X3 ⟨v3, n3, s3, t3, rfl, hn3, hl3, ha, hg⟩
          have A3 := hid ha
          have G3 := hid hg
          clear ha hg
          have N3 := hid (And.intro hn3 hl3)
          obtain ⟨ad3, cp3, rfl⟩ := hn3.is
          clear hn3 hl3
          go_wp2_with fail
          go_ret
          exact HP.out 300 _ _ (A3.out.done 0 N3.out.1 (by have := N3.out.2; omega) (by omega)) (Or.inr ⟨HPos.out, by omega⟩)
        · go_wp2_with fail
          refine (A2.out.nodes (gown_calls ty (deep - 1) HO.out (by have := HD.out; omega) (by have := HD.out; omega) (by have := HD.out; omega) A2.out.1 (A2.out.fit HF.out 100 (by omega)) (HE.out.grew (G1.out.trans G2.out)))).mono ?_
          rintro e X3 ⟨v3, n3, s3, t3, rfl, hn3, hl3, ha, hg⟩
          have A3 := hid ha
          have G3 := hid hg
          clear ha hg
          have N3 := hid (And.intro hn3 hl3)
          obtain ⟨ad3, cp3, rfl⟩ := hn3.is
          clear hn3 hl3
          go_wp2_with fail
          go_ret
          exact HP.out 300 _ _ (A3.out.done 0 N3.out.1 (by have := N3.out.2; omega) (by omega)) (Or.inr ⟨HPos.out, by omega⟩)
        · go_wp2_with fail
          refine (A2.out.nodes (gown_calls ty (deep - 1) HO.out (by have := HD.out; omega) (by have := HD.out; omega) (by have := HD.out; omega) A2.out.1 (A2.out.fit HF.out 100 (by omega)) (HE.out.grew (G1.out.trans G2.out)))).mono ?_
          rintro e X3 ⟨v3, n3, s3, t3, rfl, hn3, hl3, ha, hg⟩
          have A3 := hid ha
          have G3 := hid hg
          clear ha hg
          have N3 := hid (And.intro hn3 hl3)
          obtain ⟨ad3, cp3, rfl⟩ := hn3.is
          clear hn3 hl3
          go_wp2_with fail
          go_ret
          exact HP.out 300 _ _ (A3.out.done 0 N3.out.1 (by have := N3.out.2; omega) (by omega)) (Or.inr ⟨HPos.out, by omega⟩)
end Go.Proofs.YtfmkgppkgmjpfaaGreatDoor

/- The drawer keeps its contract at all depths. -/
namespace Go.Proofs.YtfmkgppkgmjpfaaGreatDoor
open Go.RowKit Go.Deep

set_option maxHeartbeats 8000000 in
set_option maxRecDepth 100000 in
theorem of_zero {d : Dr} {ve : Value} {es : List Ef} : OfC d ve es 0 := by
  intro deep ty v vm ks ms W s h1 h2 hf h hE
  have hl := h.setLeft (s.left - 1)
  have f2 := h.f2
  have c2 := h.c2
  have HW : Hid (wrap64 (s.left - 1) = s.left - 1) := by show _ = _; unfold Fit at hf; unfold wrap64; omega
  have hd : deep ≤ 1 := by omega
  obtain ⟨ad, cp, rfl⟩ := hE.know.is
  obtain ⟨adm, cpm, rfl⟩ := hE.may.is
  obtain ⟨X, hX⟩ : ∃ X, W.setCell ⟨d.G, 2, none⟩ (.int .i64 (s.left - 1)) = X := ⟨_, rfl⟩
  rw [hX] at hl
  have HX := hid hX
  obtain ⟨s1, hs1⟩ : ∃ s1 : Cn, { s with left := s.left - 1 } = s1 := ⟨_, rfl⟩
  rw [hs1] at hl
  have e1 : s1.p = s.p := by rw [← hs1]
  have e2 : s1.next = s.next := by rw [← hs1]
  have e3 : s1.left = s.left - 1 := by rw [← hs1]
  have HFF := hid (of_fit hf e1 e2 e3)
  have HP := hid (fun (c : Nat) (e : Ending) (Y : World) (h : NodesPost d ve X s1 c e Y) (hc : c ≤ 9 ∨ (0 < s.left ∧ c ≤ 300)) => of_post hl.2 e1 e2 e3 h hc)
  have A0 := hid (At.start hl.1)
  have HE := hid (hE.grew hl.2)
  have g2 := hl.1.c2
  have g0 := hl.1.c0
  rw [e3] at g2
  obtain ⟨L, hL⟩ : ∃ L : Int, s.left - 1 = L := ⟨_, rfl⟩
  have HLe := hid hL
  rw [hL] at g2
  clear hl hf h hE hX hs1 e1 e2 e3 hL
  go_enter Tryz.func30, Tryz.ntmps30
  go_upto_region 2 with fail
  try rw [HW.out]
  rw [HX.out]
  clear c2 f2 HW HX
  have HLF := hid (leaf_nine ty A0.out.1 HFF.out.1 HE.out.know (by have := HE.out.room; omega))
  go_wp2_with fail
  refine HLF.out.mono ?_
  rintro e Xl ⟨vl, nl, sl, tl, rfl, hnl, hll, hgl, hgrl, hspl⟩
  have NL := hid (And.intro hnl (And.intro hll (And.intro hgl (And.intro hgrl hspl))))
  clear hnl hll hgl hgrl hspl
  go_wp2_with fail
  go_ret
  exact HP.out 9 _ _ ⟨vl, nl, sl, tl, rfl, NL.out.1, NL.out.2.1, NL.out.2.2.1, NL.out.2.2.2.1, NL.out.2.2.2.2⟩ (Or.inl (by omega))

theorem of_all {d : Dr} {ve : Value} {es : List Ef} : ∀ D : Nat, D ≤ 90 → OfC d ve es D
  | 0, _ => of_zero
  | D + 1, h => of_step (by omega) (of_all D (by omega)) (fun ty deep v vm ks ms X s h1 h2 hG hF hE => handler_calls ty deep (of_all D (by omega)) h1 h2 (by omega) hG hF hE)
end Go.Proofs.YtfmkgppkgmjpfaaGreatDoor

/- The operations of a drawn program; a reader without a drawer, and with one. -/
namespace Go.Proofs.YtfmkgppkgmjpfaaGreatDoor
open Go.RowKit Go.Deep

/-- The reader with a drawer beside it. -/
def Dr.on (d : Dr) (G : Nat) : Dr := ⟨d.B, G, d.a0, d.len, d.cap⟩

theorem free_on {d : Dr} {W W' : World} {q : Nat} (h : d.free W q) (hs : W.heap.size ≤ W'.heap.size) {G : Nat} (hg : W.heap.size ≤ G) : (d.on G).free W' q :=
  ⟨Nat.lt_of_lt_of_le h.1 hs, h.2.1, by have := h.1; show q ≠ G; omega⟩

theorem free_off {d : Dr} {W : World} {q G : Nat} (hG : d.G = d.B) (h : (d.on G).free W q) : d.free W q := ⟨h.1, h.2.1, by rw [hG]; exact h.2.1⟩

theorem Lies.on {d : Dr} {W W' : World} {v : Value} {n sz G : Nat} {F : Nat → Value} (h : Lies d W v n sz F) (hb : Below W.heap.size W W') (hg : W.heap.size ≤ G) : Lies (d.on G) W' v n sz F := by
  rcases h with h | ⟨b, off, cap, h1, h2, h3, h4, h5⟩
  · exact Or.inl h
  · exact Or.inr ⟨b, off, cap, h1, h2, h3, free_on h4 hb.size hg, fun i hi => (hb.cell (p := ⟨b, off + i, none⟩) h4.1).trans (h5 i hi)⟩

theorem Lies.off {d : Dr} {W : World} {v : Value} {n sz G : Nat} {F : Nat → Value} (hG : d.G = d.B) (h : Lies (d.on G) W v n sz F) : Lies d W v n sz F := by
  rcases h with h | ⟨b, off, cap, h1, h2, h3, h4, h5⟩
  · exact Or.inl h
  · exact Or.inr ⟨b, off, cap, h1, h2, h3, free_off hG h4, h5⟩

theorem Rdr.on {d : Dr} {W W' : World} {p G : Nat} (h : Rdr d W p) (hb : Below W.heap.size W W') (hg : W.heap.size ≤ G) : Rdr (d.on G) W' p := by
  refine ⟨(hb.block _ (heap_lt h.blk)).trans h.blk, fun hl => ?_⟩
  obtain ⟨b, off, ea, hq, hz⟩ := h.bytes hl
  refine ⟨b, off, ea, free_on hq hb.size hg, fun i hi => ?_⟩
  obtain ⟨z, hz, h2⟩ := hz i hi
  exact ⟨z, (hb.cell (p := ⟨b, off + i, none⟩) hq.1).trans hz, h2⟩

theorem Rdr.off {d : Dr} {W : World} {p G : Nat} (hG : d.G = d.B) (h : Rdr (d.on G) W p) : Rdr d W p := by
  refine ⟨h.blk, fun hl => ?_⟩
  obtain ⟨b, off, ea, hq, hz⟩ := h.bytes hl
  exact ⟨b, off, ea, free_off hG hq, hz⟩

theorem Grew.off {d : Dr} {W X Y : World} {G : Nat} (h : Grew d W X) (g : Grew (d.on G) X Y) (hg : W.heap.size ≤ G) : Grew d W Y :=
  ⟨g.os.trans h.os, g.tape.trans h.tape, g.output.trans h.output, Nat.le_trans h.size g.size, fun q hq => (g.block q ⟨Nat.lt_of_lt_of_le hq.1 h.size, hq.2.1, by have := hq.1; show q ≠ G; omega⟩).trans (h.block q hq)⟩

theorem lies_take {α : Type} [Inhabited α] {f : α → Nat → Value} {sz : Nat} {d : Dr} {W : World} {b cap n k : Nat} {l : List α} (h : Lies d W (.slice (some ⟨b, 0, none⟩) n cap) l.length sz (fun i => f (l.getD (i / sz) default) (i % sz))) (hk : k ≤ n) (hn : 0 < n) (hl : l.length = n) : Lies d W (.slice (some ⟨b, 0, none⟩) k cap) (l.take k).length sz (fun i => f ((l.take k).getD (i / sz) default) (i % sz)) := by
  obtain ⟨-, hc, b', off, e, hq, h5⟩ := h.at hn
  cases e
  have hlk : (l.take k).length = k := by rw [List.length_take]; omega
  rw [hlk]
  refine Or.inr ⟨b, 0, cap, rfl, by omega, rfl, hq, fun i hi => ?_⟩
  have hi' : i / sz < k := Nat.div_lt_of_lt_mul (by rw [Nat.mul_comm]; exact hi)
  rw [h5 i (Nat.lt_of_lt_of_le hi (Nat.mul_le_mul_right _ hk))]
  have e : (l.take k).getD (i / sz) default = l.getD (i / sz) default := by simp [List.getD, List.getElem?_take_of_lt hi']
  show _ = some (f ((l.take k).getD (i / sz) default) (i % sz))
  rw [e]

def all4 : List Ef := [⟨⟨#[97, 115, 107]⟩, 3, 1⟩, ⟨⟨#[116, 101, 108, 108]⟩, 1, 3⟩, ⟨⟨#[102, 108, 105, 112]⟩, 3, 2⟩, ⟨⟨#[112, 97, 115, 115]⟩, 4, 1⟩]

theorem all4_brief : ∀ e ∈ all4, Brief e.name := by
  intro e he
  unfold all4 at he
  simp only [List.mem_cons, List.not_mem_nil, or_false] at he
  rcases he with rfl | rfl | rfl | rfl <;> (unfold Brief; decide)

def EffsPost (d : Dr) (W : World) (p : Nat) (e : Ending) (W' : World) : Prop :=
  ∃ v es, e = .returned v ∧ EffsD d W' v es ∧ 1 ≤ es.length ∧ es.length ≤ 4 ∧ Rdr d W' (p + 1) ∧ Grew d W W'

set_option maxHeartbeats 4000000 in
set_option maxRecDepth 100000 in
theorem effs_calls {d : Dr} {W : World} {p : Nat} (hG : d.G = d.B) (h : Rdr d W p) (hp : p ≤ 1000000) : Calls Tryz.prog 29 #[.pointer (some ⟨d.B, 0, none⟩)] W (EffsPost d W p) := by
  have hB := heap_lt h.blk
  have HL := hid (lies_lit (f := Ef.cell) (sz := 3) (d := d) (by decide) W 112 all4 _ rfl hB (by rw [hG]; exact hB))
  have hbl : Below W.heap.size W (W.alloc (.cells (rowZ Ef.cell 3 all4).toArray 112)) := (Below.refl _ _).alloc (Nat.le_refl _) _
  have HB := hid hbl
  have HP := hid (rdr_pick (h.below hbl) hp 4 (by decide))
  clear hbl h hp
  go_enter Tryz.func29, Tryz.ntmps29
  go_wp2_with fail
  refine HP.out.mono ?_
  rintro e X ⟨m, rfl, hm0, hm1, hr, hg, -, -⟩
  have HR := hid (And.intro hr hg)
  have HX := hid (HL.out.grew hg)
  clear hr hg HP HL
  have hcs : m = 0 ∨ m = 1 ∨ m = 2 ∨ m = 3 := by omega
  rcases hcs with rfl | rfl | rfl | rfl
  · go_wp2_with fail
    go_ret
    exact ⟨_, all4.take 1, rfl, ⟨lies_take HX.out (by decide) (by decide) rfl, fun e he => all4_brief e (List.mem_of_mem_take he)⟩, by decide, by decide, HR.out.1, (Grew.of_below HB.out).trans HR.out.2⟩
  · go_wp2_with fail
    go_ret
    exact ⟨_, all4.take 2, rfl, ⟨lies_take HX.out (by decide) (by decide) rfl, fun e he => all4_brief e (List.mem_of_mem_take he)⟩, by decide, by decide, HR.out.1, (Grew.of_below HB.out).trans HR.out.2⟩
  · go_wp2_with fail
    go_ret
    exact ⟨_, all4.take 3, rfl, ⟨lies_take HX.out (by decide) (by decide) rfl, fun e he => all4_brief e (List.mem_of_mem_take he)⟩, by decide, by decide, HR.out.1, (Grew.of_below HB.out).trans HR.out.2⟩
  · go_wp2_with fail
    go_ret
    exact ⟨_, all4.take 4, rfl, ⟨lies_take HX.out (by decide) (by decide) rfl, fun e he => all4_brief e (List.mem_of_mem_take he)⟩, by decide, by decide, HR.out.1, (Grew.of_below HB.out).trans HR.out.2⟩
end Go.Proofs.YtfmkgppkgmjpfaaGreatDoor

/- A drawn program: mostly one that has a type, and always one whose tree is a tree. -/
namespace Go.Proofs.YtfmkgppkgmjpfaaGreatDoor
open Go.RowKit Go.Deep

/-- These nodes are a tree, within the sizes. -/
def Tr (ns : List Nd) : Prop := ∃ (n : Nd) (k : Fo), ns = n :: k.flat ∧ n.kids = k.count ∧ k.wf ∧ ns.length ≤ 300

theorem tr_of_ans {ns : List Nd} (h : SpecAns ns true) : Tr ns := by
  rcases h with ⟨-, h⟩ | ⟨-, -, -, h⟩ | ⟨h1, h2, n, k, e1, e2, e3, -⟩
  · cases h
  · cases h
  · exact ⟨n, k, e1, e2, e3, h2⟩

theorem prog_true {es : List Ef} {ns : List Nd} {T : Bool} (h : progZ es ns T = true) : T = true := by
  unfold progZ at h
  cases T
  · simp at h
  · rfl

def ProgPost (d : Dr) (W : World) (p : Nat) (e : Ending) (W' : World) : Prop :=
  ∃ ad n cp vt es ns p', e = .returned (.agg #[.slice ad n cp, vt]) ∧ EffsD d W' (.slice ad n cp) es ∧ es.length ≤ 4 ∧ NodesD d W' vt ns ∧ Tr ns ∧ Rdr d W' p' ∧ p' ≤ p + 200000 ∧ Grew d W W'

/-- What lies there when the program is drawn. -/
structure Pg (d : Dr) (W X : World) (p p' : Nat) (rb : Nat) : Prop where
  rd : Rdr d X p'
  gr : Grew d W X
  res : X.heap[rb]? = some (.cells #[.slice none 0 0, .slice none 0 0] 55)
  low : W.heap.size ≤ rb

/-- A call, or one that makes something: whichever comes up. -/
theorem pick_either2 {P : Program} {l0 : List Oper} {Q : Exit → Act → World → Prop} {S : World → Prop} {i j n : Nat} {ls : Array Bool} {a : Act} {w : World} (hr : (Region.ready .any l0.toArray ls == [i, j]) = true) (h1 : PickCl P l0 Q S n ls a w i) (h2 : PickMk P l0 Q S n ls a w j) : wpAnyH P .any l0.toArray (NoPanic Q) S (n + 1) ls a w := by
  refine wpAnyH_all (rs := [i, j]) (by simpa using hr) (by simp) (fun k hk => ?_)
  simp only [List.mem_cons, List.not_mem_nil, or_false] at hk
  rcases hk with rfl | rfl
  · exact h1.op
  · exact h2.op

theorem made_bools (n : Nat) (hn : n ≤ 1000) (w : World) : ∃ c : Array Value, c = madeCells #[.bool false] n ∧ (Instr.makeSlice 91 (.int .i64 (n : Int)) (.int .i64 (n : Int))).run Tryz.prog w = .ok (.slice (some ⟨w.heap.size, 0, none⟩) n n) (w.alloc (.cells c 4)) := by
  obtain ⟨i0, hi, hz0, hz1, hz2⟩ := info_parts info_bool
  have h := run_make (P := Tryz.prog) w 91 4 i0 _ Tryz.underlying91 hi hz0 .i64 .i64 n n (by omega) (Int.le_refl _) (by rw [hz2]; omega) (by omega)
  rw [hz1] at h
  simp only [Int.toNat_natCast, Nat.mul_one] at h
  exact ⟨_, rfl, h⟩

theorem bools_made {d : Dr} {X : World} {n : Nat} {c : Array Value} (hc : c = madeCells #[.bool false] n) (h1 : d.B < X.heap.size) (h2 : d.G < X.heap.size) : BoolsD d (X.alloc (.cells c 4)) (.slice (some ⟨X.heap.size, 0, none⟩) n n) (List.replicate n false) := by
  subst hc
  have hh := (MapKept.heap_alloc X (.cells (madeCells #[.bool false] n) 4)).1
  unfold BoolsD
  rw [List.length_replicate]
  refine Or.inr ⟨_, 0, _, rfl, Nat.le_refl _, rfl, ⟨heap_lt hh, by omega, by omega⟩, fun i hi => ?_⟩
  rw [Nat.mul_one] at hi
  rw [Nat.zero_add, cell_of_heap hh i]
  have e : (madeCells #[.bool false] n)[i]? = some (.bool false) := by simp [madeCells, hi, Nat.mod_one]
  rw [e]
  simp [List.getD, hi]

/-- When the tree is drawn and stored. -/
structure Fi (d : Dr) (W : World) (p i rb bp : Nat) (ve vt : Value) (es : List Ef) (ns : List Nd) (Z : World) (q : Nat) : Prop where
  rd : Rdr d Z q
  cost : q ≤ p + 30000 * (i + 1)
  gr : Grew d W Z
  res : Z.heap[rb]? = some (.cells #[.slice none 0 0, .slice none 0 0] 55)
  low : W.heap.size ≤ rb
  box : Z.heap[bp]? = some (.cells #[ve, vt] 55)
  effs : EffsD d Z ve es
  some_ : 1 ≤ es.length
  nodes : NodesD d Z vt ns
  any : 1 ≤ ns.length ∧ ns.length ≤ 100000

theorem Fi.below {d : Dr} {W : World} {p i rb bp : Nat} {ve vt : Value} {es : List Ef} {ns : List Nd} {Z Z' : World} {q : Nat} (h : Fi d W p i rb bp ve vt es ns Z q) (hb : Below Z.heap.size Z Z') : Fi d W p i rb bp ve vt es ns Z' q :=
  ⟨h.rd.below hb, h.cost, h.gr.trans (Grew.of_below hb), (hb.block _ (heap_lt h.res)).trans h.res, h.low, (hb.block _ (heap_lt h.box)).trans h.box, h.effs.grew (Grew.of_below hb), h.some_, h.nodes.grew (Grew.of_below hb), h.any⟩

theorem Fi.lies {d : Dr} {W : World} {p i rb bp : Nat} {ve vt : Value} {es : List Ef} {ns : List Nd} {Z : World} {q : Nat} (h : Fi d W p i rb bp ve vt es ns Z q) :
    ∃ be ce bt ct, ve = .slice (some ⟨be, 0, none⟩) es.length ce ∧ vt = .slice (some ⟨bt, 0, none⟩) ns.length ct ∧ be < Z.heap.size ∧ bt < Z.heap.size ∧ EffsAt Z be 0 es ∧ NodesAt Z bt 0 ns ∧ ns.length ≤ 1048576 := by
  have h1 := h.some_
  have h2 := h.any
  obtain ⟨⟨-, h0⟩ | ⟨be, off, ce, e1, -, rfl, hq, hc⟩, -⟩ := h.effs
  · omega
  obtain ⟨⟨-, h0⟩ | ⟨bt, off, ct, e2, -, rfl, hq', hc'⟩, -⟩ := h.nodes
  · omega
  refine ⟨be, ce, bt, ct, e1, e2, hq.1, hq'.1, fun k hk c hc2 => ?_, fun k hk c hc2 => ?_, by omega⟩
  · rw [Nat.add_assoc, hc (k * 3 + c) (by omega)]
    exact congrArg some (cell_div es Ef.cell 3 k c hc2)
  · rw [Nat.add_assoc, hc' (k * 6 + c) (by omega)]
    exact congrArg some (cell_div ns Nd.cell 6 k c hc2)

/-- What lies in a block of a program is neither names nor numbers. -/
theorem lies_not {d : Dr} {W : World} {v : Value} {n sz : Nat} {F : Nat → Value} {bp : Nat} {u0 u1 : Value} {t : TypeId} (h : Lies d W v n sz F) (hn : 0 < n * sz) (hb : W.heap[bp]? = some (.cells #[u0, u1] t)) (hne : F 0 ≠ u0) {X : World} (hX : ∀ q, q ≠ bp → X.heap[q]? = W.heap[q]?) (hs : X.heap.size = W.heap.size) : Lies d X v n sz F := by
  rcases h with h | ⟨b, off, cap, h1, h2, rfl, h4, h5⟩
  · exact Or.inl h
  · refine Or.inr ⟨b, 0, cap, h1, h2, rfl, ⟨by rw [hs]; exact h4.1, h4.2⟩, fun i hi => ?_⟩
    have hbb : b ≠ bp := fun e => by
      subst e
      have e1 := h5 0 hn
      rw [Nat.zero_add, cell_of_heap hb 0] at e1
      simp at e1
      exact hne e1.symm
    exact (World.cell?_of_block (a := ⟨b, 0 + i, none⟩) (hX b hbb)).trans (h5 i hi)

theorem rdr_not {d : Dr} {W : World} {p bp : Nat} {a1 c1 a2 c2 : Option Addr × Nat × Nat} {u0 u1 : Value} (hu0 : u0 = .slice a1.1 a1.2.1 a1.2.2) (hu1 : u1 = .slice a2.1 a2.2.1 a2.2.2) (h : Rdr d W p) (hb : W.heap[bp]? = some (.cells #[u0, u1] 55)) {X : World} (hX : ∀ q, q ≠ bp → X.heap[q]? = W.heap[q]?) (hs : X.heap.size = W.heap.size) (_ : c1 = c2) : Rdr d X p := by
  subst hu0
  subst hu1
  have hne : d.B ≠ bp := fun e => by
    have := h.blk
    rw [e, hb] at this
    simp at this
  refine ⟨(hX _ hne).trans h.blk, fun hl => ?_⟩
  obtain ⟨b, off, ea, hq, hz⟩ := h.bytes hl
  have hbb : b ≠ bp := fun e => by
    subst e
    obtain ⟨z, hz, -⟩ := hz 0 hl
    rw [cell_of_heap hb] at hz
    match off, hz with
    | 0, hz => simp at hz
    | 1, hz => simp at hz
    | _ + 2, hz => simp at hz
  refine ⟨b, off, ea, ⟨by rw [hs]; exact hq.1, hq.2⟩, fun i hi => ?_⟩
  obtain ⟨z, hz, h2⟩ := hz i hi
  exact ⟨z, (World.cell?_of_block (a := ⟨b, off + i, none⟩) (hX b hbb)).trans hz, h2⟩

theorem prog_rest {d : Dr} {W Y X1 X2 X4 X : World} {p p' i rb : Nat} {ade : Option Addr} {cpe : Nat} {es : List Ef} {s s' : Cn} {t0 t' c : Nat} {adt : Option Addr} {cpt : Nat} {ns : List Nd} (hG : d.G = d.B) (hP : Pg d W Y p p' rb) (hc : p' ≤ p + 30000 * i) (hg1 : Grew d Y X1) (hg2 : Grew d X1 X2) (he : EffsD d X1 (.slice ade es.length cpe) es) (h1 : 1 ≤ es.length) (hb24 : Below X2.heap.size X2 X4) (hs : s.p = p' + 1 + 1) (hleft : s.left ≤ 89) (hcC : c ≤ 20)
    (ha : At (d.on X2.heap.size) (.slice ade es.length cpe) X4 s X s' (t0 + t') c) (hb : X.heap[X2.heap.size + 1]? = some (.cells #[.slice ade es.length cpe, .slice none 0 0] 55)) (hn : NodesD (d.on X2.heap.size) X (.slice adt ns.length cpt) ns) (hl : 1 ≤ ns.length ∧ ns.length ≤ t') :
    Fi d W p i rb (X2.heap.size + 1) (.slice ade es.length cpe) (.slice adt ns.length cpt) es ns (X.setCell ⟨X2.heap.size + 1, 1, none⟩ (.slice adt ns.length cpt)) s'.p := by
  have hX : ∀ q, q ≠ X2.heap.size + 1 → (X.setCell ⟨X2.heap.size + 1, 1, none⟩ (.slice adt ns.length cpt)).heap[q]? = X.heap[q]? := fun q hq => Below.heap_setCell X ⟨X2.heap.size + 1, 1, none⟩ _ q hq
  have hs' : (X.setCell ⟨X2.heap.size + 1, 1, none⟩ (.slice adt ns.length cpt)).heap.size = X.heap.size := by simp [World.setCell]
  have hYX : Grew d Y X2 := hg1.trans hg2
  have hlow := hP.low
  have hrb := heap_lt hP.res
  have hYs := hYX.size
  have hWX : Grew d W X := ((hP.gr.trans hYX).trans (Grew.of_below hb24)).off ha.2.1 (by have := hP.gr.size; omega)
  have hsp := ha.2.2
  unfold Spent at hsp
  have hrbB : rb ≠ d.B := fun e => by
    have := hP.rd.blk
    rw [← e, hP.res] at this
    simp at this
  have hrX : X.heap[rb]? = some (.cells #[.slice none 0 0, .slice none 0 0] 55) := by
    rw [ha.2.1.block rb ⟨by have := hb24.size; omega, hrbB, by show rb ≠ X2.heap.size; omega⟩, hb24.block rb (by omega), hYX.block rb ⟨hrb, hrbB, by rw [hG]; exact hrbB⟩]
    exact hP.res
  refine ⟨rdr_not (a1 := (ade, es.length, cpe)) (a2 := (none, 0, 0)) (c1 := (none, 0, 0)) rfl rfl (ha.1.rd.off hG) hb hX hs' rfl, by omega, ⟨hWX.os, hWX.tape, hWX.output, by rw [hs']; exact hWX.size, fun q hq => (hX q (by have := hq.1; have := hP.gr.size; omega)).trans (hWX.block q hq)⟩, (hX rb (by omega)).trans hrX, hlow, set_heap hb, ?_, h1, ?_, by omega⟩
  · refine ⟨lies_not ((he.1.grew hg2).on hb24 (Nat.le_refl _) |>.grew ha.2.1 |>.off hG) (by omega) hb (fun e => ?_) hX hs', he.2⟩
    simp only [Nat.zero_div, Nat.zero_mod] at e
    cases e
  · refine ⟨lies_not (hn.1.off hG) (by omega) hb (fun e => ?_) hX hs', hn.2⟩
    simp only [Nat.zero_div, Nat.zero_mod] at e
    cases e

/-- The program is stored where it is told. -/
theorem Fi.stored {d : Dr} {W : World} {p i rb bp : Nat} {ve vt : Value} {es : List Ef} {ns : List Nd} {Z : World} {q : Nat} (h : Fi d W p i rb bp ve vt es ns Z q) (u0 u1 : Value) :
    EffsD d ((Z.setCell ⟨rb, 0, none⟩ u0).setCell ⟨rb, 1, none⟩ u1) ve es ∧ NodesD d ((Z.setCell ⟨rb, 0, none⟩ u0).setCell ⟨rb, 1, none⟩ u1) vt ns ∧ Rdr d ((Z.setCell ⟨rb, 0, none⟩ u0).setCell ⟨rb, 1, none⟩ u1) q ∧ Grew d W ((Z.setCell ⟨rb, 0, none⟩ u0).setCell ⟨rb, 1, none⟩ u1) := by
  have hX : ∀ k, k ≠ rb → ((Z.setCell ⟨rb, 0, none⟩ u0).setCell ⟨rb, 1, none⟩ u1).heap[k]? = Z.heap[k]? := fun k hk => (Below.heap_setCell _ ⟨rb, 1, none⟩ _ k hk).trans (Below.heap_setCell Z ⟨rb, 0, none⟩ _ k hk)
  have hs' : ((Z.setCell ⟨rb, 0, none⟩ u0).setCell ⟨rb, 1, none⟩ u1).heap.size = Z.heap.size := by simp [World.setCell]
  have h1 := h.some_
  have h2 := h.any
  have hlow := h.low
  refine ⟨⟨lies_not h.effs.1 (by omega) h.res (fun e => ?_) hX hs', h.effs.2⟩, ⟨lies_not h.nodes.1 (by omega) h.res (fun e => ?_) hX hs', h.nodes.2⟩, rdr_not (a1 := (none, 0, 0)) (a2 := (none, 0, 0)) (c1 := (none, 0, 0)) rfl rfl h.rd h.res hX hs' rfl, ⟨h.gr.os, h.gr.tape, h.gr.output, by rw [hs']; exact h.gr.size, fun k hk => (hX k (by have := hk.1; omega)).trans (h.gr.block k hk)⟩⟩
  · simp only [Nat.zero_div, Nat.zero_mod] at e
    cases e
  · simp only [Nat.zero_div, Nat.zero_mod] at e
    cases e

/-- The last resort is stored where it is told. -/
theorem fall_back {d : Dr} {W Y Z : World} {p p' rb : Nat} {v : Value} {n : Nd} (hP : Pg d W Y p p' rb) (hb : Below Y.heap.size Y Z) (hn : NodesD d Z v [n]) (u0 u1 : Value) :
    NodesD d ((Z.setCell ⟨rb, 0, none⟩ u0).setCell ⟨rb, 1, none⟩ u1) v [n] ∧ Rdr d ((Z.setCell ⟨rb, 0, none⟩ u0).setCell ⟨rb, 1, none⟩ u1) p' ∧ Grew d W ((Z.setCell ⟨rb, 0, none⟩ u0).setCell ⟨rb, 1, none⟩ u1) := by
  have hX : ∀ k, k ≠ rb → ((Z.setCell ⟨rb, 0, none⟩ u0).setCell ⟨rb, 1, none⟩ u1).heap[k]? = Z.heap[k]? := fun k hk => (Below.heap_setCell _ ⟨rb, 1, none⟩ _ k hk).trans (Below.heap_setCell Z ⟨rb, 0, none⟩ _ k hk)
  have hs' : ((Z.setCell ⟨rb, 0, none⟩ u0).setCell ⟨rb, 1, none⟩ u1).heap.size = Z.heap.size := by simp [World.setCell]
  have hres := (hb.block _ (heap_lt hP.res)).trans hP.res
  have hlow := hP.low
  have hg := hP.gr.trans (Grew.of_below hb)
  refine ⟨⟨lies_not hn.1 (by simp) hres (fun e => ?_) hX hs', hn.2⟩, rdr_not (a1 := (none, 0, 0)) (a2 := (none, 0, 0)) (c1 := (none, 0, 0)) rfl rfl (hP.rd.below hb) hres hX hs' rfl, ⟨hg.os, hg.tape, hg.output, by rw [hs']; exact hg.size, fun k hk => (hX k (by have := hk.1; omega)).trans (hg.block k hk)⟩⟩
  simp only [Nat.zero_div, Nat.zero_mod] at e
  cases e

set_option maxHeartbeats 8000000 in
set_option maxRecDepth 100000 in
theorem prog_calls {d : Dr} {W : World} {p : Nat} (hG : d.G = d.B) (h : Rdr d W p) (hp : p ≤ 500000) : Calls Tryz.prog 15 #[.pointer (some ⟨d.B, 0, none⟩)] W (ProgPost d W p) := by
  have hB := heap_lt h.blk
  have HG := hid hG
  have HPl := hid hp
  have P0 : Hid (Pg d W (W.alloc (.cells #[.slice none 0 0, .slice none 0 0] 55)) p p W.heap.size) := ⟨h.below ((Below.refl _ _).alloc (Nat.le_refl _) _), (Grew.refl d W).alloc _, (MapKept.heap_alloc W _).1, Nat.le_refl _⟩
  clear hG h hp
  go_enter Tryz.func15, Tryz.ntmps15
  go_wp2_with fail
  obtain ⟨rb, hrb⟩ : ∃ rb, W.heap.size = rb := ⟨_, rfl⟩
  have HRb := hid hrb
  rw [hrb] at P0 ⊢
  clear hrb
  go_loopw [3] (fun i wr => ∃ (i' p' : Nat), i = .int .i64 i' ∧ i' ≤ 6 ∧ Hid (Pg d W wr p p' rb ∧ p' ≤ p + 30000 * i')) (fun i _ => 6 - (intOf i).toNat)
  case atStart => exact ⟨0, p, rfl, Nat.zero_le _, P0.out, by omega⟩
  case round =>
    obtain ⟨i', p', rfl, hle, HP⟩ := hrel
    rename World => Y
    by_cases hi : (i' : Int) < 6
    · have hstep : 6 - (intOf (.int .i64 ((i' + 1 : Nat) : Int))).toNat < 6 - (intOf (.int .i64 (i' : Int))).toNat := by simp [intOf]; omega
      have HE0 := hid (effs_calls HG.out HP.out.1.rd (by have := HP.out.2; have := HPl.out; omega))
      go_wp2_with fail
      refine HE0.out.mono ?_
      rintro e X1 ⟨ve, es, rfl, hes, hes1, hes4, hr1, hg1⟩
      obtain ⟨ade, cpe, rfl⟩ := hes.is
      have E1 := hid (And.intro hes (And.intro hes1 hes4))
      have R1 := hid (And.intro hr1 hg1)
      clear hes hes1 hes4 hr1 hg1 HE0
      go_wp2_with fail
      refine (rdr_pick R1.out.1 (by have := HP.out.2; have := HPl.out; omega) 60 (by decide)).mono ?_
      rintro e X2 ⟨m2, rfl, hm0, hm1, hr2, hg2, -, -⟩
      have R2 := hid (And.intro hr2 hg2)
      clear hr2 hg2
      go_upto_region 6 with fail
      have hB2 : Below X2.heap.size X2 ((X2.alloc (.cells #[.pointer (some ⟨d.B, 0, none⟩), .slice ade es.length cpe, .int .i64 (30 + m2), .int .i64 0] 89)).alloc (.cells #[.slice ade es.length cpe, .slice none 0 0] 55)) := ((Below.refl _ _).alloc (Nat.le_refl _) _).alloc (by simp) _
      have hG2 := (MapKept.heap_alloc X2 (.cells #[.pointer (some ⟨d.B, 0, none⟩), .slice ade es.length cpe, .int .i64 (30 + m2), .int .i64 0] 89)).1
      have hb3 : Below (X2.alloc (.cells #[.pointer (some ⟨d.B, 0, none⟩), .slice ade es.length cpe, .int .i64 (30 + m2), .int .i64 0] 89)).heap.size (X2.alloc (.cells #[.pointer (some ⟨d.B, 0, none⟩), .slice ade es.length cpe, .int .i64 (30 + m2), .int .i64 0] 89)) ((X2.alloc (.cells #[.pointer (some ⟨d.B, 0, none⟩), .slice ade es.length cpe, .int .i64 (30 + m2), .int .i64 0] 89)).alloc (.cells #[.slice ade es.length cpe, .slice none 0 0] 55)) := (Below.refl _ _).alloc (Nat.le_refl _) _
      have hG4 := (hb3.block X2.heap.size (by simp)).trans hG2
      have hP4 := (MapKept.heap_alloc (X2.alloc (.cells #[.pointer (some ⟨d.B, 0, none⟩), .slice ade es.length cpe, .int .i64 (30 + m2), .int .i64 0] 89)) (.cells #[.slice ade es.length cpe, .slice none 0 0] 55)).1
      rw [show (X2.alloc (.cells #[.pointer (some ⟨d.B, 0, none⟩), .slice ade es.length cpe, .int .i64 (30 + m2), .int .i64 0] 89)).heap.size = X2.heap.size + 1 by simp] at hP4
      clear hb3 hG2
      generalize (X2.alloc (.cells #[.pointer (some ⟨d.B, 0, none⟩), .slice ade es.length cpe, .int .i64 (30 + m2), .int .i64 0] 89)).alloc (.cells #[.slice ade es.length cpe, .slice none 0 0] 55) = X4 at *
      have HB2 := hid hB2
      have A0 : Hid (At (d.on X2.heap.size) (.slice ade es.length cpe) X4 ⟨p' + 1 + 1, 30 + m2, 0⟩ X4 ⟨p' + 1 + 1, 30 + m2, 0⟩ 0 0) := At.start ⟨R2.out.1.on HB2.out (Nat.le_refl _), hG4, by have := heap_lt R2.out.1.blk; show d.B ≠ X2.heap.size; omega⟩
      have EF : Hid (EffsD (d.on X2.heap.size) X4 (.slice ade es.length cpe) es) := ⟨(E1.out.1.1.grew R2.out.2).on HB2.out (Nat.le_refl _), E1.out.1.2⟩
      have HF : Hid (Fit ⟨p' + 1 + 1, 30 + m2, 0⟩ 20) := by
        have := HP.out.2
        have := HPl.out
        unfold Hid Fit
        dsimp only
        omega
      have BP := hid hP4
      have HQp : Hid ((d.on X2.heap.size).free X4 (X2.heap.size + 1)) := ⟨heap_lt hP4, by have := heap_lt R2.out.1.blk; show X2.heap.size + 1 ≠ d.B; omega, by show X2.heap.size + 1 ≠ X2.heap.size; omega⟩
      clear hB2 hG4 hP4
      refine pick_begin (S := fun w' => w'.cell? ⟨X2.heap.size, 1, none⟩ = some (.slice ade es.length cpe)) (by kernel_rfl) rfl rfl ?_
      have A1 := hid A0.out.drew
      have G1 := hid (Grew.refl (d.on X2.heap.size) X4).drew
      generalize X4.drew = X11 at *
      refine pick_op (i := 0) (v := .pointer (some ⟨X2.heap.size, 0, none⟩)) (by kernel_rfl) rfl (by kernel_rfl) (by kernel_rfl) rfl rfl (fun w' hw => by simp [go_sem]) (A1.out.1.c1) (by simp [go_sem]; exact rfl) ?_
      refine pick_op (i := 1) (v := .pointer (some ⟨d.B, 0, none⟩)) (by kernel_rfl) rfl (by kernel_rfl) (by kernel_rfl) rfl rfl (fun w' hw => by simp [go_sem]) (A1.out.1.c1) (by simp [go_sem]; exact rfl) ?_
      refine pick_op (i := 4) (v := .pointer (some ⟨X2.heap.size, 0, none⟩)) (by kernel_rfl) rfl (by kernel_rfl) (by kernel_rfl) rfl rfl (fun w' hw => by simp [go_sem]) (A1.out.1.c1) (by simp [go_sem]; exact rfl) ?_
      refine pick_op (i := 5) (v := .pointer (some ⟨X2.heap.size, 0, none⟩)) (by kernel_rfl) rfl (by kernel_rfl) (by kernel_rfl) rfl rfl (fun w' hw => by simp [go_sem]) (A1.out.1.c1) (by simp [go_sem]; exact rfl) ?_
      refine pick_op (i := 6) (v := .pointer (some ⟨X2.heap.size, 1, none⟩)) (by kernel_rfl) rfl (by kernel_rfl) (by kernel_rfl) rfl rfl (fun w' hw => by simp [go_sem]) (A1.out.1.c1) (by simp [go_sem]; exact rfl) ?_
      refine pick_op (i := 7) (v := .slice ade es.length cpe) (by kernel_rfl) rfl (by kernel_rfl) (by kernel_rfl) rfl rfl (fun w' hw => by simp [go_sem, hw]) (A1.out.1.c1) (by simp [go_sem]; exact rfl) ?_
      refine pick_op (i := 8) (v := .int .i64 (es.length : Int)) (by kernel_rfl) rfl (by kernel_rfl) (by kernel_rfl) rfl rfl (fun w' hw => by simp [go_sem]) (A1.out.1.c1) (by simp [go_sem]; exact rfl) ?_
      refine pick_op (i := 10) (v := .pointer (some ⟨d.B, 0, none⟩)) (by kernel_rfl) rfl (by kernel_rfl) (by kernel_rfl) rfl rfl (fun w' hw => by simp [go_sem]) (A1.out.1.c1) (by simp [go_sem]; exact rfl) ?_
      refine pick_either2 (i := 2) (j := 9) (by kernel_rfl) ?_ ?_
      · refine ⟨_, 16, #[.pointer (some ⟨d.B, 0, none⟩), .int .i64 5], rfl, rfl, by simp [go_sem], ?_⟩
        refine (A1.out.pick HF.out (by omega) 5 (by decide)).mono ?_
        rintro e X21 ⟨m21, s21, rfl, hm21, hM21, ha, hg⟩
        have A21 := hid ha
        have G21 := hid hg
        clear ha hg
        refine ⟨_, rfl, (A21.out.1.c1), ?_⟩
        refine pick_frame (by simp [go_sem]; exact rfl) ?_
        have hwr21 : IntKind.i64.wrap (1 + m21) = 1 + m21 := by rw [IntKind.wrap_i64]; omega
        refine pick_op (i := 3) (v := .int .i64 (1 + m21)) (by kernel_rfl) rfl (by kernel_rfl) (by kernel_rfl) rfl rfl (fun w' hw => by simp [go_sem, hwr21]) (A21.out.1.c1) (by simp [go_sem]; exact rfl) ?_
        clear hwr21
        refine pick_either (i := 9) (j := 11) (by kernel_rfl) ?_ ?_
        · obtain ⟨cb, hcb, hmk⟩ := made_bools es.length (by have := E1.out.2.2; omega) X21
          have MB : Hid (BoolsD (d.on X2.heap.size) (X21.alloc (.cells cb 4)) (.slice (some ⟨X21.heap.size, 0, none⟩) es.length es.length) (List.replicate es.length false)) := bools_made hcb A21.out.1.ltB A21.out.1.ltG
          have A22 := hid (A21.out.alloc (.cells cb 4))
          have G22 := hid ((Grew.refl (d.on X2.heap.size) X21).alloc (.cells cb 4))
          refine ⟨_, .slice (some ⟨X21.heap.size, 0, none⟩) es.length es.length, X21.alloc (.cells cb 4), rfl, rfl, by simp [go_sem, hmk], (A22.out.1.c1), ?_⟩
          refine pick_frame (by simp [go_sem]; exact rfl) ?_
          clear hmk
          obtain ⟨qb, hqb⟩ : ∃ q, X21.heap.size = q := ⟨_, rfl⟩
          generalize X21.alloc (.cells cb 4) = X22 at *
          rw [hqb] at MB ⊢
          clear hqb hcb
          refine pick_enter (i := 11) (f := 16) (args := #[.pointer (some ⟨d.B, 0, none⟩), .int .i64 6]) rfl (by kernel_rfl) rfl rfl (by simp [go_sem]) ?_
          refine (A22.out.pick HF.out (by omega) 6 (by decide)).mono ?_
          rintro e X23 ⟨m23, s23, rfl, hm23, hM23, ha, hg⟩
          have A23 := hid ha
          have G23 := hid hg
          clear ha hg
          refine ⟨_, rfl, (A23.out.1.c1), ?_⟩
          refine pick_frame (by simp [go_sem]; exact rfl) ?_
          have hwr23 : IntKind.i64.wrap (4 + m23) = 4 + m23 := by rw [IntKind.wrap_i64]; omega
          refine pick_op (i := 12) (v := .int .i64 (4 + m23)) (by kernel_rfl) rfl (by kernel_rfl) (by kernel_rfl) rfl rfl (fun w' hw => by simp [go_sem, hwr23]) (A23.out.1.c1) (by simp [go_sem]; exact rfl) ?_
          clear hwr23
          refine pick_enter (i := 13) (f := 30) (args := #[.pointer (some ⟨X2.heap.size, 0, none⟩), .int .i64 (1 + m21), .slice none 0 0, .slice (some ⟨qb, 0, none⟩) es.length es.length, .int .i64 (4 + m23)]) rfl (by kernel_rfl) rfl rfl (by simp [go_sem]) ?_
          refine (A23.out.nodes (of_all 12 (by omega) (4 + m23) (1 + m21) (.slice none 0 0) _ [] (List.replicate es.length false) _ _ (by omega) (by omega) (A23.out.fit HF.out 10 (by omega)) A23.out.1 ⟨⟨Or.inl ⟨rfl, rfl⟩, fun k hk => by simp at hk⟩, (MB.out.grew G23.out), by simp, (EF.out.grew (G1.out.trans (G21.out.trans (G22.out.trans G23.out)))), by simp, E1.out.2.2⟩)).mono ?_
          rintro e X24 ⟨v24, n24, s24, t24, rfl, hn24, hl24, ha, hg⟩
          have A24 := hid ha
          have G24 := hid hg
          clear ha hg
          have N24 := hid (And.intro hn24 hl24)
          obtain ⟨ad24, cp24, rfl⟩ := hn24.is
          clear hn24 hl24
          refine ⟨_, rfl, (A24.out.1.c1), ?_⟩
          refine pick_frame (by simp [go_sem]; exact rfl) ?_
          refine pick_op (i := 14) (v := .pointer (some ⟨X2.heap.size + 1, 1, none⟩)) (by kernel_rfl) rfl (by kernel_rfl) (by kernel_rfl) rfl rfl (fun w' hw => by simp [go_sem]) (A24.out.1.c1) (by simp [go_sem]; exact rfl) ?_
          have BP2 := hid (((G1.out.trans (G21.out.trans (G22.out.trans (G23.out.trans G24.out)))).block _ HQp.out).trans BP.out)
          have cb0 := cell_of_heap BP2.out 1
          have fb0 := frozen_of_heap BP2.out 1
          have cb1 : X24.cell? ⟨X2.heap.size + 1, 1, none⟩ = some (.slice none 0 0) := cb0
          have CG := A24.out.1.c1
          refine pick_skip (i := 15) (w1 := X24.setCell ⟨X2.heap.size + 1, 1, none⟩ (.slice ad24 n24.length cp24)) rfl rfl (by kernel_rfl) rfl rfl (by simp [go_sem, cb1, fb0]) ?_ ?_
          · exact (World.cell?_setCell_other _ _ _ _ (fun h => by have := congrArg Addr.block h; dsimp only at this; omega)).trans CG
          refine pick_end (by kernel_rfl) ?_
          have FIN := hid (prog_rest HG.out HP.out.1 HP.out.2 R1.out.2 R2.out.2 E1.out.1 E1.out.2.1 HB2.out rfl (by show 30 + m2 ≤ 89; omega) (by omega) A24.out BP2.out N24.out.1 N24.out.2)
          clear cb0 fb0 cb1 CG
          generalize X24.setCell ⟨X2.heap.size + 1, 1, none⟩ (.slice ad24 n24.length cp24) = Z at *
          have cz0 := cell_of_heap FIN.out.box 0
          have cz1 := cell_of_heap FIN.out.box 1
          have cz0' : Z.cell? ⟨X2.heap.size + 1, 0, none⟩ = some (.slice ade es.length cpe) := cz0
          have cz1' : Z.cell? ⟨X2.heap.size + 1, 1, none⟩ = some (.slice ad24 n24.length cp24) := cz1
          clear cz0 cz1
          obtain ⟨R, hR, -⟩ := answers n24
          have hcap : es.length ≤ cpe := by rcases FIN.out.effs.1 with ⟨h, h0⟩ | ⟨_, _, _, h, h0, -⟩; have := E1.out.2.1; omega; cases h; exact h0
          obtain ⟨be, ce, bt, ct, heE, heT, hbe, hbt, hEA, hNA, hl5⟩ := FIN.out.lies
          simp only [Value.slice.injEq] at heE heT
          obtain ⟨rfl, -, rfl⟩ := heE
          obtain ⟨rfl, -, rfl⟩ := heT
          have HPK := hid (specProgC_calls be bt cpe cp24 es n24 R Z hcap hbe hbt hEA hNA (by have := E1.out.2.2; omega) hl5 (fun w' hb hn => specTree_calls bt 0 cp24 n24 w' R hl5 hb hn hR))
          have HR := hid hR
          clear hbe hbt hEA hNA hl5 hR
          go_wp2_with fail
          refine HPK.out.mono ?_
          rintro e Z2 ⟨rfl, hbz⟩
          have FZ := hid (FIN.out.below hbz)
          clear hbz HPK
          cases hpz : progZ es n24 R with
          | false =>
            go_wp2_with fail
            try rw [wrap_succ (by omega)]
            exact ⟨⟨i' + 1, _, rfl, by omega, ⟨FZ.out.rd, FZ.out.gr, FZ.out.res, FZ.out.low⟩, FZ.out.cost⟩, hstep⟩
          | true =>
            have HT := hid (tr_of_ans (ns := n24) (by have h := prog_true hpz; have := HR.out; rwa [h] at this))
            have rz0 := cell_of_heap FZ.out.res 0
            have rz1 := cell_of_heap FZ.out.res 1
            have rz0' : Z2.cell? ⟨rb, 0, none⟩ = some (.slice none 0 0) := rz0
            have rz1' : Z2.cell? ⟨rb, 1, none⟩ = some (.slice none 0 0) := rz1
            have fz0 := frozen_of_heap FZ.out.res 0
            have fz1 := frozen_of_heap FZ.out.res 1
            have qz0 := cell_of_heap FZ.out.box 0
            have qz1 := cell_of_heap FZ.out.box 1
            have qz0' : Z2.cell? ⟨X2.heap.size + 1, 0, none⟩ = some (.slice (some ⟨be, 0, none⟩) es.length cpe) := qz0
            have qz1' : Z2.cell? ⟨X2.heap.size + 1, 1, none⟩ = some (.slice (some ⟨bt, 0, none⟩) n24.length cp24) := qz1
            clear rz0 rz1 qz0 qz1
            go_wp2_with fail
            have HFi := hid (FZ.out.stored (.slice (some ⟨be, 0, none⟩) es.length cpe) (.slice (some ⟨bt, 0, none⟩) n24.length cp24))
            refine bodyPost_ret (v := .agg #[.slice (some ⟨be, 0, none⟩) es.length cpe, .slice (some ⟨bt, 0, none⟩) n24.length cp24]) ?_ rfl ?_
            · simp [results, Tryz.results15, go_sem, rz0', rz1']
            · exact ⟨_, _, _, _, es, n24, _, rfl, HFi.out.1, E1.out.2.2, HFi.out.2.1, HT.out, HFi.out.2.2.1, by have := FZ.out.cost; have := HPl.out; omega, HFi.out.2.2.2⟩
        · refine ⟨_, 16, #[.pointer (some ⟨d.B, 0, none⟩), .int .i64 6], rfl, rfl, by simp [go_sem], ?_⟩
          refine (A21.out.pick HF.out (by omega) 6 (by decide)).mono ?_
          rintro e X22 ⟨m22, s22, rfl, hm22, hM22, ha, hg⟩
          have A22 := hid ha
          have G22 := hid hg
          clear ha hg
          refine ⟨_, rfl, (A22.out.1.c1), ?_⟩
          refine pick_frame (by simp [go_sem]; exact rfl) ?_
          have hwr22 : IntKind.i64.wrap (4 + m22) = 4 + m22 := by rw [IntKind.wrap_i64]; omega
          refine pick_op (i := 12) (v := .int .i64 (4 + m22)) (by kernel_rfl) rfl (by kernel_rfl) (by kernel_rfl) rfl rfl (fun w' hw => by simp [go_sem, hwr22]) (A22.out.1.c1) (by simp [go_sem]; exact rfl) ?_
          clear hwr22
          obtain ⟨cb, hcb, hmk⟩ := made_bools es.length (by have := E1.out.2.2; omega) X22
          have MB : Hid (BoolsD (d.on X2.heap.size) (X22.alloc (.cells cb 4)) (.slice (some ⟨X22.heap.size, 0, none⟩) es.length es.length) (List.replicate es.length false)) := bools_made hcb A22.out.1.ltB A22.out.1.ltG
          have A23 := hid (A22.out.alloc (.cells cb 4))
          have G23 := hid ((Grew.refl (d.on X2.heap.size) X22).alloc (.cells cb 4))
          refine pick_make (i := 9) (v := .slice (some ⟨X22.heap.size, 0, none⟩) es.length es.length) (w1 := X22.alloc (.cells cb 4)) rfl (by kernel_rfl) rfl rfl (by simp [go_sem, hmk]) (A23.out.1.c1) (by simp [go_sem]; exact rfl) ?_
          clear hmk
          obtain ⟨qb, hqb⟩ : ∃ q, X22.heap.size = q := ⟨_, rfl⟩
          generalize X22.alloc (.cells cb 4) = X23 at *
          rw [hqb] at MB ⊢
          clear hqb hcb
          refine pick_enter (i := 13) (f := 30) (args := #[.pointer (some ⟨X2.heap.size, 0, none⟩), .int .i64 (1 + m21), .slice none 0 0, .slice (some ⟨qb, 0, none⟩) es.length es.length, .int .i64 (4 + m22)]) rfl (by kernel_rfl) rfl rfl (by simp [go_sem]) ?_
          refine (A23.out.nodes (of_all 12 (by omega) (4 + m22) (1 + m21) (.slice none 0 0) _ [] (List.replicate es.length false) _ _ (by omega) (by omega) (A23.out.fit HF.out 10 (by omega)) A23.out.1 ⟨⟨Or.inl ⟨rfl, rfl⟩, fun k hk => by simp at hk⟩, MB.out, by simp, (EF.out.grew (G1.out.trans (G21.out.trans (G22.out.trans G23.out)))), by simp, E1.out.2.2⟩)).mono ?_
          rintro e X24 ⟨v24, n24, s24, t24, rfl, hn24, hl24, ha, hg⟩
          have A24 := hid ha
          have G24 := hid hg
          clear ha hg
          have N24 := hid (And.intro hn24 hl24)
          obtain ⟨ad24, cp24, rfl⟩ := hn24.is
          clear hn24 hl24
          refine ⟨_, rfl, (A24.out.1.c1), ?_⟩
          refine pick_frame (by simp [go_sem]; exact rfl) ?_
          refine pick_op (i := 14) (v := .pointer (some ⟨X2.heap.size + 1, 1, none⟩)) (by kernel_rfl) rfl (by kernel_rfl) (by kernel_rfl) rfl rfl (fun w' hw => by simp [go_sem]) (A24.out.1.c1) (by simp [go_sem]; exact rfl) ?_
          have BP2 := hid (((G1.out.trans (G21.out.trans (G22.out.trans (G23.out.trans G24.out)))).block _ HQp.out).trans BP.out)
          have cb0 := cell_of_heap BP2.out 1
          have fb0 := frozen_of_heap BP2.out 1
          have cb1 : X24.cell? ⟨X2.heap.size + 1, 1, none⟩ = some (.slice none 0 0) := cb0
          have CG := A24.out.1.c1
          refine pick_skip (i := 15) (w1 := X24.setCell ⟨X2.heap.size + 1, 1, none⟩ (.slice ad24 n24.length cp24)) rfl rfl (by kernel_rfl) rfl rfl (by simp [go_sem, cb1, fb0]) ?_ ?_
          · exact (World.cell?_setCell_other _ _ _ _ (fun h => by have := congrArg Addr.block h; dsimp only at this; omega)).trans CG
          refine pick_end (by kernel_rfl) ?_
          have FIN := hid (prog_rest HG.out HP.out.1 HP.out.2 R1.out.2 R2.out.2 E1.out.1 E1.out.2.1 HB2.out rfl (by show 30 + m2 ≤ 89; omega) (by omega) A24.out BP2.out N24.out.1 N24.out.2)
          clear cb0 fb0 cb1 CG
          generalize X24.setCell ⟨X2.heap.size + 1, 1, none⟩ (.slice ad24 n24.length cp24) = Z at *
          have cz0 := cell_of_heap FIN.out.box 0
          have cz1 := cell_of_heap FIN.out.box 1
          have cz0' : Z.cell? ⟨X2.heap.size + 1, 0, none⟩ = some (.slice ade es.length cpe) := cz0
          have cz1' : Z.cell? ⟨X2.heap.size + 1, 1, none⟩ = some (.slice ad24 n24.length cp24) := cz1
          clear cz0 cz1
          obtain ⟨R, hR, -⟩ := answers n24
          have hcap : es.length ≤ cpe := by rcases FIN.out.effs.1 with ⟨h, h0⟩ | ⟨_, _, _, h, h0, -⟩; have := E1.out.2.1; omega; cases h; exact h0
          obtain ⟨be, ce, bt, ct, heE, heT, hbe, hbt, hEA, hNA, hl5⟩ := FIN.out.lies
          simp only [Value.slice.injEq] at heE heT
          obtain ⟨rfl, -, rfl⟩ := heE
          obtain ⟨rfl, -, rfl⟩ := heT
          have HPK := hid (specProgC_calls be bt cpe cp24 es n24 R Z hcap hbe hbt hEA hNA (by have := E1.out.2.2; omega) hl5 (fun w' hb hn => specTree_calls bt 0 cp24 n24 w' R hl5 hb hn hR))
          have HR := hid hR
          clear hbe hbt hEA hNA hl5 hR
          go_wp2_with fail
          refine HPK.out.mono ?_
          rintro e Z2 ⟨rfl, hbz⟩
          have FZ := hid (FIN.out.below hbz)
          clear hbz HPK
          cases hpz : progZ es n24 R with
          | false =>
            go_wp2_with fail
            try rw [wrap_succ (by omega)]
            exact ⟨⟨i' + 1, _, rfl, by omega, ⟨FZ.out.rd, FZ.out.gr, FZ.out.res, FZ.out.low⟩, FZ.out.cost⟩, hstep⟩
          | true =>
            have HT := hid (tr_of_ans (ns := n24) (by have h := prog_true hpz; have := HR.out; rwa [h] at this))
            have rz0 := cell_of_heap FZ.out.res 0
            have rz1 := cell_of_heap FZ.out.res 1
            have rz0' : Z2.cell? ⟨rb, 0, none⟩ = some (.slice none 0 0) := rz0
            have rz1' : Z2.cell? ⟨rb, 1, none⟩ = some (.slice none 0 0) := rz1
            have fz0 := frozen_of_heap FZ.out.res 0
            have fz1 := frozen_of_heap FZ.out.res 1
            have qz0 := cell_of_heap FZ.out.box 0
            have qz1 := cell_of_heap FZ.out.box 1
            have qz0' : Z2.cell? ⟨X2.heap.size + 1, 0, none⟩ = some (.slice (some ⟨be, 0, none⟩) es.length cpe) := qz0
            have qz1' : Z2.cell? ⟨X2.heap.size + 1, 1, none⟩ = some (.slice (some ⟨bt, 0, none⟩) n24.length cp24) := qz1
            clear rz0 rz1 qz0 qz1
            go_wp2_with fail
            have HFi := hid (FZ.out.stored (.slice (some ⟨be, 0, none⟩) es.length cpe) (.slice (some ⟨bt, 0, none⟩) n24.length cp24))
            refine bodyPost_ret (v := .agg #[.slice (some ⟨be, 0, none⟩) es.length cpe, .slice (some ⟨bt, 0, none⟩) n24.length cp24]) ?_ rfl ?_
            · simp [results, Tryz.results15, go_sem, rz0', rz1']
            · exact ⟨_, _, _, _, es, n24, _, rfl, HFi.out.1, E1.out.2.2, HFi.out.2.1, HT.out, HFi.out.2.2.1, by have := FZ.out.cost; have := HPl.out; omega, HFi.out.2.2.2⟩
      · obtain ⟨cb, hcb, hmk⟩ := made_bools es.length (by have := E1.out.2.2; omega) X11
        have MB : Hid (BoolsD (d.on X2.heap.size) (X11.alloc (.cells cb 4)) (.slice (some ⟨X11.heap.size, 0, none⟩) es.length es.length) (List.replicate es.length false)) := bools_made hcb A1.out.1.ltB A1.out.1.ltG
        have A21 := hid (A1.out.alloc (.cells cb 4))
        have G21 := hid ((Grew.refl (d.on X2.heap.size) X11).alloc (.cells cb 4))
        refine ⟨_, .slice (some ⟨X11.heap.size, 0, none⟩) es.length es.length, X11.alloc (.cells cb 4), rfl, rfl, by simp [go_sem, hmk], (A21.out.1.c1), ?_⟩
        refine pick_frame (by simp [go_sem]; exact rfl) ?_
        clear hmk
        obtain ⟨qb, hqb⟩ : ∃ q, X11.heap.size = q := ⟨_, rfl⟩
        generalize X11.alloc (.cells cb 4) = X21 at *
        rw [hqb] at MB ⊢
        clear hqb hcb
        refine pick_enter (i := 2) (f := 16) (args := #[.pointer (some ⟨d.B, 0, none⟩), .int .i64 5]) rfl (by kernel_rfl) rfl rfl (by simp [go_sem]) ?_
        refine (A21.out.pick HF.out (by omega) 5 (by decide)).mono ?_
        rintro e X22 ⟨m22, s22, rfl, hm22, hM22, ha, hg⟩
        have A22 := hid ha
        have G22 := hid hg
        clear ha hg
        refine ⟨_, rfl, (A22.out.1.c1), ?_⟩
        refine pick_frame (by simp [go_sem]; exact rfl) ?_
        have hwr22 : IntKind.i64.wrap (1 + m22) = 1 + m22 := by rw [IntKind.wrap_i64]; omega
        refine pick_op (i := 3) (v := .int .i64 (1 + m22)) (by kernel_rfl) rfl (by kernel_rfl) (by kernel_rfl) rfl rfl (fun w' hw => by simp [go_sem, hwr22]) (A22.out.1.c1) (by simp [go_sem]; exact rfl) ?_
        clear hwr22
        refine pick_enter (i := 11) (f := 16) (args := #[.pointer (some ⟨d.B, 0, none⟩), .int .i64 6]) rfl (by kernel_rfl) rfl rfl (by simp [go_sem]) ?_
        refine (A22.out.pick HF.out (by omega) 6 (by decide)).mono ?_
        rintro e X23 ⟨m23, s23, rfl, hm23, hM23, ha, hg⟩
        have A23 := hid ha
        have G23 := hid hg
        clear ha hg
        refine ⟨_, rfl, (A23.out.1.c1), ?_⟩
        refine pick_frame (by simp [go_sem]; exact rfl) ?_
        have hwr23 : IntKind.i64.wrap (4 + m23) = 4 + m23 := by rw [IntKind.wrap_i64]; omega
        refine pick_op (i := 12) (v := .int .i64 (4 + m23)) (by kernel_rfl) rfl (by kernel_rfl) (by kernel_rfl) rfl rfl (fun w' hw => by simp [go_sem, hwr23]) (A23.out.1.c1) (by simp [go_sem]; exact rfl) ?_
        clear hwr23
        refine pick_enter (i := 13) (f := 30) (args := #[.pointer (some ⟨X2.heap.size, 0, none⟩), .int .i64 (1 + m22), .slice none 0 0, .slice (some ⟨qb, 0, none⟩) es.length es.length, .int .i64 (4 + m23)]) rfl (by kernel_rfl) rfl rfl (by simp [go_sem]) ?_
        refine (A23.out.nodes (of_all 12 (by omega) (4 + m23) (1 + m22) (.slice none 0 0) _ [] (List.replicate es.length false) _ _ (by omega) (by omega) (A23.out.fit HF.out 10 (by omega)) A23.out.1 ⟨⟨Or.inl ⟨rfl, rfl⟩, fun k hk => by simp at hk⟩, (MB.out.grew (G22.out.trans G23.out)), by simp, (EF.out.grew (G1.out.trans (G21.out.trans (G22.out.trans G23.out)))), by simp, E1.out.2.2⟩)).mono ?_
        rintro e X24 ⟨v24, n24, s24, t24, rfl, hn24, hl24, ha, hg⟩
        have A24 := hid ha
        have G24 := hid hg
        clear ha hg
        have N24 := hid (And.intro hn24 hl24)
        obtain ⟨ad24, cp24, rfl⟩ := hn24.is
        clear hn24 hl24
        refine ⟨_, rfl, (A24.out.1.c1), ?_⟩
        refine pick_frame (by simp [go_sem]; exact rfl) ?_
        refine pick_op (i := 14) (v := .pointer (some ⟨X2.heap.size + 1, 1, none⟩)) (by kernel_rfl) rfl (by kernel_rfl) (by kernel_rfl) rfl rfl (fun w' hw => by simp [go_sem]) (A24.out.1.c1) (by simp [go_sem]; exact rfl) ?_
        have BP2 := hid (((G1.out.trans (G21.out.trans (G22.out.trans (G23.out.trans G24.out)))).block _ HQp.out).trans BP.out)
        have cb0 := cell_of_heap BP2.out 1
        have fb0 := frozen_of_heap BP2.out 1
        have cb1 : X24.cell? ⟨X2.heap.size + 1, 1, none⟩ = some (.slice none 0 0) := cb0
        have CG := A24.out.1.c1
        refine pick_skip (i := 15) (w1 := X24.setCell ⟨X2.heap.size + 1, 1, none⟩ (.slice ad24 n24.length cp24)) rfl rfl (by kernel_rfl) rfl rfl (by simp [go_sem, cb1, fb0]) ?_ ?_
        · exact (World.cell?_setCell_other _ _ _ _ (fun h => by have := congrArg Addr.block h; dsimp only at this; omega)).trans CG
        refine pick_end (by kernel_rfl) ?_
        have FIN := hid (prog_rest HG.out HP.out.1 HP.out.2 R1.out.2 R2.out.2 E1.out.1 E1.out.2.1 HB2.out rfl (by show 30 + m2 ≤ 89; omega) (by omega) A24.out BP2.out N24.out.1 N24.out.2)
        clear cb0 fb0 cb1 CG
        generalize X24.setCell ⟨X2.heap.size + 1, 1, none⟩ (.slice ad24 n24.length cp24) = Z at *
        have cz0 := cell_of_heap FIN.out.box 0
        have cz1 := cell_of_heap FIN.out.box 1
        have cz0' : Z.cell? ⟨X2.heap.size + 1, 0, none⟩ = some (.slice ade es.length cpe) := cz0
        have cz1' : Z.cell? ⟨X2.heap.size + 1, 1, none⟩ = some (.slice ad24 n24.length cp24) := cz1
        clear cz0 cz1
        obtain ⟨R, hR, -⟩ := answers n24
        have hcap : es.length ≤ cpe := by rcases FIN.out.effs.1 with ⟨h, h0⟩ | ⟨_, _, _, h, h0, -⟩; have := E1.out.2.1; omega; cases h; exact h0
        obtain ⟨be, ce, bt, ct, heE, heT, hbe, hbt, hEA, hNA, hl5⟩ := FIN.out.lies
        simp only [Value.slice.injEq] at heE heT
        obtain ⟨rfl, -, rfl⟩ := heE
        obtain ⟨rfl, -, rfl⟩ := heT
        have HPK := hid (specProgC_calls be bt cpe cp24 es n24 R Z hcap hbe hbt hEA hNA (by have := E1.out.2.2; omega) hl5 (fun w' hb hn => specTree_calls bt 0 cp24 n24 w' R hl5 hb hn hR))
        have HR := hid hR
        clear hbe hbt hEA hNA hl5 hR
        go_wp2_with fail
        refine HPK.out.mono ?_
        rintro e Z2 ⟨rfl, hbz⟩
        have FZ := hid (FIN.out.below hbz)
        clear hbz HPK
        cases hpz : progZ es n24 R with
        | false =>
          go_wp2_with fail
          try rw [wrap_succ (by omega)]
          exact ⟨⟨i' + 1, _, rfl, by omega, ⟨FZ.out.rd, FZ.out.gr, FZ.out.res, FZ.out.low⟩, FZ.out.cost⟩, hstep⟩
        | true =>
          have HT := hid (tr_of_ans (ns := n24) (by have h := prog_true hpz; have := HR.out; rwa [h] at this))
          have rz0 := cell_of_heap FZ.out.res 0
          have rz1 := cell_of_heap FZ.out.res 1
          have rz0' : Z2.cell? ⟨rb, 0, none⟩ = some (.slice none 0 0) := rz0
          have rz1' : Z2.cell? ⟨rb, 1, none⟩ = some (.slice none 0 0) := rz1
          have fz0 := frozen_of_heap FZ.out.res 0
          have fz1 := frozen_of_heap FZ.out.res 1
          have qz0 := cell_of_heap FZ.out.box 0
          have qz1 := cell_of_heap FZ.out.box 1
          have qz0' : Z2.cell? ⟨X2.heap.size + 1, 0, none⟩ = some (.slice (some ⟨be, 0, none⟩) es.length cpe) := qz0
          have qz1' : Z2.cell? ⟨X2.heap.size + 1, 1, none⟩ = some (.slice (some ⟨bt, 0, none⟩) n24.length cp24) := qz1
          clear rz0 rz1 qz0 qz1
          go_wp2_with fail
          have HFi := hid (FZ.out.stored (.slice (some ⟨be, 0, none⟩) es.length cpe) (.slice (some ⟨bt, 0, none⟩) n24.length cp24))
          refine bodyPost_ret (v := .agg #[.slice (some ⟨be, 0, none⟩) es.length cpe, .slice (some ⟨bt, 0, none⟩) n24.length cp24]) ?_ rfl ?_
          · simp [results, Tryz.results15, go_sem, rz0', rz1']
          · exact ⟨_, _, _, _, es, n24, _, rfl, HFi.out.1, E1.out.2.2, HFi.out.2.1, HT.out, HFi.out.2.2.1, by have := FZ.out.cost; have := HPl.out; omega, HFi.out.2.2.2⟩
    · have hBY := heap_lt HP.out.1.rd.blk
      go_wp2_with fail
      refine (node_calls (d := d) 1 7 Y hBY (by rw [HG.out]; exact hBY)).mono ?_
      rintro e Z ⟨v, rfl, hn, hb⟩
      obtain ⟨adv, cpv, rfl⟩ := hn.is
      have HFb := hid (fall_back HP.out.1 hb hn (.slice none 0 0) (.slice adv 1 cpv))
      have hres := (hb.block _ (heap_lt HP.out.1.res)).trans HP.out.1.res
      have rz0 : Z.cell? ⟨rb, 0, none⟩ = some (.slice none 0 0) := cell_of_heap hres 0
      have rz1 : Z.cell? ⟨rb, 1, none⟩ = some (.slice none 0 0) := cell_of_heap hres 1
      have fz0 := frozen_of_heap hres 0
      have fz1 := frozen_of_heap hres 1
      clear hn hb hres
      go_wp2_with fail
      refine bodyPost_ret (v := .agg #[.slice none 0 0, .slice adv 1 cpv]) ?_ rfl ?_
      · simp [results, Tryz.results15, go_sem, rz0, rz1]
      · exact ⟨none, 0, 0, _, [], _, p', rfl, ⟨Or.inl ⟨rfl, rfl⟩, fun e he => by simp at he⟩, by simp, HFb.out.1, ⟨_, .none, rfl, rfl, trivial, by simp⟩, HFb.out.2.1, by have := HP.out.2; omega, HFb.out.2.2⟩
end Go.Proofs.YtfmkgppkgmjpfaaGreatDoor

/- The draw of code. -/
namespace Go.Proofs.YtfmkgppkgmjpfaaGreatDoor
open Go.RowKit Go.Deep

def CodePost (d : Dr) (W : World) (p : Nat) (e : Ending) (W' : World) : Prop :=
  ∃ v cs q, e = .returned v ∧ W'.ownsRow W.heap.size 31 4 v cs.length (rowZ In.cell 4 cs) ∧ cs.length ≤ 960000 ∧ Rdr d W' q ∧ q ≤ p + 200010 ∧ Grew d W W'

theorem bytes_lowC {d : Dr} {W : World} {p : Nat} (h : Rdr d W p) : ∀ b off, d.a0 = some ⟨b, off, none⟩ → 0 < d.len → b < W.heap.size := fun b off ea hl => by
  obtain ⟨b', off', ea', hq, -⟩ := h.bytes hl
  rw [ea] at ea'
  cases ea'
  exact hq.1

/-- What lies there when code is spoilt: the reader, the code in a row of one's own. -/
structure Cd (d : Dr) (W X : World) (p g cap : Nat) (cs : List In) : Prop where
  rd : Rdr d X p
  gr : Grew d W X
  row : X.ownsRow W.heap.size 31 4 (.slice (some ⟨g, 0, none⟩) cs.length cap) cs.length (rowZ In.cell 4 cs)
  lo : d.B < W.heap.size ∧ d.G = d.B

theorem Cd.pick {d : Dr} {W X X' : World} {p p' g cap : Nat} {cs : List In} (h : Cd d W X p g cap cs) (hr : Rdr d X' p') (hg : Grew d X X') : Cd d W X' p' g cap cs :=
  ⟨hr, h.gr.trans hg, g_grew h.row h.lo.1 (by rw [h.lo.2]; exact h.lo.1) hg, h.lo⟩

theorem Cd.below {d : Dr} {W X X' : World} {p g cap : Nat} {cs : List In} (h : Cd d W X p g cap cs) (hb : Below X.heap.size X X') : Cd d W X' p g cap cs := h.pick (h.rd.below hb) (Grew.of_below hb)

theorem Cd.at {d : Dr} {W X : World} {p g cap : Nat} {cs : List In} (h : Cd d W X p g cap cs) : W.heap.size ≤ g ∧ g < X.heap.size ∧ ∃ cur, X.heap[g]? = some (.cells cur 31) := by
  obtain ⟨h1, cur, h2⟩ := g_type h.row (g := g) rfl
  exact ⟨h1, heap_lt h2, cur, h2⟩

/-- A block of one's own is written. -/
theorem Cd.other {d : Dr} {W X X' : World} {p g cap p0 q : Nat} {cs : List In} (h : Cd d W X p g cap cs) (h0 : Rdr d W p0) (ho : ∀ k, k ≠ q → X'.heap[k]? = X.heap[k]?) (hs : X'.heap.size = X.heap.size) (hos : X'.os = X.os ∧ X'.tape = X.tape ∧ X'.output = X.output) (hq : W.heap.size ≤ q) : Rdr d X' p ∧ Grew d W X' := by
  have hlo := h.lo
  refine ⟨⟨(ho _ (by omega)).trans h.rd.blk, fun hl => ?_⟩, ⟨hos.1.trans h.gr.os, hos.2.1.trans h.gr.tape, hos.2.2.trans h.gr.output, by rw [hs]; exact h.gr.size, fun k hk => (ho k (by have := hk.1; omega)).trans (h.gr.block k hk)⟩⟩
  obtain ⟨b, off, ea, hq2, hz⟩ := h.rd.bytes hl
  have hbl := bytes_lowC h0 b off ea hl
  refine ⟨b, off, ea, ⟨by rw [hs]; exact hq2.1, hq2.2⟩, fun i hi => ?_⟩
  obtain ⟨z, hz, h5⟩ := hz i hi
  exact ⟨z, (World.cell?_of_block (a := ⟨b, off + i, none⟩) (ho b (by omega))).trans hz, h5⟩

theorem Cd.set {d : Dr} {W X : World} {p g cap p0 q : Nat} {cs : List In} (h : Cd d W X p g cap cs) (h0 : Rdr d W p0) (hq : W.heap.size ≤ q) (hne : q ≠ g) (j : Nat) (v : Value) : Cd d W (X.setCell ⟨q, j, none⟩ v) p g cap cs := by
  have ho : ∀ k, k ≠ q → (X.setCell ⟨q, j, none⟩ v).heap[k]? = X.heap[k]? := fun k hk => Below.heap_setCell X ⟨q, j, none⟩ v k hk
  obtain ⟨h1, h2⟩ := h.other (q := q) (X' := X.setCell ⟨q, j, none⟩ v) h0 ho (by simp [World.setCell]) ⟨rfl, rfl, rfl⟩ hq
  exact ⟨h1, h2, g_same h.row (fun k hk => ho k (fun e => by cases hk; exact hne e.symm)), h.lo⟩

theorem Cd.quad {d : Dr} {W X : World} {p g cap p0 k : Nat} {cs : List In} (h : Cd d W X p g cap cs) (h0 : Rdr d W p0) (hk : k < cs.length) (i : In) : Cd d W (quad X g k i) p g cap (cs.set k i) := by
  obtain ⟨e, hs⟩ := quad_other X g k i
  obtain ⟨h1, h2⟩ := h.other (q := g) h0 e hs (quad_os X g k i) h.at.1
  exact ⟨h1, h2, quad_row h.row hk i, h.lo⟩

theorem box_sets {W : World} {q : Nat} {x0 x1 x2 x3 : Value} (h : W.heap[q]? = some (.cells #[x0, x1, x2, x3] 31)) (v : Value) : (W.setCell ⟨q, 0, none⟩ v).heap[q]? = some (.cells #[v, x1, x2, x3] 31) := by
  simp [World.setCell, Array.getElem?_modify, h]

theorem app_ins {W : World} {B : Nat} {v : Value} {l m : List In} {b off cap : Nat} (hown : W.ownsRow B 31 4 v l.length (rowZ In.cell 4 l)) (hc : InsAt W b off m) (hm : l.length + m.length ≤ 2000000) (hB : B ≤ W.heap.size) (ty : TypeId) :
    ∃ v' W', (Builtin.append_ #[23, 23] ty #[v, .slice (some ⟨b, off, none⟩) m.length cap]).run Tryz.prog W = .ok v' W' ∧ W'.ownsRow B 31 4 v' (l ++ m).length (rowZ In.cell 4 (l ++ m)) ∧ W.grownBy W' v.ownBlock := by
  obtain ⟨i0, hinf, hz0, hz1, hz2⟩ := info_parts info_insC
  obtain ⟨v', W', hr, h2, h3, -, -⟩ := run_append_own_at (P := Tryz.prog) W B 23 ty 31 i0 _ 4 32 Tryz.underlying23 hinf hz0 hz1 hz2 rfl (by decide) v l.length (rowZ In.cell 4 l) hown ⟨b, off, none⟩ m.length cap (rowZ In.cell 4 m) (rowZ_len _ 4 m)
    (fun j u hu => by
      have hj : j < m.length * 4 := by
        have := (List.getElem?_eq_some_iff.1 hu).1
        rwa [rowZ_len] at this
      rw [rowZ_get In.cell 4 (by decide) m j hj] at hu
      cases hu
      rw [Addr.add_lit]
      have := hc (j / 4) (by omega) (j % 4) (by omega)
      rwa [show off + j / 4 * 4 + j % 4 = off + j by omega] at this)
    (fun u hu => by
      unfold rowZ at hu
      rw [List.mem_flatMap] at hu
      obtain ⟨x, -, hu⟩ := hu
      rw [List.mem_map] at hu
      obtain ⟨i, -, rfl⟩ := hu
      unfold In.cell
      split <;> rfl) (by unfold maxLen; omega) (by omega) hB
  refine ⟨v', W', hr, ?_, h3⟩
  rw [List.length_append, rowZ_app]
  exact h2

theorem ins_at {X : World} {B g cap : Nat} {cs : List In} (h : X.ownsRow B 31 4 (.slice (some ⟨g, 0, none⟩) cs.length cap) cs.length (rowZ In.cell 4 cs)) : InsAt X g 0 cs := fun k hk c hc => by
  rw [Nat.zero_add, h.cellAt (k * 4 + c) (by omega), rowZ_get In.cell 4 (by decide) cs _ (by omega), show (k * 4 + c) / 4 = k by omega, show (k * 4 + c) % 4 = c by omega]

theorem ins_part {W : World} {b : Nat} {ns l r : List In} {k : Nat} (h : InsAt W b 0 ns) (hd : ns.drop k = l ++ r) : InsAt W b (k * 4) l := fun j hj c hc => by
  have hlen := congrArg List.length hd
  simp only [List.length_drop, List.length_append] at hlen
  have e := h (k + j) (by omega) c hc
  rw [show 0 + (k + j) * 4 + c = k * 4 + j * 4 + c by omega] at e
  rw [e]
  congr 2
  have : ns.getD (k + j) default = (ns.drop k).getD j default := by simp [List.getD, List.getElem?_drop]
  rw [this, hd]
  simp [List.getD, List.getElem?_append_left hj]

theorem ins_last {W : World} {b e o : Nat} {ns : List In} (h : ns.drop e = [] ∨ o = e * 4) (hn : InsAt W b 0 ns) : InsAt W b o (ns.drop e) := by
  rcases h with h | rfl
  · rw [h]
    exact fun k hk => by simp at hk
  · exact ins_part (r := []) hn (by simp)

theorem ins_made (X : World) : (X.alloc (.cells #[] 31)).ownsRow X.heap.size 31 4 (.slice (some ⟨X.heap.size, 0, none⟩) 0 0) ([] : List In).length (rowZ In.cell 4 []) := World.ownsRow_made X #[] 0 (Nat.le_refl _) (Nat.zero_le _) rfl

theorem effW_of {d : Dr} {W : World} {ad : Option Addr} {n cp : Nat} {es : List Ef} (h : EffsD d W (.slice ad n cp) es) : n = es.length ∧ EffW W ad cp es := by
  rcases h.1 with ⟨h1, h2⟩ | ⟨b, off, cap, h1, h2, rfl, h4, h5⟩
  · cases h1
    exact ⟨h2.symm, Or.inl ⟨rfl, List.eq_nil_of_length_eq_zero h2, rfl⟩⟩
  · cases h1
    refine ⟨rfl, Or.inr ⟨b, rfl, h4.1, fun k hk c hc => ?_, h2⟩⟩
    rw [Nat.zero_add]
    have := h5 (k * 3 + c) (by omega)
    rw [Nat.zero_add] at this
    rw [this]
    exact congrArg some (cell_div es Ef.cell 3 k c hc)

theorem treeN_of {d : Dr} {W : World} {v : Value} {ns : List Nd} (h : NodesD d W v ns) (h1 : 1 ≤ ns.length) : ∃ b cap, v = .slice (some ⟨b, 0, none⟩) ns.length cap ∧ b < W.heap.size ∧ NodesAt W b 0 ns := by
  have hsl := h.slice
  rcases h.1 with ⟨h2, h3⟩ | ⟨b, off, cap, h2, h3, rfl, h4, -⟩
  · omega
  · refine ⟨b, cap, h2, h4.1, ?_⟩
    obtain ⟨a, c, e, h5⟩ := hsl
    rw [h2] at e
    cases e
    rcases h5 with rfl | ⟨b', off', e', -, hn⟩
    · simp at h1
    · cases e'
      exact hn

set_option maxHeartbeats 8000000 in
set_option maxRecDepth 100000 in
theorem code_calls {d : Dr} {W : World} {p : Nat} (hG : d.G = d.B) (h : Rdr d W p) (hp : p ≤ 500000) : Calls Tryz.prog 10 #[.pointer (some ⟨d.B, 0, none⟩)] W (CodePost d W p) := by
  have hB := heap_lt h.blk
  have H0 := hid (And.intro h (And.intro hp (And.intro hB hG)))
  have HP := hid (prog_calls hG h hp)
  clear hG h hp hB
  go_enter Tryz.func10, Tryz.ntmps10
  go_wp2_with fail
  refine HP.out.mono ?_
  rintro e W1 ⟨ad, n, cp, vt, es, ns, p1, rfl, hE, hE4, hN, hT, hR, hq, hg⟩
  obtain ⟨rfl, hEW⟩ := effW_of hE
  obtain ⟨tn, tk, t1, -, -, t4⟩ := hT
  obtain ⟨bt, cn, rfl, hbt, hNA⟩ := treeN_of hN (by rw [t1]; simp)
  have HC := hid (compile_calls (cn := cn) hEW (by omega) hbt hNA t4)
  have HR := hid (And.intro hR (And.intro hq hg))
  clear HP hE hE4 hN hR hq hg hEW hbt hNA t1 t4
  go_wp2_with fail
  refine HC.out.mono ?_
  rintro e W2 ⟨v, cs, x, rfl, hown, hcl, hb, -, -⟩
  obtain ⟨adv, cpv, rfl⟩ := own_slice hown
  have HO := hid (own_base hown HR.out.2.2.size)
  have HCl := hid hcl
  have R2 := hid (HR.out.1.below hb)
  have G2 := hid (HR.out.2.2.trans (Grew.of_below hb))
  have HQ := hid HR.out.2.1
  clear HC hown hcl hb HR
  obtain ⟨L, hL⟩ : ∃ L, cs.length = L := ⟨_, rfl⟩
  have HL := hid hL
  rw [hL] at HO ⊢
  clear hL
  go_wp2_with fail
  refine (rdr_pick R2.out (by have := HQ.out; have := H0.out.2.1; omega) 4 (by decide)).mono ?_
  rintro e W3 ⟨m4, rfl, hm40, hm41, hr3, hg3, -, -⟩
  have R3 := hid hr3
  have G3 := hid (G2.out.trans hg3)
  have O3 := hid (g_grew HO.out H0.out.2.2.1 (by rw [H0.out.2.2.2]; exact H0.out.2.2.1) hg3)
  clear hr3 hg3 R2 G2 HO
  have FIN : Hid (CodePost d W p (.returned (.slice adv L cpv)) W3) := ⟨_, cs, _, rfl, by rw [HL.out]; exact O3.out, by have := HCl.out; omega, R3.out, by have := HQ.out; omega, G3.out⟩
  by_cases h4 : m4 = 0
  · subst h4
    by_cases hL0 : (0 : Int) < (L : Int)
    · obtain ⟨g, hgv⟩ : ∃ g, adv = some ⟨g, 0, none⟩ := by
        obtain ⟨-, ⟨-, h0⟩ | ⟨g, cap, cur, e, -⟩⟩ := O3.out
        · omega
        · cases e
          exact ⟨g, rfl⟩
      subst hgv
      have C3 : Hid (Cd d W W3 (p1 + 1) g cpv cs) := ⟨R3.out, G3.out, by rw [HL.out]; exact O3.out, H0.out.2.2.1, H0.out.2.2.2⟩
      clear R3 G3 O3 FIN hm40 hm41
      go_wp2_with fail
      refine (rdr_pick C3.out.rd (by have := HQ.out; have := H0.out.2.1; omega) (L : Int) hL0).mono ?_
      rintro e W4 ⟨mk, rfl, hmk0, hmk1, hr4, hg4, -, -⟩
      have C4 := hid (C3.out.pick hr4 hg4)
      obtain ⟨k, rfl⟩ : ∃ k : Nat, mk = (k : Int) := ⟨mk.toNat, by omega⟩
      have hcs := ins_at C4.out.row
      have hkl : k < cs.length := by rw [HL.out]; omega
      have HK := hid hkl
      have c0 := hcs k hkl 0 (by omega)
      have c1 := hcs k hkl 1 (by omega)
      have c2 := hcs k hkl 2 (by omega)
      have c3 := hcs k hkl 3 (by omega)
      obtain ⟨⟨op, a, b, c⟩, hi⟩ : ∃ i, cs.getD k default = i := ⟨_, rfl⟩
      rw [hi] at c0 c1 c2 c3
      simp only [In.cell, Nat.add_zero, Nat.zero_add] at c0 c1 c2 c3
      have hA := (MapKept.heap_alloc W4 (.cells #[.int .i64 op, .int .i64 a, .int .i64 b, .int .i64 c] 31)).1
      have hB1 := (Below.refl W4.heap.size W4).alloc (Nat.le_refl _) (.cells #[.int .i64 op, .int .i64 a, .int .i64 b, .int .i64 c] 31)
      obtain ⟨Y, hY⟩ : ∃ Y, W4.alloc (.cells #[.int .i64 op, .int .i64 a, .int .i64 b, .int .i64 c] 31) = Y := ⟨_, rfl⟩
      rw [hY] at hA hB1
      have HY := hid hY
      have HA := hid hA
      have CY := hid (C4.out.below hB1)
      have hqg : W4.heap.size ≠ g := by have := C4.out.at.2.1; omega
      have HQg := hid (And.intro hqg (show W.heap.size ≤ W4.heap.size from C4.out.gr.size))
      obtain ⟨q, hqq⟩ : ∃ q, W4.heap.size = q := ⟨_, rfl⟩
      rw [hqq] at HA HQg
      clear hcs hkl hi hA hB1 hY hr4 hg4 C3 C4 hqg
      go_upto_region 5 with fail
      rw [HY.out]
      try rw [hqq]
      clear HY c0 c1 c2 c3 hqq hmk0
      go_wp2_with fail
      refine (rdr_pick CY.out.rd (by have := HQ.out; have := H0.out.2.1; omega) 7 (by decide)).mono ?_
      rintro e W6 ⟨m7, rfl, hm70, hm71, hr6, hg6, -, ho6⟩
      have C6 := hid (CY.out.pick hr6 hg6)
      have A6 := hid ((ho6 q (by have := HQg.out.2; have := CY.out.lo; omega)).trans HA.out)
      clear hr6 hg6 ho6 HA CY
      have hk0 : (0 : Int) ≤ (k : Int) := by omega
      have HE : Hid (∀ Z s, Cd d W Z s g cpv cs → s ≤ p1 + 4 → ∀ i : In, CodePost d W p (.returned (.slice (some ⟨g, 0, none⟩) L cpv)) (quad Z g k i)) := fun Z s hz hs i => by
        have h1 := hz.quad H0.out.1 HK.out i
        have h2 := h1.row
        rw [List.length_set] at h2
        have h3 := HL.out
        refine ⟨_, cs.set k i, _, rfl, ?_, by rw [List.length_set]; have := HCl.out; omega, h1.rd, by have := HQ.out; omega, h1.gr⟩
        rw [List.length_set, ← h3]
        exact h2
      have h7 : m7 = 0 ∨ m7 = 1 ∨ m7 = 2 ∨ m7 = 3 ∨ m7 = 4 ∨ m7 = 5 ∨ m7 = 6 := by omega
      clear hm70 hm71
      rcases h7 with rfl | rfl | rfl | rfl | rfl | rfl | rfl
      · have x0 := cell_of_heap A6.out 0
        have z0 := frozen_of_heap A6.out 0
        simp at x0
        go_wp2_with fail
        refine (rdr_pick C6.out.rd (by have := HQ.out; have := H0.out.2.1; omega) 28 (by decide)).mono ?_
        rintro e W7 ⟨m8, rfl, hm80, hm81, hr7, hg7, -, ho7⟩
        have C7 := hid (C6.out.pick hr7 hg7)
        have A7 := hid ((ho7 q (by have := HQg.out.2; have := C6.out.lo; omega)).trans A6.out)
        clear hr7 hg7 ho7 x0 z0
        obtain ⟨zz, hzz⟩ : ∃ zz : Int, m8 - 1 = zz := ⟨_, rfl⟩
        have x0 := cell_of_heap A7.out 0
        have z0 := frozen_of_heap A7.out 0
        simp at x0
        have C8 := hid (C7.out.set H0.out.1 HQg.out.2 HQg.out.1 0 (.int .i64 zz))
        have A8 := hid (box_sets A7.out (.int .i64 zz))
        obtain ⟨Z, hZ⟩ : ∃ Z, W7.setCell ⟨q, 0, none⟩ (.int .i64 zz) = Z := ⟨_, rfl⟩
        rw [hZ] at C8 A8
        have HZ := hid hZ
        have HZz := hid hzz
        clear hZ hzz
        go_upto_region 20 with fail
        rw [HZz.out, HZ.out]
        clear HZ x0 z0
        have x0 := cell_of_heap A8.out 0
        have x1 := cell_of_heap A8.out 1
        have x2 := cell_of_heap A8.out 2
        have x3 := cell_of_heap A8.out 3
        simp at x0 x1 x2 x3
        obtain ⟨-, -, cur, hcur⟩ := C8.out.at
        have hcs := ins_at C8.out.row
        have y0 := hcs k HK.out 0 (by omega)
        have f0 := frozen_of_heap hcur (k * 4)
        have y1 := hcs k HK.out 1 (by omega)
        have f1 := frozen_of_heap hcur (k * 4 + 1)
        have y2 := hcs k HK.out 2 (by omega)
        have f2 := frozen_of_heap hcur (k * 4 + 2)
        have y3 := hcs k HK.out 3 (by omega)
        have f3 := frozen_of_heap hcur (k * 4 + 3)
        simp only [Nat.add_zero, Nat.zero_add] at y0 y1 y2 y3
        clear hcur hcs
        have HR := hid (HE.out Z _ C8.out (by omega) ⟨zz, a, b, c⟩)
        unfold quad at HR
        dsimp only at HR
        go_wp2_with fail
        go_ret
        exact HR.out
      · have c1 := cell_of_heap A6.out 1
        simp at c1
        go_upto_region 9 with fail
        have hD : Below W6.heap.size W6 W6.drew := (Below.refl _ _).drew
        obtain ⟨D, hDe⟩ : ∃ D, W6.drew = D := ⟨_, rfl⟩
        rw [hDe] at hD
        have CD := hid (C6.out.below hD)
        have AD := hid ((hD.block q (heap_lt A6.out)).trans A6.out)
        refine pick_begin (S := fun _ => True) (by kernel_rfl) rfl rfl ?_
        rw [hDe]
        clear hDe hD c1
        refine pick_op (i := 0) (v := .pointer (some ⟨q, 1, none⟩)) (by kernel_rfl) rfl (by kernel_rfl) (by kernel_rfl) rfl rfl (fun w' _ => by simp [go_sem]) trivial (by simp [go_sem]; exact rfl) ?_
        refine pick_op (i := 2) (v := .pointer (some ⟨d.B, 0, none⟩)) (by kernel_rfl) rfl (by kernel_rfl) (by kernel_rfl) rfl rfl (fun w' _ => by simp [go_sem]) trivial (by simp [go_sem]; exact rfl) ?_
        refine pick_either (i := 1) (j := 3) (by kernel_rfl) ?_ ?_
        · have c1 := cell_of_heap AD.out 1
          simp at c1
          refine ⟨_, .int .i64 a, D, rfl, rfl, by simp [go_sem, c1], trivial, ?_⟩
          refine pick_frame (by simp [go_sem]; exact rfl) ?_
          clear c1
          refine pick_enter (i := 3) (f := 16) (args := #[.pointer (some ⟨d.B, 0, none⟩), .int .i64 3]) rfl (by kernel_rfl) rfl rfl (by simp [go_sem]) ?_
          refine (rdr_pick CD.out.rd (by have := HQ.out; have := H0.out.2.1; omega) 3 (by decide)).mono ?_
          rintro e W7 ⟨m8, rfl, hm80, hm81, hr7, hg7, -, ho7⟩
          have C7 := hid (CD.out.pick hr7 hg7)
          have A7 := hid ((ho7 q (by have := HQg.out.2; have := CD.out.lo; omega)).trans AD.out)
          clear hr7 hg7 ho7
          refine ⟨_, rfl, trivial, ?_⟩
          refine pick_frame (by simp [go_sem]; exact rfl) ?_
          have c1 := cell_of_heap A7.out 1
          have z1 := frozen_of_heap A7.out 1
          simp at c1
          refine pick_op (i := 4) (v := .int .i64 (wrap64 (a + m8))) (by kernel_rfl) rfl (by kernel_rfl) (by kernel_rfl) rfl rfl (fun w' _ => by simp [go_sem]; exact IntWalk.i64_left _) trivial (by simp [go_sem]; exact rfl) ?_
          obtain ⟨z4, hz4⟩ : ∃ z : Int, wrap64 (a + m8) = z := ⟨_, rfl⟩
          rw [hz4]
          clear hz4
          refine pick_op (i := 5) (v := .int .i64 (wrap64 (z4 - 1))) (by kernel_rfl) rfl (by kernel_rfl) (by kernel_rfl) rfl rfl (fun w' _ => by simp [go_sem]; exact IntWalk.i64_left _) trivial (by simp [go_sem]; exact rfl) ?_
          obtain ⟨zz, hzz⟩ : ∃ z : Int, wrap64 (z4 - 1) = z := ⟨_, rfl⟩
          rw [hzz]
          clear hzz
          refine pick_op (i := 6) (v := .pointer (some ⟨q, 1, none⟩)) (by kernel_rfl) rfl (by kernel_rfl) (by kernel_rfl) rfl rfl (fun w' _ => by simp [go_sem]) trivial (by simp [go_sem]; exact rfl) ?_
          refine pick_skip (i := 7) rfl (w1 := W7.setCell ⟨q, 1, none⟩ (.int .i64 zz)) rfl (by kernel_rfl) rfl rfl (by simp [go_sem, c1, z1]) trivial ?_
          refine pick_end (by kernel_rfl) ?_
          have C8 := hid (C7.out.set H0.out.1 HQg.out.2 HQg.out.1 1 (.int .i64 zz))
          have A8 := hid (box_set A7.out (.int .i64 zz)).1
          generalize W7.setCell ⟨q, 1, none⟩ (.int .i64 zz) = Z at *
          clear c1 z1
          go_upto_region 20 with fail
          have x0 := cell_of_heap A8.out 0
          have x1 := cell_of_heap A8.out 1
          have x2 := cell_of_heap A8.out 2
          have x3 := cell_of_heap A8.out 3
          simp at x0 x1 x2 x3
          obtain ⟨-, -, cur, hcur⟩ := C8.out.at
          have hcs := ins_at C8.out.row
          have y0 := hcs k HK.out 0 (by omega)
          have f0 := frozen_of_heap hcur (k * 4)
          have y1 := hcs k HK.out 1 (by omega)
          have f1 := frozen_of_heap hcur (k * 4 + 1)
          have y2 := hcs k HK.out 2 (by omega)
          have f2 := frozen_of_heap hcur (k * 4 + 2)
          have y3 := hcs k HK.out 3 (by omega)
          have f3 := frozen_of_heap hcur (k * 4 + 3)
          simp only [Nat.add_zero, Nat.zero_add] at y0 y1 y2 y3
          clear hcur hcs
          have HR := hid (HE.out Z _ C8.out (by omega) ⟨op, zz, b, c⟩)
          unfold quad at HR
          dsimp only at HR
          go_wp2_with fail
          go_ret
          exact HR.out
        · refine ⟨_, 16, #[.pointer (some ⟨d.B, 0, none⟩), .int .i64 3], rfl, rfl, by simp [go_sem], ?_⟩
          refine (rdr_pick CD.out.rd (by have := HQ.out; have := H0.out.2.1; omega) 3 (by decide)).mono ?_
          rintro e W7 ⟨m8, rfl, hm80, hm81, hr7, hg7, -, ho7⟩
          have C7 := hid (CD.out.pick hr7 hg7)
          have A7 := hid ((ho7 q (by have := HQg.out.2; have := CD.out.lo; omega)).trans AD.out)
          clear hr7 hg7 ho7
          refine ⟨_, rfl, trivial, ?_⟩
          refine pick_frame (by simp [go_sem]; exact rfl) ?_
          have c1 := cell_of_heap A7.out 1
          have z1 := frozen_of_heap A7.out 1
          simp at c1
          refine pick_make (i := 1) (v := .int .i64 a) (w1 := W7) rfl (by kernel_rfl) rfl rfl (by simp [go_sem, c1]) trivial (by simp [go_sem]; exact rfl) ?_
          refine pick_op (i := 4) (v := .int .i64 (wrap64 (a + m8))) (by kernel_rfl) rfl (by kernel_rfl) (by kernel_rfl) rfl rfl (fun w' _ => by simp [go_sem]; exact IntWalk.i64_left _) trivial (by simp [go_sem]; exact rfl) ?_
          obtain ⟨z4, hz4⟩ : ∃ z : Int, wrap64 (a + m8) = z := ⟨_, rfl⟩
          rw [hz4]
          clear hz4
          refine pick_op (i := 5) (v := .int .i64 (wrap64 (z4 - 1))) (by kernel_rfl) rfl (by kernel_rfl) (by kernel_rfl) rfl rfl (fun w' _ => by simp [go_sem]; exact IntWalk.i64_left _) trivial (by simp [go_sem]; exact rfl) ?_
          obtain ⟨zz, hzz⟩ : ∃ z : Int, wrap64 (z4 - 1) = z := ⟨_, rfl⟩
          rw [hzz]
          clear hzz
          refine pick_op (i := 6) (v := .pointer (some ⟨q, 1, none⟩)) (by kernel_rfl) rfl (by kernel_rfl) (by kernel_rfl) rfl rfl (fun w' _ => by simp [go_sem]) trivial (by simp [go_sem]; exact rfl) ?_
          refine pick_skip (i := 7) rfl (w1 := W7.setCell ⟨q, 1, none⟩ (.int .i64 zz)) rfl (by kernel_rfl) rfl rfl (by simp [go_sem, c1, z1]) trivial ?_
          refine pick_end (by kernel_rfl) ?_
          have C8 := hid (C7.out.set H0.out.1 HQg.out.2 HQg.out.1 1 (.int .i64 zz))
          have A8 := hid (box_set A7.out (.int .i64 zz)).1
          generalize W7.setCell ⟨q, 1, none⟩ (.int .i64 zz) = Z at *
          clear c1 z1
          go_upto_region 20 with fail
          have x0 := cell_of_heap A8.out 0
          have x1 := cell_of_heap A8.out 1
          have x2 := cell_of_heap A8.out 2
          have x3 := cell_of_heap A8.out 3
          simp at x0 x1 x2 x3
          obtain ⟨-, -, cur, hcur⟩ := C8.out.at
          have hcs := ins_at C8.out.row
          have y0 := hcs k HK.out 0 (by omega)
          have f0 := frozen_of_heap hcur (k * 4)
          have y1 := hcs k HK.out 1 (by omega)
          have f1 := frozen_of_heap hcur (k * 4 + 1)
          have y2 := hcs k HK.out 2 (by omega)
          have f2 := frozen_of_heap hcur (k * 4 + 2)
          have y3 := hcs k HK.out 3 (by omega)
          have f3 := frozen_of_heap hcur (k * 4 + 3)
          simp only [Nat.add_zero, Nat.zero_add] at y0 y1 y2 y3
          clear hcur hcs
          have HR := hid (HE.out Z _ C8.out (by omega) ⟨op, zz, b, c⟩)
          unfold quad at HR
          dsimp only at HR
          go_wp2_with fail
          go_ret
          exact HR.out
      · have x0 := cell_of_heap A6.out 2
        have z0 := frozen_of_heap A6.out 2
        simp at x0
        go_wp2_with fail
        refine (rdr_pick C6.out.rd (by have := HQ.out; have := H0.out.2.1; omega) 3 (by decide)).mono ?_
        rintro e W7 ⟨m8, rfl, hm80, hm81, hr7, hg7, -, ho7⟩
        have C7 := hid (C6.out.pick hr7 hg7)
        have A7 := hid ((ho7 q (by have := HQg.out.2; have := C6.out.lo; omega)).trans A6.out)
        clear hr7 hg7 ho7 x0 z0
        obtain ⟨zz, hzz⟩ : ∃ zz : Int, m8 = zz := ⟨_, rfl⟩
        have x0 := cell_of_heap A7.out 2
        have z0 := frozen_of_heap A7.out 2
        simp at x0
        have C8 := hid (C7.out.set H0.out.1 HQg.out.2 HQg.out.1 2 (.int .i64 zz))
        have A8 := hid ((box_set A7.out (.int .i64 zz)).2.1)
        obtain ⟨Z, hZ⟩ : ∃ Z, W7.setCell ⟨q, 2, none⟩ (.int .i64 zz) = Z := ⟨_, rfl⟩
        rw [hZ] at C8 A8
        have HZ := hid hZ
        have HZz := hid hzz
        clear hZ hzz
        go_upto_region 20 with fail
        have hm := HZz.out
        subst hm
        rw [HZ.out]
        clear HZ x0 z0
        have x0 := cell_of_heap A8.out 0
        have x1 := cell_of_heap A8.out 1
        have x2 := cell_of_heap A8.out 2
        have x3 := cell_of_heap A8.out 3
        simp at x0 x1 x2 x3
        obtain ⟨-, -, cur, hcur⟩ := C8.out.at
        have hcs := ins_at C8.out.row
        have y0 := hcs k HK.out 0 (by omega)
        have f0 := frozen_of_heap hcur (k * 4)
        have y1 := hcs k HK.out 1 (by omega)
        have f1 := frozen_of_heap hcur (k * 4 + 1)
        have y2 := hcs k HK.out 2 (by omega)
        have f2 := frozen_of_heap hcur (k * 4 + 2)
        have y3 := hcs k HK.out 3 (by omega)
        have f3 := frozen_of_heap hcur (k * 4 + 3)
        simp only [Nat.add_zero, Nat.zero_add] at y0 y1 y2 y3
        clear hcur hcs
        have HR := hid (HE.out Z _ C8.out (by omega) ⟨op, a, m8, c⟩)
        unfold quad at HR
        dsimp only at HR
        go_wp2_with fail
        go_ret
        exact HR.out
      · have HW3 : Hid (wrap64 ((L : Int) + 2) = (L : Int) + 2) := by show _ = _; have := HL.out; have := HCl.out; unfold wrap64; omega
        have hp3 : (0 : Int) < (L : Int) + 2 := by omega
        have HP3 := hid hp3
        clear hp3
        go_wp2_with fail
        rw [HW3.out]
        refine (rdr_pick C6.out.rd (by have := HQ.out; have := H0.out.2.1; omega) ((L : Int) + 2) HP3.out).mono ?_
        rintro e W7 ⟨m8, rfl, hm80, hm81, hr7, hg7, -, ho7⟩
        have C7 := hid (C6.out.pick hr7 hg7)
        have A7 := hid ((ho7 q (by have := HQg.out.2; have := C6.out.lo; omega)).trans A6.out)
        clear hr7 hg7 ho7
        have x0 := cell_of_heap A7.out 3
        have z0 := frozen_of_heap A7.out 3
        simp at x0
        have C8 := hid (C7.out.set H0.out.1 HQg.out.2 HQg.out.1 3 (.int .i64 m8))
        have A8 := hid (box_set A7.out (.int .i64 m8)).2.2
        obtain ⟨Z, hZ⟩ : ∃ Z, W7.setCell ⟨q, 3, none⟩ (.int .i64 m8) = Z := ⟨_, rfl⟩
        rw [hZ] at C8 A8
        have HZ := hid hZ
        clear hZ
        go_upto_region 20 with fail
        rw [HZ.out]
        clear HZ x0 z0
        have x0 := cell_of_heap A8.out 0
        have x1 := cell_of_heap A8.out 1
        have x2 := cell_of_heap A8.out 2
        have x3 := cell_of_heap A8.out 3
        simp at x0 x1 x2 x3
        obtain ⟨-, -, cur, hcur⟩ := C8.out.at
        have hcs := ins_at C8.out.row
        have y0 := hcs k HK.out 0 (by omega)
        have f0 := frozen_of_heap hcur (k * 4)
        have y1 := hcs k HK.out 1 (by omega)
        have f1 := frozen_of_heap hcur (k * 4 + 1)
        have y2 := hcs k HK.out 2 (by omega)
        have f2 := frozen_of_heap hcur (k * 4 + 2)
        have y3 := hcs k HK.out 3 (by omega)
        have f3 := frozen_of_heap hcur (k * 4 + 3)
        simp only [Nat.add_zero, Nat.zero_add] at y0 y1 y2 y3
        clear hcur hcs
        have HR := hid (HE.out Z _ C8.out (by omega) ⟨op, a, b, m8⟩)
        unfold quad at HR
        dsimp only at HR
        go_wp2_with fail
        go_ret
        exact HR.out
      · have x0 := cell_of_heap A6.out 0
        have x1 := cell_of_heap A6.out 1
        have x2 := cell_of_heap A6.out 2
        have x3 := cell_of_heap A6.out 3
        have z0 := frozen_of_heap A6.out 0
        have z1 := frozen_of_heap A6.out 1
        have z2 := frozen_of_heap A6.out 2
        have z3 := frozen_of_heap A6.out 3
        simp at x0 x1 x2 x3
        have C8 := hid ((((C6.out.set H0.out.1 HQg.out.2 HQg.out.1 0 (.int .i64 13)).set H0.out.1 HQg.out.2 HQg.out.1 1 (.int .i64 0)).set H0.out.1 HQg.out.2 HQg.out.1 2 (.int .i64 0)).set H0.out.1 HQg.out.2 HQg.out.1 3 (.int .i64 0))
        have A8 := hid (box_set (box_set (box_set (box_sets A6.out (.int .i64 13)) (.int .i64 0)).1 (.int .i64 0)).2.1 (.int .i64 0)).2.2
        obtain ⟨Z, hZ⟩ : ∃ Z, (((W6.setCell ⟨q, 0, none⟩ (.int .i64 13)).setCell ⟨q, 1, none⟩ (.int .i64 0)).setCell ⟨q, 2, none⟩ (.int .i64 0)).setCell ⟨q, 3, none⟩ (.int .i64 0) = Z := ⟨_, rfl⟩
        rw [hZ] at C8 A8
        have HZ := hid hZ
        clear hZ
        go_upto_region 20 with fail
        rw [HZ.out]
        clear HZ x0 x1 x2 x3 z0 z1 z2 z3
        have x0 := cell_of_heap A8.out 0
        have x1 := cell_of_heap A8.out 1
        have x2 := cell_of_heap A8.out 2
        have x3 := cell_of_heap A8.out 3
        simp at x0 x1 x2 x3
        obtain ⟨-, -, cur, hcur⟩ := C8.out.at
        have hcs := ins_at C8.out.row
        have y0 := hcs k HK.out 0 (by omega)
        have f0 := frozen_of_heap hcur (k * 4)
        have y1 := hcs k HK.out 1 (by omega)
        have f1 := frozen_of_heap hcur (k * 4 + 1)
        have y2 := hcs k HK.out 2 (by omega)
        have f2 := frozen_of_heap hcur (k * 4 + 2)
        have y3 := hcs k HK.out 3 (by omega)
        have f3 := frozen_of_heap hcur (k * 4 + 3)
        simp only [Nat.add_zero, Nat.zero_add] at y0 y1 y2 y3
        clear hcur hcs
        have HR := hid (HE.out Z _ C8.out (by omega) ⟨13, 0, 0, 0⟩)
        unfold quad at HR
        dsimp only at HR
        go_wp2_with fail
        go_ret
        exact HR.out
      · have x0 := cell_of_heap A6.out 0
        have x1 := cell_of_heap A6.out 1
        have x2 := cell_of_heap A6.out 2
        have x3 := cell_of_heap A6.out 3
        have z0 := frozen_of_heap A6.out 0
        have z1 := frozen_of_heap A6.out 1
        have z2 := frozen_of_heap A6.out 2
        have z3 := frozen_of_heap A6.out 3
        simp at x0 x1 x2 x3
        have C8 := hid ((((C6.out.set H0.out.1 HQg.out.2 HQg.out.1 0 (.int .i64 3)).set H0.out.1 HQg.out.2 HQg.out.1 1 (.int .i64 0)).set H0.out.1 HQg.out.2 HQg.out.1 2 (.int .i64 0)).set H0.out.1 HQg.out.2 HQg.out.1 3 (.int .i64 0))
        have A8 := hid (box_set (box_set (box_set (box_sets A6.out (.int .i64 3)) (.int .i64 0)).1 (.int .i64 0)).2.1 (.int .i64 0)).2.2
        obtain ⟨Z, hZ⟩ : ∃ Z, (((W6.setCell ⟨q, 0, none⟩ (.int .i64 3)).setCell ⟨q, 1, none⟩ (.int .i64 0)).setCell ⟨q, 2, none⟩ (.int .i64 0)).setCell ⟨q, 3, none⟩ (.int .i64 0) = Z := ⟨_, rfl⟩
        rw [hZ] at C8 A8
        have HZ := hid hZ
        clear hZ
        go_upto_region 20 with fail
        rw [HZ.out]
        clear HZ x0 x1 x2 x3 z0 z1 z2 z3
        have x0 := cell_of_heap A8.out 0
        have x1 := cell_of_heap A8.out 1
        have x2 := cell_of_heap A8.out 2
        have x3 := cell_of_heap A8.out 3
        simp at x0 x1 x2 x3
        obtain ⟨-, -, cur, hcur⟩ := C8.out.at
        have hcs := ins_at C8.out.row
        have y0 := hcs k HK.out 0 (by omega)
        have f0 := frozen_of_heap hcur (k * 4)
        have y1 := hcs k HK.out 1 (by omega)
        have f1 := frozen_of_heap hcur (k * 4 + 1)
        have y2 := hcs k HK.out 2 (by omega)
        have f2 := frozen_of_heap hcur (k * 4 + 2)
        have y3 := hcs k HK.out 3 (by omega)
        have f3 := frozen_of_heap hcur (k * 4 + 3)
        simp only [Nat.add_zero, Nat.zero_add] at y0 y1 y2 y3
        clear hcur hcs
        have HR := hid (HE.out Z _ C8.out (by omega) ⟨3, 0, 0, 0⟩)
        unfold quad at HR
        dsimp only at HR
        go_wp2_with fail
        go_ret
        exact HR.out
      · obtain ⟨-, -, cur, hcur⟩ := C6.out.at
        have hcap : L ≤ cpv := by obtain ⟨-, ⟨h1, -⟩ | ⟨g', cap', cur', e, -, -, h2, -⟩⟩ := C6.out.row; cases h1; cases e; rw [HL.out] at h2; exact h2
        have hkL : k < L := by have := HK.out; have := HL.out; omega
        have hkc : (k : Int) ≤ (cpv : Int) := by omega
        have HW1 : Hid (wrap64 ((k : Int) + 1) = ((k + 1 : Nat) : Int)) := by show _ = _; have := HCl.out; have := HL.out; unfold wrap64; omega
        clear hcur
        go_upto_region 19 with fail
        have hD : Below W6.heap.size W6 W6.drew := (Below.refl _ _).drew
        obtain ⟨D, hDe⟩ : ∃ D, W6.drew = D := ⟨_, rfl⟩
        rw [hDe] at hD
        have CD := hid (C6.out.below hD)
        refine pick_begin (S := fun _ => True) (by kernel_rfl) rfl rfl ?_
        rw [hDe]
        clear hDe hD
        have hk9 : ¬ cpv < k := by omega
        have he9 : k + 1 ≤ L := by omega
        have he8 : ((k + 1 : Nat) : Int) ≤ (L : Int) := by omega
        obtain ⟨o3, ho3, hO3⟩ : ∃ o3, (if cpv = k + 1 then some (⟨g, 0, none⟩ : Addr) else some ⟨g, (k + 1) * 4, none⟩) = some ⟨g, o3, none⟩ ∧ (cs.drop (k + 1) = [] ∨ o3 = (k + 1) * 4) := by
          by_cases h : cpv = k + 1
          · exact ⟨0, by rw [if_pos h], Or.inl (List.drop_eq_nil_of_le (by have := HL.out; omega))⟩
          · exact ⟨(k + 1) * 4, by rw [if_neg h], Or.inr rfl⟩
        have HO3 := hid hO3
        clear hO3
        refine pick_op (i := 1) (v := .slice (some ⟨g, 0, none⟩) L cpv) (by kernel_rfl) rfl (by kernel_rfl) (by kernel_rfl) rfl rfl (fun w' _ => by simp [go_sem]) trivial (by simp [go_sem]; exact rfl) ?_
        refine pick_op (i := 2) (v := .int .i64 (k : Int)) (by kernel_rfl) rfl (by kernel_rfl) (by kernel_rfl) rfl rfl (fun w' _ => by simp [go_sem]) trivial (by simp [go_sem]; exact rfl) ?_
        refine pick_op (i := 3) (v := .slice (some ⟨g, 0, none⟩) k cpv) (by kernel_rfl) rfl (by kernel_rfl) (by kernel_rfl) rfl rfl (fun w' _ => by simp [go_sem, Tryz.underlying23, hk9]) trivial (by simp [go_sem]; exact rfl) ?_
        refine pick_op (i := 5) (v := .slice (some ⟨g, 0, none⟩) L cpv) (by kernel_rfl) rfl (by kernel_rfl) (by kernel_rfl) rfl rfl (fun w' _ => by simp [go_sem]) trivial (by simp [go_sem]; exact rfl) ?_
        refine pick_op (i := 6) (v := .int .i64 (k : Int)) (by kernel_rfl) rfl (by kernel_rfl) (by kernel_rfl) rfl rfl (fun w' _ => by simp [go_sem]) trivial (by simp [go_sem]; exact rfl) ?_
        refine pick_op (i := 7) (v := .int .i64 (wrap64 ((k : Int) + 1))) (by kernel_rfl) rfl (by kernel_rfl) (by kernel_rfl) rfl rfl (fun w' _ => by simp [go_sem]; exact IntWalk.i64_left _) trivial (by simp [go_sem]; exact rfl) ?_
        rw [HW1.out]
        obtain ⟨k1, hk1⟩ : ∃ k1, k + 1 = k1 := ⟨_, rfl⟩
        rw [hk1] at ho3 he9 HO3 ⊢
        have HK1 := hid hk1
        clear hk1 he8 HW1
        refine pick_op (i := 8) (v := .slice (some ⟨g, o3, none⟩) (L - k1) (cpv - k1)) (by kernel_rfl) rfl (by kernel_rfl) (by kernel_rfl) rfl rfl (fun w' _ => by simp [go_sem, Tryz.underlying23, he9, ho3]) trivial (by simp [go_sem]; exact rfl) ?_
        have OW0 := hid (ins_made D)
        have BL0 : Hid (Below D.heap.size D (D.alloc (.cells #[] 31))) := (Below.refl _ _).alloc (Nat.le_refl _) _
        refine pick_make (i := 0) (v := .slice (some ⟨D.heap.size, 0, none⟩) 0 0) (w1 := D.alloc (.cells #[] 31)) rfl (by kernel_rfl) rfl rfl (by simp [go_sem]) trivial (by simp [go_sem]; exact rfl) ?_
        generalize D.alloc (.cells #[] 31) = Y0 at *
        have HNs := hid (fun (Y : World) (hb : Below D.heap.size D Y) => ins_at (CD.out.below hb).row)
        have HLn : Hid ((cs.take k).length = k ∧ (cs.drop k1).length = L - k1) := ⟨by rw [List.length_take]; have := HK.out; omega, by rw [List.length_drop, HL.out]⟩
        obtain ⟨v1, Y1, hrun, hown, hgr⟩ := app_ins (b := g) (off := 0) (cap := cpv) OW0.out (m := cs.take k) (by have h := ins_part (k := 0) (l := cs.take k) (r := cs.drop k) (HNs.out Y0 BL0.out) (by rw [List.drop_zero, List.take_append_drop]); rwa [Nat.zero_mul] at h) (by rw [HLn.out.1]; have := HCl.out; have := HK.out; simp; omega) BL0.out.size 23
        have OW1 := hid hown
        have BL1 : Hid (Below D.heap.size D Y1) := BL0.out.grown hgr BL0.out.size (fun x hx => (OW0.out.lt x hx).1)
        rw [HLn.out.1] at hrun
        obtain ⟨ad1, cp1, hv1⟩ := g_is hown
        obtain ⟨l1, hl1⟩ : ∃ l, (([] : List In) ++ cs.take k).length = l := ⟨_, rfl⟩
        rw [hl1] at hv1
        subst hv1
        clear hown hgr hl1
        refine pick_make (i := 4) (v := .slice ad1 l1 cp1) (w1 := Y1) rfl (by kernel_rfl) rfl rfl (append_run (s := .tmp 67) (x := .tmp 70) (t := 23) rfl rfl rfl hrun) trivial (by simp [go_sem]; exact rfl) ?_
        clear hrun
        have HLl : Hid ((([] : List In) ++ cs.take k).length + (cs.drop k1).length ≤ 950000) := by show _ ≤ _; have h1 := HLn.out.2; have h2 := HLn.out.1; have h3 := HCl.out; have h4 := HL.out; have h5 := HK1.out; rw [List.nil_append]; omega
        obtain ⟨v2, Y2, hrun, hown, hgr⟩ := app_ins (b := g) (off := o3) (cap := cpv - k1) OW1.out (m := cs.drop k1) (ins_last HO3.out (HNs.out Y1 BL1.out)) (by have := HLl.out; omega) BL1.out.size 23
        have OW2 := hid hown
        have BL2 : Hid (Below D.heap.size D Y2) := BL1.out.grown hgr BL1.out.size (fun x hx => (OW1.out.lt x hx).1)
        rw [HLn.out.2] at hrun
        obtain ⟨ad2, cp2, hv2⟩ := g_is hown
        obtain ⟨l2, hl2⟩ : ∃ l, ((([] : List In) ++ cs.take k) ++ cs.drop k1).length = l := ⟨_, rfl⟩
        rw [hl2] at hv2
        subst hv2
        clear hown hgr hl2
        refine pick_make (i := 9) (v := .slice ad2 l2 cp2) (w1 := Y2) rfl (by kernel_rfl) rfl rfl (append_run (s := .tmp 71) (x := .tmp 75) (t := 23) rfl rfl rfl hrun) trivial (by simp [go_sem]; exact rfl) ?_
        clear hrun
        refine pick_op (i := 10) (v := .slice ad2 l2 cp2) (by kernel_rfl) rfl (by kernel_rfl) (by kernel_rfl) rfl rfl (fun w' _ => by simp [go_sem]) trivial (by simp [go_sem]; exact rfl) ?_
        refine pick_end (by kernel_rfl) ?_
        have CE := hid (CD.out.below BL2.out)
        have HDs : Hid (W.heap.size ≤ D.heap.size) := CD.out.gr.size
        have HR : Hid (CodePost d W p (.returned (.slice ad2 l2 cp2)) Y2) := ⟨_, _, _, rfl, own_base OW2.out HDs.out, by rw [List.length_append]; have := HLl.out; omega, CE.out.rd, by have := HQ.out; omega, CE.out.gr⟩
        clear hk9 he9 ho3 hkc hkL hcap
        go_wp2_with fail
        go_ret
        exact HR.out
    · have z4 : ¬ ((0 : Int) < (L : Int)) := hL0
      go_wp2_with fail
      go_ret
      exact FIN.out
  · have z4 : (m4 == 0) = false := by simp [h4]
    go_wp2_with fail
    go_ret
    exact FIN.out
end Go.Proofs.YtfmkgppkgmjpfaaGreatDoor

/- Whether an instruction is one: both sides answer by one and the same table of numbers. -/
namespace Go.Proofs.YtfmkgppkgmjpfaaGreatDoor
open Go.RowKit

/-- How many numbers an instruction has; -1: it is none. -/
def manyZ (op : Int) : Int :=
  if op = 0 ∨ op = 3 ∨ op = 4 ∨ op = 8 ∨ op = 9 ∨ op = 12 ∨ op = 13 ∨ op = 15 ∨ op = 16 ∨ op = 17 ∨ op = 18 ∨ op = 20 ∨ op = 23 then 0
  else if op = 1 ∨ op = 2 ∨ op = 5 ∨ op = 6 ∨ op = 7 ∨ op = 10 ∨ op = 11 ∨ op = 14 ∨ op = 19 ∨ op = 22 then 1
  else if op = 24 ∨ op = 25 then 2
  else if op = 21 then 3
  else -1

theorem ops_cases (op : Int) : (op < 0 ∨ 25 < op) ∨ op = 0 ∨ op = 1 ∨ op = 2 ∨ op = 3 ∨ op = 4 ∨ op = 5 ∨ op = 6 ∨ op = 7 ∨ op = 8 ∨ op = 9 ∨ op = 10 ∨ op = 11 ∨ op = 12 ∨ op = 13 ∨ op = 14 ∨ op = 15 ∨ op = 16 ∨ op = 17 ∨ op = 18 ∨ op = 19 ∨ op = 20 ∨ op = 21 ∨ op = 22 ∨ op = 23 ∨ op = 24 ∨ op = 25 := by omega

set_option maxRecDepth 100000 in
theorem l5Many_calls (op : Int) (w : World) :
    Calls Tryz.prog 41 #[.int .i64 op] w fun e w' => e = .returned (.int .i64 (manyZ op)) ∧ w = w' := by
  rcases ops_cases op with h | h | h | h | h | h | h | h | h | h | h | h | h | h | h | h | h | h | h | h | h | h | h | h | h | h | h
  case inl =>
    rw [show manyZ op = -1 by unfold manyZ; rw [if_neg (by omega), if_neg (by omega), if_neg (by omega), if_neg (by omega)]]
    have n0 : op ≠ 0 := by omega
    have n1 : op ≠ 1 := by omega
    have n2 : op ≠ 2 := by omega
    have n3 : op ≠ 3 := by omega
    have n4 : op ≠ 4 := by omega
    have n5 : op ≠ 5 := by omega
    have n6 : op ≠ 6 := by omega
    have n7 : op ≠ 7 := by omega
    have n8 : op ≠ 8 := by omega
    have n9 : op ≠ 9 := by omega
    have n10 : op ≠ 10 := by omega
    have n11 : op ≠ 11 := by omega
    have n12 : op ≠ 12 := by omega
    have n13 : op ≠ 13 := by omega
    have n14 : op ≠ 14 := by omega
    have n15 : op ≠ 15 := by omega
    have n16 : op ≠ 16 := by omega
    have n17 : op ≠ 17 := by omega
    have n18 : op ≠ 18 := by omega
    have n19 : op ≠ 19 := by omega
    have n20 : op ≠ 20 := by omega
    have n21 : op ≠ 21 := by omega
    have n22 : op ≠ 22 := by omega
    have n23 : op ≠ 23 := by omega
    have n24 : op ≠ 24 := by omega
    have n25 : op ≠ 25 := by omega
    clear h
    go_enter Tryz.func41, Tryz.ntmps41
    go_wp2
    go_ret
    exact ⟨rfl, rfl⟩
  all_goals
    subst h
    go_enter Tryz.func41, Tryz.ntmps41
    go_wp2
    go_ret
    exact ⟨rfl, rfl⟩

/-- Whether an instruction with these numbers is one. -/
def insOkZ (op a b c : Int) : Bool :=
  if manyZ op < 0 ∨ (manyZ op < 1 ∧ a ≠ 0) ∨ (manyZ op < 2 ∧ b ≠ 0) ∨ (manyZ op < 3 ∧ c ≠ 0) then false
  else if op = 1 then decide (-2147483648 ≤ a ∧ a ≤ 2147483647)
  else if op = 2 then decide (a = 0 ∨ a = 1)
  else if op = 14 then decide (11 ≤ a ∧ a ≤ 15)
  else if op = 21 ∧ b ≠ 0 ∧ b ≠ 1 then false
  else decide (0 ≤ a ∧ a ≤ 65535 ∧ 0 ≤ b ∧ b ≤ 65535 ∧ 0 ≤ c ∧ c ≤ 65535)

end Go.Proofs.YtfmkgppkgmjpfaaGreatDoor

/- A copy of a list of instructions; two that hold the same compare as alike; marks that are put into one are held by it. -/
namespace Go.Proofs.YtfmkgppkgmjpfaaGreatDoor
open Go.RowKit

/-- The cells of a list of instructions, told by place. -/
def insCells (ns : List In) (i : Nat) : Value := (ns.getD (i / 4) default).cell (i % 4)

theorem insCells_at (ns : List In) (k c : Nat) (hc : c < 4) : insCells ns (k * 4 + c) = (ns.getD k default).cell c := by
  unfold insCells
  rw [show (k * 4 + c) / 4 = k by omega, show (k * 4 + c) % 4 = c by omega]

theorem CellRow.insAt {w : World} {g : Nat} {ns : List In} (h : CellRow 31 w g (ns.length * 4) (insCells ns)) : InsAt w g 0 ns := by
  intro k hk c hc
  have := h.cell (i := k * 4 + c) (by omega)
  rw [insCells_at ns k c hc] at this
  simpa using this

theorem info_ins : (Tryz.prog.info? 31).map (fun i => (i.zero, i.size, i.bytes)) = some (some (.agg #[.int .i64 0, .int .i64 0, .int .i64 0, .int .i64 0]), 4, 32) := by kernel_rfl

theorem made_ins (len : Nat) (hl : len ≤ 1048576) (w : World) : ∃ c : Array Value, c.size = len * 4 ∧
    (Instr.makeSlice 23 (.int .i64 (len : Int)) (.int .i64 (len : Int))).run Tryz.prog w = .ok (.slice (some ⟨w.heap.size, 0, none⟩) len len) (w.alloc (.cells c 31)) := by
  obtain ⟨i0, hi, hz0, hz1, hz2⟩ := info_parts info_ins
  have h := run_make (P := Tryz.prog) w 23 31 i0 _ Tryz.underlying23 hi hz0 .i64 .i64 len len (by omega) (Int.le_refl _) (by rw [hz2]; omega) (by omega)
  rw [hz1] at h
  simp only [Int.toNat_natCast] at h
  exact ⟨_, size_madeCells _ _, h⟩

/-- One instruction more is stored. -/
theorem ins_step {w1 : World} {B t N k : Nat} {f : Nat → Value} {n : Nat} (a b c d : Value) (h : Rw w1 B t N f n) :
    ∃ f', Rw ((((w1.setCell ⟨B, k * 4, none⟩ a).setCell ⟨B, k * 4 + 1, none⟩ b).setCell ⟨B, k * 4 + 2, none⟩ c).setCell ⟨B, k * 4 + 3, none⟩ d) B t N f' n ∧
      f' (k * 4) = a ∧ f' (k * 4 + 1) = b ∧ f' (k * 4 + 2) = c ∧ f' (k * 4 + 3) = d ∧ ∀ i, i < k * 4 → f' i = f i := by
  refine ⟨_, (((h.set _ _).set _ _).set _ _).set _ _, ?_, ?_, ?_, ?_, fun i hi => ?_⟩
  · rw [if_neg (by omega), if_neg (by omega), if_neg (by omega), if_pos (by omega)]
  · rw [if_neg (by omega), if_neg (by omega), if_pos (by omega)]
  · rw [if_neg (by omega), if_pos (by omega)]
  · rw [if_pos (by omega)]
  · rw [if_neg (by omega), if_neg (by omega), if_neg (by omega), if_neg (by omega)]

theorem ins_more {k : Nat} {f f' F : Nat → Value} (hf : ∀ i, i < k * 4 → f i = F i) (ho : ∀ i, i < k * 4 → f' i = f i)
    (h0 : f' (k * 4) = F (k * 4)) (h1 : f' (k * 4 + 1) = F (k * 4 + 1)) (h2 : f' (k * 4 + 2) = F (k * 4 + 2)) (h3 : f' (k * 4 + 3) = F (k * 4 + 3)) : ∀ i, i < (k + 1) * 4 → f' i = F i := by
  intro i hi
  by_cases h : i < k * 4
  · rw [ho i h, hf i h]
  · have : i = k * 4 ∨ i = k * 4 + 1 ∨ i = k * 4 + 2 ∨ i = k * 4 + 3 := by omega
    rcases this with rfl | rfl | rfl | rfl
    · exact h0
    · exact h1
    · exact h2
    · exact h3

theorem SliceR.insSlice {B : Nat} {w : World} {v : Value} {ns : List In} (h : SliceR 31 4 B w v ns.length (insCells ns)) : InsSlice w v ns := by
  obtain ⟨ad, cap, rfl, h⟩ := h
  refine ⟨ad, cap, rfl, ?_⟩
  by_cases h0 : ns = []
  · exact Or.inl h0
  · obtain ⟨g, rfl, _, hr⟩ := h.resolve_left (fun e => h0 (List.length_eq_zero_iff.1 e))
    exact Or.inr ⟨g, 0, rfl, hr.lt, hr.insAt⟩

end Go.Proofs.YtfmkgppkgmjpfaaGreatDoor

/- The bytes of code, as plain numbers. -/
namespace Go.Proofs.YtfmkgppkgmjpfaaGreatDoor
open Go.RowKit

/-- A number in four bytes, the highest first. -/
def four (n : Int) : List Int := [n / 16777216 % 256, n / 65536 % 256, n / 256 % 256, n % 256]

def In.nums (i : In) : List Int := [i.a, i.b, i.c].take (manyZ i.op).toNat

def In.bytes (i : In) : List Int := (i.op % 256) :: i.nums.flatMap four

def In.ok (i : In) : Bool := insOkZ i.op i.a i.b i.c

def headBytes : List Int := [104, 114, 49]

def codeOkZ (cs : List In) : Bool := decide (cs.length ≤ 1500) && cs.all In.ok

def codeBytesZ (cs : List In) : List Int := headBytes ++ cs.flatMap In.bytes

theorem four_length (n : Int) : (four n).length = 4 := rfl

theorem nums_length (i : In) : i.nums.length ≤ 3 := by
  unfold In.nums
  simp
  omega

theorem flat_length : ∀ ns : List Int, (ns.flatMap four).length = ns.length * 4
  | [] => rfl
  | n :: r => by rw [List.flatMap_cons, List.length_append, flat_length r, List.length_cons, four_length]; omega

theorem bytes_length (i : In) : i.bytes.length ≤ 13 := by
  have := nums_length i
  rw [In.bytes, List.length_cons, flat_length]
  omega

theorem code_length : ∀ cs : List In, (cs.flatMap In.bytes).length ≤ cs.length * 13
  | [] => by simp
  | i :: r => by
    have := bytes_length i
    have := code_length r
    rw [List.flatMap_cons, List.length_append, List.length_cons]
    omega

/-- These bytes lie in a row of the slice's own, from block B on. -/
def OwnsB (B : Nat) (w : World) (v : Value) (bs : List Int) : Prop := w.ownsRow B 5 1 v bs.length (bs.map (fun b => .int .u8 b))

theorem OwnsB.more {B k : Nat} {w : World} {v : Value} {bs ns : List Int} {news : List Value} (h : w.ownsRow B 5 1 v (bs.length + k) (bs.map (fun b => .int .u8 b) ++ news)) (e : news = ns.map (fun b => .int .u8 b)) (hk : k = ns.length) : OwnsB B w v (bs ++ ns) := by
  subst e hk
  unfold OwnsB
  rw [List.length_append, List.map_append]
  exact h

theorem OwnsB.mono {B B' : Nat} {w : World} {v : Value} {bs : List Int} (h : OwnsB B w v bs) (hB : B' ≤ B) : OwnsB B' w v bs := by
  refine ⟨h.1, h.2.imp id ?_⟩
  rintro ⟨g, cap, cur, e, hg, r⟩
  exact ⟨g, cap, cur, e, Nat.le_trans hB hg, r⟩

theorem owns_ne {w : World} {base b : Nat} {e t : TypeId} {size : Nat} {v : Value} {n : Nat} {xs : List Value} {c : Array Value} (h : w.ownsRow base e size v n xs) (hb : w.heap[b]? = some (.cells c t)) (hne : e ≠ t) : some b ≠ v.ownBlock := by
  intro hv
  rcases h.2 with ⟨rfl, hn⟩ | ⟨g, cap, cur, rfl, hB, hg, _⟩
  · cases hv
  · simp [Value.ownBlock] at hv
    subst hv
    rw [hb] at hg
    simp at hg
    exact hne hg.2.symm

theorem info_byte : (Tryz.prog.info? 5).map (fun i => (i.zero, i.size, i.bytes)) = some (some (.int .u8 0), 1, 1) := by kernel_rfl

theorem cell_oneC (w : World) (n : Nat) (hn : n = w.heap.size) (a : Value) (t : TypeId) : ∀ j u, [a][j]? = some u → (w.alloc (.cells #[a] t)).cell? ((⟨n, 0, none⟩ : Addr).add j) = some u := by
  subst hn
  intro j u hj
  match j, hj with
  | 0, hj => simp at hj; subst hj; simp [Addr.add]
  | j + 1, hj => simp at hj

theorem cell_four_new (w : World) (n : Nat) (hn : n = w.heap.size) (a b c d : Value) (t : TypeId) : ∀ j u, [a, b, c, d][j]? = some u → (w.alloc (.cells #[a, b, c, d] t)).cell? ((⟨n, 0, none⟩ : Addr).add j) = some u := by
  subst hn
  intro j u hj
  match j, hj with
  | 0, hj => simp at hj; subst hj; simp [Addr.add]
  | 1, hj => simp at hj; subst hj; simp [Addr.add]
  | 2, hj => simp at hj; subst hj; simp [Addr.add]
  | 3, hj => simp at hj; subst hj; simp [Addr.add]
  | j + 4, hj => simp at hj

theorem head_owns (w : World) : OwnsB w.heap.size (w.alloc (.cells #[.int .u8 104, .int .u8 114, .int .u8 49] 5)) (.slice (some ⟨w.heap.size, 0, none⟩) 3 3) headBytes := by
  refine ⟨rfl, Or.inr ⟨w.heap.size, 3, _, rfl, Nat.le_refl _, (MapKept.heap_alloc w _).1, Nat.le_refl _, by decide, rfl, rfl⟩⟩

theorem ins_drop {cs : List In} {k : Nat} (hk : k < cs.length) : cs.take (k + 1) = cs.take k ++ [cs.getD k default] := by
  rw [List.take_succ_eq_append_getElem hk]
  simp [List.getD, List.getElem?_eq_getElem hk]
end Go.Proofs.YtfmkgppkgmjpfaaGreatDoor

/- Which places of code are come to, and how: whatever the order in which they are gone through. -/
namespace Go.Proofs.YtfmkgppkgmjpfaaGreatDoor
open Go.RowKit

/-- How a place is come to: so many names and values, and of which part (0: not at all; 1: the whole; 2: a function; 3: a body). -/
structure Sq where
  n : Int
  v : Int
  p : Int

instance : Inhabited Sq := ⟨⟨0, 0, 0⟩⟩

instance : DecidableEq Sq := fun a b =>
  if h : a.n = b.n ∧ a.v = b.v ∧ a.p = b.p then isTrue (by cases a; cases b; obtain ⟨h1, h2, h3⟩ := h; dsimp only at h1 h2 h3; subst h1 h2 h3; rfl)
  else isFalse (fun e => h (by subst e; exact ⟨rfl, rfl, rfl⟩))

/-- What is noted of a place. -/
def tg (T : List Sq) (k : Nat) : Sq := T.getD k default

theorem tg_set {T : List Sq} {k : Nat} (hk : k < T.length) (s : Sq) (j : Nat) : tg (T.set k s) j = if j = k then s else tg T j := by
  unfold tg
  simp only [List.getD_eq_getElem?_getD, List.getElem?_set]
  by_cases h : k = j
  · subst h
    simp [hk]
  · have h' : ¬ j = k := fun e => h e.symm
    simp [h, h']

theorem tg_out {T : List Sq} {k : Nat} (hk : ¬ k < T.length) : tg T k = ⟨0, 0, 0⟩ := by
  unfold tg
  rw [List.getD_eq_getElem?_getD, List.getElem?_eq_none (by omega)]
  rfl

/-- How many places are not come to yet. -/
def free (T : List Sq) : Nat := T.countP (fun s => decide (s.p = 0))

theorem free_le (T : List Sq) : free T ≤ T.length := List.countP_le_length

theorem free_set : ∀ (T : List Sq) (k : Nat), k < T.length → (tg T k).p = 0 → ∀ s : Sq, s.p ≠ 0 → free (T.set k s) + 1 = free T
  | [], _, h, _, _, _ => absurd h (by simp)
  | x :: r, 0, _, h0, s, hs => by
    have h0' : x.p = 0 := h0
    simp [free, hs, h0']
  | x :: r, k + 1, h, h0, s, hs => by
    have ih := free_set r k (by simpa using h) (by simpa [tg] using h0) s hs
    simp only [free, List.set_cons_succ, List.countP_cons] at ih ⊢
    omega

/-- The lines of a table behind its first. -/
def clausesZ (cs : List In) (a : Int) : List In := (cs.drop (a.toNat + 1)).take (cs.getD a.toNat default).b.toNat

def tableZ (cs : List In) (a : Int) : Bool :=
  decide (a < (cs.length : Int)) && (decide ((cs.getD a.toNat default).op = 24) && (decide ((cs.getD a.toNat default).b ≤ 4) && (decide ((cs.getD a.toNat default).b < (cs.length : Int) - a) && (clausesZ cs a).all (fun i => decide (i.op = 25)))))

/-- Does an instruction have what it needs? -/
def needsZ (cs : List In) (i : In) (s : Sq) : Bool :=
  if i.op = 5 then decide (i.a < s.n)
  else if i.op = 8 ∨ i.op = 14 ∨ i.op = 15 ∨ i.op = 18 then decide (2 ≤ s.v)
  else if i.op = 10 ∨ i.op = 12 ∨ i.op = 16 ∨ i.op = 17 ∨ i.op = 19 ∨ i.op = 20 ∨ i.op = 22 then decide (1 ≤ s.v)
  else if i.op = 13 then decide (1 ≤ s.n)
  else if i.op = 21 then tableZ cs i.a
  else if i.op = 0 then decide (s.v = 1 ∧ s.p = 1)
  else if i.op = 9 then decide (s.v = 1 ∧ s.p = 2)
  else if i.op = 23 then decide (s.v = 1 ∧ s.p = 3)
  else if i.op = 24 ∨ i.op = 25 then false
  else true

def Sq.more (s : Sq) (n v : Int) : Sq := ⟨s.n + n, s.v + v, s.p⟩

def handleZ (cs : List In) (k : Nat) (i : In) (s : Sq) : List (Int × Sq) :=
  ((cs.getD i.a.toNat default).a, ⟨s.n + 1, 0, 2⟩) :: (clausesZ cs i.a).map (fun c => (c.b, (⟨s.n + 2, 0, 2⟩ : Sq))) ++ [((k : Int) + 1, ⟨s.n, 0, 3⟩), (i.c, s.more 0 1)]

/-- What an instruction comes to. -/
def exitsZ (cs : List In) (k : Nat) (i : In) (s : Sq) : List (Int × Sq) :=
  if i.op = 1 ∨ i.op = 2 ∨ i.op = 3 ∨ i.op = 4 ∨ i.op = 5 then [((k : Int) + 1, s.more 0 1)]
  else if i.op = 6 then [(i.a, ⟨s.n + 1, 0, 2⟩), ((k : Int) + 1, s.more 0 1)]
  else if i.op = 7 then [(i.a, ⟨s.n + 2, 0, 2⟩), ((k : Int) + 1, s.more 0 1)]
  else if i.op = 8 ∨ i.op = 14 ∨ i.op = 15 ∨ i.op = 18 then [((k : Int) + 1, s.more 0 (-1))]
  else if i.op = 10 then [(i.a, s.more 0 (-1)), ((k : Int) + 1, s.more 0 (-1))]
  else if i.op = 11 then [(i.a, s)]
  else if i.op = 12 then [((k : Int) + 1, s.more 1 (-1))]
  else if i.op = 13 then [((k : Int) + 1, s.more (-1) 0)]
  else if i.op = 16 ∨ i.op = 17 ∨ i.op = 20 ∨ i.op = 22 then [((k : Int) + 1, s)]
  else if i.op = 19 then [(i.a, s.more 0 (-1)), ((k : Int) + 1, s.more 2 (-1))]
  else if i.op = 21 then handleZ cs k i s
  else []

/-- Which places are come to, and how. -/
inductive Reach (cs : List In) : Nat → Sq → Prop
  | start : Reach cs 0 ⟨0, 0, 1⟩
  | step {k : Nat} {s : Sq} {e : Int × Sq} : Reach cs k s → k < cs.length → needsZ cs (cs.getD k default) s = true → e ∈ exitsZ cs k (cs.getD k default) s → Reach cs e.1.toNat e.2

/-- Nothing is wrong with whatever is come to. -/
def GoodV (cs : List In) : Prop := ∀ k s, Reach cs k s → k < cs.length ∧ s.n ≤ 100 ∧ s.v ≤ 100 ∧ needsZ cs (cs.getD k default) s = true ∧ ∀ s', Reach cs k s' → s' = s

/-- A place that is come to is noted; nothing where something is wrong. -/
def comeZ (N : Nat) (T : List Sq) (w : List Nat) (e : Int × Sq) : Option (List Sq × List Nat) :=
  if e.1 < 0 ∨ (N : Int) ≤ e.1 ∨ e.2.n < 0 ∨ e.2.v < 0 ∨ 100 < e.2.n ∨ 100 < e.2.v then none
  else if tg T e.1.toNat = e.2 then some (T, w)
  else if (tg T e.1.toNat).p ≠ 0 then none
  else some (T.set e.1.toNat e.2, w ++ [e.1.toNat])

def comesZ (N : Nat) : List Sq → List Nat → List (Int × Sq) → Option (List Sq × List Nat)
  | T, w, [] => some (T, w)
  | T, w, e :: r => match comeZ N T w e with
    | none => none
    | some (T', w') => comesZ N T' w' r

/-- What a table of places may hold. -/
def SaneS (s : Sq) : Prop := (s.p = 0 ∧ s.n = 0 ∧ s.v = 0) ∨ (1 ≤ s.p ∧ s.p ≤ 3 ∧ 0 ≤ s.n ∧ s.n ≤ 100 ∧ 0 ≤ s.v ∧ s.v ≤ 100)

theorem sane_zero {s : Sq} (h : SaneS s) (h0 : s.p = 0) : s = ⟨0, 0, 0⟩ := by
  cases s with
  | mk n v p =>
    rcases h with ⟨a, b, c⟩ | hs
    · dsimp only at a b c
      rw [a, b, c]
    · dsimp only at h0 hs
      omega

/-- The table so far. -/
structure Tab (cs : List In) (T : List Sq) (w : List Nat) : Prop where
  len : T.length = cs.length
  rch : ∀ k, (tg T k).p ≠ 0 → Reach cs k (tg T k)
  sane : ∀ s ∈ T, SaneS s
  work : ∀ k ∈ w, k < cs.length ∧ (tg T k).p ≠ 0
  room : w.length + free T ≤ cs.length

def Grows (T T' : List Sq) : Prop := ∀ k, (tg T k).p ≠ 0 → tg T' k = tg T k

theorem Grows.refl (T : List Sq) : Grows T T := fun _ _ => rfl
theorem Grows.trans {T T' T'' : List Sq} (h : Grows T T') (h' : Grows T' T'') : Grows T T'' := fun k hk => by
  have e := h k hk
  rw [h' k (by rw [e]; exact hk), e]

theorem come_bad {cs : List In} {T : List Sq} {w : List Nat} {e : Int × Sq} (hT : Tab cs T w) (hr : Reach cs e.1.toNat e.2) (h0 : 0 ≤ e.1) (hn : 0 ≤ e.2.n) (hv : 0 ≤ e.2.v) (h : comeZ cs.length T w e = none) : ¬ GoodV cs := fun hg => by
  obtain ⟨g1, g2, g3, -, g5⟩ := hg _ _ hr
  unfold comeZ at h
  rw [if_neg (by omega)] at h
  by_cases h1 : tg T e.1.toNat = e.2
  · rw [if_pos h1] at h
    cases h
  · rw [if_neg h1] at h
    by_cases h2 : (tg T e.1.toNat).p ≠ 0
    · exact h1 (g5 _ (hT.rch _ h2))
    · rw [if_neg h2] at h
      cases h

/-- What a step of noting does. -/
structure Noted (cs : List In) (T : List Sq) (w : List Nat) (es : List (Int × Sq)) (T' : List Sq) (w' : List Nat) : Prop where
  tab : Tab cs T' w'
  grows : Grows T T'
  told : ∀ e ∈ es, tg T' e.1.toNat = e.2 ∧ 0 ≤ e.1 ∧ e.1.toNat < cs.length
  news : ∀ k, (tg T' k).p ≠ 0 → (tg T k).p ≠ 0 ∨ k ∈ w'
  olds : ∀ k ∈ w, k ∈ w'
  less : 2 * free T' + w'.length ≤ 2 * free T + w.length

theorem come_some {cs : List In} {T : List Sq} {w : List Nat} {e : Int × Sq} {T' : List Sq} {w' : List Nat} (hT : Tab cs T w) (hr : Reach cs e.1.toNat e.2) (hp : 1 ≤ e.2.p ∧ e.2.p ≤ 3) (h : comeZ cs.length T w e = some (T', w')) : Noted cs T w [e] T' w' := by
  unfold comeZ at h
  by_cases h0 : e.1 < 0 ∨ (cs.length : Int) ≤ e.1 ∨ e.2.n < 0 ∨ e.2.v < 0 ∨ 100 < e.2.n ∨ 100 < e.2.v
  · rw [if_pos h0] at h
    cases h
  rw [if_neg h0] at h
  by_cases h1 : tg T e.1.toNat = e.2
  · rw [if_pos h1] at h
    cases h
    exact ⟨hT, Grows.refl _, fun e' he' => by rw [List.mem_singleton] at he'; subst he'; exact ⟨h1, by omega, by omega⟩, fun k hk => Or.inl hk, fun k hk => hk, Nat.le_refl _⟩
  rw [if_neg h1] at h
  by_cases h2 : (tg T e.1.toNat).p ≠ 0
  · rw [if_pos h2] at h
    cases h
  rw [if_neg h2] at h
  cases h
  have h3 : (tg T e.1.toNat).p = 0 := Classical.byContradiction h2
  have hk : e.1.toNat < T.length := by rw [hT.len]; omega
  have hf := free_set T e.1.toNat hk h3 e.2 (by omega)
  have hts := tg_set hk e.2
  refine ⟨⟨by rw [List.length_set]; exact hT.len, fun k hk' => ?_, fun s hs => ?_, fun k hk' => ?_, ?_⟩, fun k hk' => ?_, fun e' he' => ?_, fun k hk' => ?_, fun k hk' => List.mem_append_left _ hk', ?_⟩
  · rw [hts] at hk' ⊢
    split
    · rename_i e1
      subst e1
      exact hr
    · rename_i e1
      rw [if_neg e1] at hk'
      exact hT.rch k hk'
  · rcases List.mem_or_eq_of_mem_set hs with h4 | rfl
    · exact hT.sane s h4
    · exact Or.inr ⟨by omega, by omega, by omega, by omega, by omega, by omega⟩
  · rw [List.mem_append, List.mem_singleton] at hk'
    rw [hts]
    rcases hk' with h4 | rfl
    · obtain ⟨h5, h6⟩ := hT.work k h4
      refine ⟨h5, ?_⟩
      split
      · omega
      · exact h6
    · rw [if_pos rfl]
      exact ⟨by omega, by omega⟩
  · have := hT.room
    rw [List.length_append, List.length_singleton]
    omega
  · rw [hts, if_neg (fun e1 => by subst e1; exact hk' h3)]
  · rw [List.mem_singleton] at he'
    subst he'
    rw [hts, if_pos rfl]
    exact ⟨rfl, by omega, by omega⟩
  · rw [hts] at hk'
    by_cases e1 : k = e.1.toNat
    · exact Or.inr (List.mem_append_right _ (List.mem_singleton.2 e1))
    · rw [if_neg e1] at hk'
      exact Or.inl hk'
  · rw [List.length_append, List.length_singleton]
    omega

theorem comes_some {cs : List In} : ∀ {es : List (Int × Sq)} {T : List Sq} {w : List Nat} {T' : List Sq} {w' : List Nat}, Tab cs T w → (∀ e ∈ es, Reach cs e.1.toNat e.2 ∧ 1 ≤ e.2.p ∧ e.2.p ≤ 3) → comesZ cs.length T w es = some (T', w') → Noted cs T w es T' w'
  | [], T, w, T', w', hT, _, h => by
    simp only [comesZ] at h
    cases h
    exact ⟨hT, Grows.refl _, fun e he => absurd he (by simp), fun k hk => Or.inl hk, fun k hk => hk, Nat.le_refl _⟩
  | e :: r, T, w, T', w', hT, he, h => by
    simp only [comesZ] at h
    cases hc : comeZ cs.length T w e with
    | none =>
      rw [hc] at h
      cases h
    | some x =>
      obtain ⟨T1, w1⟩ := x
      rw [hc] at h
      have h1 := come_some hT (he e (List.mem_cons_self ..)).1 (he e (List.mem_cons_self ..)).2 hc
      have h2 := comes_some h1.tab (fun e' he' => he e' (List.mem_cons_of_mem _ he')) h
      refine ⟨h2.tab, h1.grows.trans h2.grows, fun e' he' => ?_, fun k hk => ?_, fun k hk => h2.olds k (h1.olds k hk), Nat.le_trans h2.less h1.less⟩
      · rcases List.mem_cons.1 he' with rfl | h3
        · have h4 := h1.told e' (List.mem_singleton.2 rfl)
          have h5 := (he e' (List.mem_cons_self ..)).2
          refine ⟨?_, h4.2⟩
          rw [h2.grows _ (by rw [h4.1]; omega), h4.1]
        · exact h2.told e' h3
      · rcases h2.news k hk with h3 | h3
        · rcases h1.news k h3 with h4 | h4
          · exact Or.inl h4
          · exact Or.inr (h2.olds k h4)
        · exact Or.inr h3

theorem comes_bad {cs : List In} : ∀ {es : List (Int × Sq)} {T : List Sq} {w : List Nat}, Tab cs T w → (∀ e ∈ es, Reach cs e.1.toNat e.2 ∧ 1 ≤ e.2.p ∧ e.2.p ≤ 3 ∧ 0 ≤ e.1 ∧ 0 ≤ e.2.n ∧ 0 ≤ e.2.v) → comesZ cs.length T w es = none → ¬ GoodV cs
  | [], T, w, _, _, h => by
    simp only [comesZ] at h
    cases h
  | e :: r, T, w, hT, he, h => by
    simp only [comesZ] at h
    obtain ⟨h1, h2, h3, h4, h5, h6⟩ := he e (List.mem_cons_self ..)
    cases hc : comeZ cs.length T w e with
    | none => exact come_bad hT h1 h4 h5 h6 hc
    | some x =>
      obtain ⟨T1, w1⟩ := x
      rw [hc] at h
      exact comes_bad (come_some hT h1 ⟨h2, h3⟩ hc).tab (fun e' he' => he e' (List.mem_cons_of_mem _ he')) h

/-- A place that was gone through. -/
def Done (cs : List In) (T : List Sq) (k : Nat) : Prop := needsZ cs (cs.getD k default) (tg T k) = true ∧ ∀ e ∈ exitsZ cs k (cs.getD k default) (tg T k), tg T e.1.toNat = e.2 ∧ e.1.toNat < cs.length

/-- What an instruction's numbers are where they are places. -/
theorem ok_nums {i : In} (h : i.ok = true) (h1 : i.op ≠ 1) (h14 : i.op ≠ 14) (h2 : i.op ≠ 2) : 0 ≤ i.a ∧ i.a ≤ 65535 ∧ 0 ≤ i.b ∧ i.b ≤ 65535 ∧ 0 ≤ i.c ∧ i.c ≤ 65535 := by
  unfold In.ok insOkZ at h
  split at h
  · cases h
  · split at h
    · cases h
    · exact of_decide_eq_true h

theorem all_ok {cs : List In} (h : ∀ i ∈ cs, i.ok = true) {k : Nat} (hk : k < cs.length) : (cs.getD k default).ok = true := by
  rw [List.getD_eq_getElem?_getD, List.getElem?_eq_getElem hk]
  exact h _ (List.getElem_mem hk)

theorem clauses_mem {cs : List In} {a : Int} {i : In} (h : i ∈ clausesZ cs a) : i ∈ cs := List.mem_of_mem_drop (List.mem_of_mem_take h)

theorem table_parts {cs : List In} {a : Int} (h : tableZ cs a = true) : a < (cs.length : Int) ∧ (cs.getD a.toNat default).op = 24 ∧ (cs.getD a.toNat default).b ≤ 4 ∧ (cs.getD a.toNat default).b < (cs.length : Int) - a ∧ ∀ i ∈ clausesZ cs a, i.op = 25 := by
  unfold tableZ at h
  simp only [Bool.and_eq_true, decide_eq_true_eq, List.all_eq_true] at h
  exact ⟨h.1, h.2.1, h.2.2.1, h.2.2.2.1, h.2.2.2.2⟩

set_option maxHeartbeats 4000000 in
/-- What is come to from a place is told as it may be. -/
theorem exits_right {cs : List In} (hok : ∀ i ∈ cs, i.ok = true) {k : Nat} {s : Sq} (hk : k < cs.length) (hn0 : 0 ≤ s.n) (hv0 : 0 ≤ s.v) (hp : 1 ≤ s.p ∧ s.p ≤ 3) (hneed : needsZ cs (cs.getD k default) s = true) : ∀ e ∈ exitsZ cs k (cs.getD k default) s, 1 ≤ e.2.p ∧ e.2.p ≤ 3 ∧ 0 ≤ e.1 ∧ 0 ≤ e.2.n ∧ 0 ≤ e.2.v := by
  have hi := all_ok hok hk
  generalize hie : cs.getD k default = i at hi hneed
  intro e he
  unfold exitsZ at he
  unfold needsZ at hneed
  split at he
  · rw [List.mem_singleton] at he
    subst he
    simp only [Sq.more]
    omega
  rename_i n1
  have hnum : 0 ≤ i.a ∧ 0 ≤ i.c ∨ i.op = 14 := by
    by_cases h14 : i.op = 14
    · exact Or.inr h14
    · have := ok_nums hi (by omega) h14 (by omega)
      exact Or.inl ⟨by omega, by omega⟩
  split at he
  · rcases List.mem_cons.1 he with rfl | he
    · dsimp only; omega
    · rw [List.mem_singleton] at he
      subst he
      simp only [Sq.more]
      omega
  split at he
  · rcases List.mem_cons.1 he with rfl | he
    · dsimp only; omega
    · rw [List.mem_singleton] at he
      subst he
      simp only [Sq.more]
      omega
  split at he
  · rename_i hop
    rw [if_neg (by omega), if_pos hop] at hneed
    have := of_decide_eq_true hneed
    rw [List.mem_singleton] at he
    subst he
    simp only [Sq.more]
    omega
  rename_i n4
  split at he
  · rename_i hop
    rw [if_neg (by omega), if_neg n4, if_pos (by omega)] at hneed
    have := of_decide_eq_true hneed
    rcases List.mem_cons.1 he with rfl | he
    · simp only [Sq.more]; omega
    · rw [List.mem_singleton] at he
      subst he
      simp only [Sq.more]
      omega
  split at he
  · rw [List.mem_singleton] at he
    subst he
    dsimp only
    omega
  split at he
  · rename_i hop
    rw [if_neg (by omega), if_neg n4, if_pos (by omega)] at hneed
    have := of_decide_eq_true hneed
    rw [List.mem_singleton] at he
    subst he
    simp only [Sq.more]
    omega
  split at he
  · rename_i hop
    rw [if_neg (by omega), if_neg n4, if_neg (by omega), if_pos hop] at hneed
    have := of_decide_eq_true hneed
    rw [List.mem_singleton] at he
    subst he
    simp only [Sq.more]
    omega
  split at he
  · rw [List.mem_singleton] at he
    subst he
    dsimp only
    omega
  split at he
  · rename_i hop
    rw [if_neg (by omega), if_neg n4, if_pos (by omega)] at hneed
    have := of_decide_eq_true hneed
    rcases List.mem_cons.1 he with rfl | he
    · simp only [Sq.more]; omega
    · rw [List.mem_singleton] at he
      subst he
      simp only [Sq.more]
      omega
  split at he
  · rename_i hop
    rw [if_neg (by omega), if_neg n4, if_neg (by omega), if_neg (by omega), if_pos hop] at hneed
    obtain ⟨t1, t2, t3, t4, t5⟩ := table_parts hneed
    have h0 : i.a.toNat < cs.length := by omega
    have ht := ok_nums (all_ok hok h0) (by omega) (by omega) (by omega)
    unfold handleZ at he
    rw [List.mem_append, List.mem_cons, List.mem_map] at he
    rcases he with (rfl | ⟨c, hc, rfl⟩) | he
    · dsimp only; omega
    · have h25 := t5 c hc
      have hcn := ok_nums (hok c (clauses_mem hc)) (by omega) (by omega) (by omega)
      dsimp only
      omega
    · rcases List.mem_cons.1 he with rfl | he
      · dsimp only; omega
      · rw [List.mem_singleton] at he
        subst he
        simp only [Sq.more]
        omega
  · cases he

theorem reach_right {cs : List In} (hok : ∀ i ∈ cs, i.ok = true) {k : Nat} {s : Sq} (h : Reach cs k s) : 0 ≤ s.n ∧ 0 ≤ s.v ∧ 1 ≤ s.p ∧ s.p ≤ 3 := by
  induction h with
  | start => exact ⟨by decide, by decide, by decide, by decide⟩
  | step hr hk hneed he ih =>
    obtain ⟨h1, h2, h3, h4, h5⟩ := exits_right hok hk ih.1 ih.2.1 ih.2.2 hneed _ he
    exact ⟨h4, h5, h1, h2⟩

/-- Where all that was noted is gone through, it is all that is come to. -/
theorem all_done {cs : List In} (hok : ∀ i ∈ cs, i.ok = true) {T : List Sq} (h0 : 0 < cs.length) (h1 : tg T 0 = ⟨0, 0, 1⟩) (hd : ∀ k, (tg T k).p ≠ 0 → Done cs T k) : ∀ k s, Reach cs k s → tg T k = s ∧ k < cs.length := by
  intro k s h
  induction h with
  | start => exact ⟨h1, h0⟩
  | step hr hk hneed he ih =>
    have hp := reach_right hok hr
    have hd' := hd _ (by rw [ih.1]; omega)
    unfold Done at hd'
    rw [ih.1] at hd'
    exact hd'.2 _ he

theorem good_of_done {cs : List In} (hok : ∀ i ∈ cs, i.ok = true) {T : List Sq} {w : List Nat} (hT : Tab cs T w) (h0 : 0 < cs.length) (h1 : tg T 0 = ⟨0, 0, 1⟩) (hd : ∀ k, (tg T k).p ≠ 0 → Done cs T k) : GoodV cs := fun k s h => by
  obtain ⟨e, hk⟩ := all_done hok h0 h1 hd k s h
  have hp := reach_right hok h
  have hs : SaneS (tg T k) := hT.sane _ (by
    unfold tg
    rw [List.getD_eq_getElem?_getD, List.getElem?_eq_getElem (by rw [hT.len]; exact hk)]
    exact List.getElem_mem _)
  have hd' := hd k (by rw [e]; omega)
  unfold Done at hd'
  rw [e] at hd' hs
  refine ⟨hk, ?_, ?_, hd'.1, fun s' h' => ?_⟩
  · rcases hs with hs | hs <;> omega
  · rcases hs with hs | hs <;> omega
  · rw [← (all_done hok h0 h1 hd k s' h').1, e]

/-- Going on from place to place: what holds between two of them. -/
structure Going (cs : List In) (T : List Sq) (w : List Nat) : Prop where
  tab : Tab cs T w
  pos : 0 < cs.length
  one : tg T 0 = ⟨0, 0, 1⟩
  done : ∀ k, (tg T k).p ≠ 0 → k ∈ w ∨ Done cs T k

theorem Done.grows {cs : List In} (hok : ∀ i ∈ cs, i.ok = true) {T T' : List Sq} {w : List Nat} {k : Nat} (hT : Tab cs T w) (h : Done cs T k) (hk : (tg T k).p ≠ 0) (hg : Grows T T') : Done cs T' k := by
  have e := hg k hk
  have hr := hT.rch k hk
  have hp := reach_right hok hr
  have hl : k < cs.length := by
    apply Classical.byContradiction
    intro hc
    rw [tg_out (by rw [hT.len]; exact hc)] at hk
    exact hk rfl
  unfold Done at h ⊢
  rw [e]
  refine ⟨h.1, fun e' he' => ?_⟩
  obtain ⟨h1, h2⟩ := h.2 e' he'
  have hq := exits_right hok hl hp.1 hp.2.1 hp.2.2 h.1 e' he'
  exact ⟨by rw [hg _ (by rw [h1]; omega), h1], h2⟩

theorem tab_start {cs : List In} : Tab cs (List.replicate cs.length (⟨0, 0, 0⟩ : Sq)) [] := by
  have z : ∀ k, tg (List.replicate cs.length (⟨0, 0, 0⟩ : Sq)) k = ⟨0, 0, 0⟩ := fun k => by
    by_cases hk : k < cs.length
    · unfold tg
      rw [List.getD_eq_getElem?_getD, List.getElem?_replicate, if_pos hk]
      rfl
    · exact tg_out (by rw [List.length_replicate]; exact hk)
  refine ⟨List.length_replicate, fun k hk => absurd (by rw [z]) hk, fun s hs => ?_, fun k hk => absurd hk (by simp), ?_⟩
  · rw [List.eq_of_mem_replicate hs]
    exact Or.inl ⟨rfl, rfl, rfl⟩
  · have := free_le (List.replicate cs.length (⟨0, 0, 0⟩ : Sq))
    rw [List.length_replicate] at this
    simpa using this

theorem first_some {cs : List In} (h0 : 0 < cs.length) : comeZ cs.length (List.replicate cs.length (⟨0, 0, 0⟩ : Sq)) [] (0, ⟨0, 0, 1⟩) = some ((List.replicate cs.length (⟨0, 0, 0⟩ : Sq)).set 0 ⟨0, 0, 1⟩, [0]) := by
  have z : tg (List.replicate cs.length (⟨0, 0, 0⟩ : Sq)) 0 = ⟨0, 0, 0⟩ := by
    unfold tg
    rw [List.getD_eq_getElem?_getD, List.getElem?_replicate, if_pos h0]
    rfl
  unfold comeZ
  dsimp only
  rw [if_neg (by omega), show (0 : Int).toNat = 0 from rfl, z, if_neg (by decide), if_neg (by decide)]
  rfl

theorem going_start {cs : List In} (h0 : 0 < cs.length) : Going cs ((List.replicate cs.length (⟨0, 0, 0⟩ : Sq)).set 0 ⟨0, 0, 1⟩) [0] := by
  have h := come_some (e := (0, ⟨0, 0, 1⟩)) tab_start Reach.start ⟨by decide, by decide⟩ (first_some h0)
  refine ⟨h.tab, h0, (h.told _ (List.mem_singleton.2 rfl)).1, fun k hk => ?_⟩
  rcases h.news k hk with h1 | h1
  · refine absurd ?_ h1
    by_cases hk' : k < cs.length
    · unfold tg
      rw [List.getD_eq_getElem?_getD, List.getElem?_replicate, if_pos hk']
      rfl
    · rw [tg_out (by rw [List.length_replicate]; exact hk')]
  · exact Or.inl h1

/-- Code without instructions is not good. -/
theorem none_bad {cs : List In} (h : ¬ 0 < cs.length) : ¬ GoodV cs := fun hg => h (hg 0 _ Reach.start).1

/-- What a place may be that is waiting. -/
theorem going_at {cs : List In} (hok : ∀ i ∈ cs, i.ok = true) {T : List Sq} {w : List Nat} (h : Going cs T w) {k : Nat} (hk : k ∈ w) : k < cs.length ∧ Reach cs k (tg T k) ∧ 0 ≤ (tg T k).n ∧ (tg T k).n ≤ 100 ∧ 0 ≤ (tg T k).v ∧ (tg T k).v ≤ 100 ∧ 1 ≤ (tg T k).p ∧ (tg T k).p ≤ 3 := by
  obtain ⟨h1, h2⟩ := h.tab.work k hk
  have hr := h.tab.rch k h2
  have hp := reach_right hok hr
  have hs : SaneS (tg T k) := h.tab.sane _ (by
    unfold tg
    rw [List.getD_eq_getElem?_getD, List.getElem?_eq_getElem (by rw [h.tab.len]; exact h1)]
    exact List.getElem_mem _)
  rcases hs with hs | hs
  · omega
  · exact ⟨h1, hr, by omega, by omega, by omega, by omega, by omega, by omega⟩

/-- A place is gone through. w: what is left of the work without it. -/
theorem going_step {cs : List In} (hok : ∀ i ∈ cs, i.ok = true) {T : List Sq} {w0 w : List Nat} (h : Going cs T w0) {k : Nat} (hk : k ∈ w0) (hw : ∀ j ∈ w0, j = k ∨ j ∈ w) (hw' : ∀ j ∈ w, j ∈ w0) (hwl : w.length + 1 = w0.length) :
    (needsZ cs (cs.getD k default) (tg T k) = false → ¬ GoodV cs) ∧
    (needsZ cs (cs.getD k default) (tg T k) = true → comesZ cs.length T w (exitsZ cs k (cs.getD k default) (tg T k)) = none → ¬ GoodV cs) ∧
    (∀ T' w', needsZ cs (cs.getD k default) (tg T k) = true → comesZ cs.length T w (exitsZ cs k (cs.getD k default) (tg T k)) = some (T', w') → Going cs T' w' ∧ 2 * free T' + w'.length < 2 * free T + w0.length) := by
  obtain ⟨hkl, hr, a1, a2, a3, a4, a5, a6⟩ := going_at hok h hk
  have hT : Tab cs T w := ⟨h.tab.len, h.tab.rch, h.tab.sane, fun j hj => h.tab.work j (hw' j hj), by have := h.tab.room; omega⟩
  have hex := fun hneed => exits_right hok hkl a1 a3 ⟨a5, a6⟩ hneed
  refine ⟨fun hn hg => ?_, fun hn hc => ?_, fun T' w' hn hc => ?_⟩
  · have := (hg k _ hr).2.2.2.1
    rw [hn] at this
    cases this
  · exact comes_bad hT (fun e he => ⟨Reach.step hr hkl hn he, hex hn e he⟩) hc
  · have hN := comes_some hT (fun e he => ⟨Reach.step hr hkl hn he, (hex hn e he).1, (hex hn e he).2.1⟩) hc
    refine ⟨⟨hN.tab, h.pos, ?_, fun j hj => ?_⟩, by have := hN.less; omega⟩
    · rw [hN.grows 0 (by rw [h.one]; decide), h.one]
    · have hkp : (tg T k).p ≠ 0 := by omega
      rcases hN.news j hj with h1 | h1
      · rcases h.done j h1 with h2 | h2
        · rcases hw j h2 with rfl | h3
          · refine Or.inr ?_
            unfold Done
            rw [hN.grows j hkp]
            exact ⟨hn, fun e he => ⟨(hN.told e he).1, (hN.told e he).2.2⟩⟩
          · exact Or.inl (hN.olds j h3)
        · exact Or.inr (h2.grows hok h.tab h1 hN.grows)
      · exact Or.inl h1

/-- The table of good code, the same for everybody. -/
structure WholeV (cs : List In) (T : List Sq) : Prop where
  len : T.length = cs.length
  sane : ∀ s ∈ T, SaneS s
  good : GoodV cs
  rch : ∀ k s, s.p ≠ 0 → (tg T k = s ↔ Reach cs k s)

theorem going_end {cs : List In} (hok : ∀ i ∈ cs, i.ok = true) {T : List Sq} (h : Going cs T []) : WholeV cs T := by
  have hd : ∀ k, (tg T k).p ≠ 0 → Done cs T k := fun k hk => (h.done k hk).resolve_left (by simp)
  exact ⟨h.tab.len, h.tab.sane, good_of_done hok h.tab h.pos h.one hd, fun k s hs => ⟨fun e => by rw [← e]; exact h.tab.rch k (by rw [e]; exact hs), fun hr => (all_done hok h.pos h.one hd k s hr).1⟩⟩

theorem whole_one {cs : List In} {T T' : List Sq} (h : WholeV cs T) (h' : WholeV cs T') : T = T' := by
  have z : ∀ {T : List Sq}, WholeV cs T → ∀ k, (tg T k).p = 0 → tg T k = ⟨0, 0, 0⟩ := fun {T} hT k h => by
    by_cases hk : k < T.length
    · have hs : SaneS (tg T k) := hT.sane _ (by
        unfold tg
        rw [List.getD_eq_getElem?_getD, List.getElem?_eq_getElem hk]
        exact List.getElem_mem _)
      exact sane_zero hs h
    · exact tg_out hk
  have key : ∀ k, tg T k = tg T' k := fun k => by
    by_cases h1 : (tg T k).p = 0
    · by_cases h2 : (tg T' k).p = 0
      · rw [z h k h1, z h' k h2]
      · exact (h.rch k _ h2).2 ((h'.rch k _ h2).1 rfl)
    · exact ((h'.rch k _ h1).2 ((h.rch k _ h1).1 rfl)).symm
  apply List.ext_getElem (by rw [h.len, h'.len])
  intro k h1 h2
  have e := key k
  unfold tg at e
  rw [List.getD_eq_getElem?_getD, List.getD_eq_getElem?_getD, List.getElem?_eq_getElem h1, List.getElem?_eq_getElem h2] at e
  exact e

open Classical in
/-- Valid code; and its table. -/
noncomputable def validZ (cs : List In) : Bool := codeOkZ cs && decide (GoodV cs)

open Classical in
theorem valid_bad {cs : List In} (h : codeOkZ cs = false ∨ ¬ GoodV cs) : validZ cs = false := by
  unfold validZ
  rcases h with h | h
  · rw [h]
    rfl
  · rw [decide_eq_false h, Bool.and_false]

open Classical in
theorem valid_good {cs : List In} (h : codeOkZ cs = true) (h' : GoodV cs) : validZ cs = true := by
  unfold validZ
  rw [h, decide_eq_true h']
  rfl
end Go.Proofs.YtfmkgppkgmjpfaaGreatDoor

/- Codes that communicate with nobody beside them: laws for frames that are no early ones. -/
namespace Go.Proofs.YtfmkgppkgmjpfaaGreatDoor
open Go.RowKit Go.Conc

/-- A code runs so in every frame that is no early one. -/
def wpN (P : Program) (c : Code) (Q : Exit → Act → World → Prop) (a : Act) (w : World) : Prop :=
  ∀ (b : Frame), b.kind ≠ .early → ∀ (k : List Item) (cs : List Frame), ∃ e a' w', Q e a' w' ∧ Arrives P (lone (b.at a (.code c :: k)) cs w) b k cs e a' w'

/-- The same of what is left of a region. -/
def InR (P : Program) (ops : Array Oper) (l : List Nat) (Q : Exit → Act → World → Prop) (a : Act) (w : World) : Prop :=
  ∀ (b : Frame), b.kind ≠ .early → ∀ (k : List Item) (cs : List Frame), ∃ e a' w', Q e a' w' ∧ Arrives P (lone (b.at a (.inRegion ops l :: k)) cs w) b k cs e a' w'

section
variable {P : Program} {Q : Exit → Act → World → Prop} {a : Act} {w : World}

theorem wpN_of {c : Code} (h : c.wp P Q a w) : wpN P c Q a w := fun b _ => h b

theorem wpN_seq {x y : Code} (h : wpN P x (Exit.then (wpN P y Q) Q) a w) : wpN P (.seq x y) Q a w := fun b hb k cs => by
  obtain ⟨e, a1, w1, hq, ha⟩ := h b hb (.code y :: k) cs
  cases e with
  | normal =>
    obtain ⟨e2, a2, w2, hq2, ha2⟩ := hq b hb k cs
    exact ⟨e2, a2, w2, hq2, .of_steps (.head step_seq ha) ha2⟩
  | _ => exact ⟨_, a1, w1, hq, .of_steps (.one step_seq) (.pass (x := .code y) rfl (fun _ _ => .inl (by simp)) ha)⟩

theorem wpN_seq_wp {x y : Code} (h : x.wp P (Exit.then (wpN P y Q) Q) a w) : wpN P (.seq x y) Q a w := wpN_seq (wpN_of h)

theorem wpN_cond {c : Operand} {x y : Code} {t : Bool} (hc : a.eval c = .bool t) (h : wpN P (if t then x else y) Q a w) : wpN P (.cond c x y) Q a w := fun b hb k cs => by
  obtain ⟨e, a', w', q, r⟩ := h b hb k cs
  exact ⟨e, a', w', q, .of_steps (.one (step_cond hc)) r⟩

theorem wpN_block {id : Nat} {c : Code} (h : wpN P c (Exit.inBlock id Q) a w) : wpN P (.block id c) Q a w := fun b hb k cs => by
  obtain ⟨e, a1, w1, hq, ha⟩ := h b hb (.inBlock id :: k) cs
  cases e with
  | normal => exact ⟨.normal, a1, w1, hq, .head step_block (Steps.trans ha (.one step_inBlock))⟩
  | exit id' =>
    by_cases hid : id' = id
    · simp only [Exit.inBlock, hid, if_true] at hq
      exact ⟨.normal, a1, w1, hq, .head step_block (ha k (by simp [exitTo, hid]))⟩
    · simp only [Exit.inBlock, hid, if_false] at hq
      refine ⟨.exit id', a1, w1, hq, fun k' hk => .head step_block (ha k' ?_)⟩
      have hne : (id == id') = false := by simp; exact fun h => hid h.symm
      simp [exitTo, hne, hk]
  | goto l => exact ⟨_, a1, w1, hq, fun k' hk => .head step_block (ha k' (by simp [gotoIn, hk]))⟩
  | ret => exact ⟨_, a1, w1, hq, .of_steps (.one step_block) ha⟩
  | panic ch => exact ⟨_, a1, w1, hq, .of_steps (.one step_block) ha⟩
  | outgrown => exact ⟨_, a1, w1, hq, .of_steps (b := b) (k := k) (cs := cs) (e := .outgrown) (.one step_block) ha⟩

/-- A loop; n: so many rounds at most are to come. -/
theorem wpN_loop {c : Code} (I : Nat → Act → World → Prop) (n : Nat) (h0 : I n a w)
    (round : ∀ n a w, I n a w → wpN P c (Exit.then (fun a' w' => ∃ m, m < n ∧ I m a' w') Q) a w) : wpN P (.loop c) Q a w := fun b hb k cs => by
  have key : ∀ n a w, I n a w → ∃ e a' w', Q e a' w' ∧ Arrives P (lone (b.at a (.code c :: .inLoop c :: k)) cs w) b k cs e a' w' := by
    intro n
    induction n using Nat.strongRecOn with
    | _ n ih =>
      intro a w hI
      obtain ⟨e, a1, w1, hq, ha⟩ := round n a w hI b hb (.inLoop c :: k) cs
      cases e with
      | normal =>
        obtain ⟨m, hm, hI1⟩ := hq
        obtain ⟨e2, a2, w2, hq2, ha2⟩ := ih m hm a1 w1 hI1
        exact ⟨e2, a2, w2, hq2, .of_steps (Steps.trans ha (.one step_inLoop)) ha2⟩
      | _ => exact ⟨_, a1, w1, hq, .pass (x := .inLoop c) rfl (fun _ _ => .inl (by simp)) ha⟩
  obtain ⟨e, a', w', hq, ha⟩ := key n a w h0
  exact ⟨e, a', w', hq, .of_steps (.one step_loop) ha⟩

theorem calls_of_wpN {f : FuncId} {fn : Func} {c : Code} {args : Array Value} {R : Ending → World → Prop} (hf : P.funcs[f]? = some fn) (hc : fn.body = some c)
    (h : wpN P c (bodyPost P fn R) { tmps := args ++ Array.replicate (fn.ntmps - args.size) undef, defers := [] } w) : Calls P f args w R := fun cs => by
  have he : Frame.enter P f args .normal = ({ (default : Frame) with fn := f, kind := .normal }).at { tmps := args ++ Array.replicate (fn.ntmps - args.size) undef, defers := [] } [.code c] := by
    simp [Frame.enter, Frame.at, hf, hc]
  obtain ⟨e, a', w', hq, ha⟩ := h { (default : Frame) with fn := f, kind := .normal } (by simp) [] cs
  rw [← he] at ha
  cases e with
  | normal =>
    obtain ⟨hd, v, hr, hR⟩ := hq
    exact ⟨.returned v, w', _, hR, Steps.trans ha (.one step_end), rfl, rfl, hd, rfl, fn, hf, hr⟩
  | ret =>
    obtain ⟨hd, v, hr, hR⟩ := hq
    obtain ⟨todo, hs⟩ := ha
    exact ⟨.returned v, w', _, hR, hs, rfl, rfl, hd, rfl, fn, hf, hr⟩
  | panic chain =>
    obtain ⟨hd, hR⟩ := hq
    obtain ⟨todo, hs⟩ := ha
    exact ⟨.panicked chain, w', _, hR, hs, rfl, rfl, hd, fn, hf⟩
  | exit id => exact hq.elim
  | goto l => exact hq.elim
  | outgrown => exact ⟨.outgrown, w', { (default : Frame) with fn := f, kind := .normal }, hq, ha.resolve_left (by simp), rfl, trivial⟩

theorem inR_of {ops : Array Oper} {l : List Nat} (h : wpOps P ops Q l a w) : InR P ops l Q a w := fun b _ k cs => wp_ops l a w h b k cs

theorem wpN_region {id : Nat} {ops : Array Oper} (h : InR P ops (List.range ops.size) Q a w) : wpN P (.region id ops false) Q a w := fun b hb k cs => by
  obtain ⟨e, a', w', q, r⟩ := h b hb k cs
  exact ⟨e, a', w', q, .of_steps (.one step_region) r⟩

theorem wpN_region_draw {id : Nat} {ops : Array Oper} (h : ∀ t, InR P ops (Region.schedule (P.follows .mixedOrders) ops t) Q a w.drew) : wpN P (.region id ops true) Q a w := fun b hb k cs => by
  obtain ⟨e, a', w', q, r⟩ := h (w.tape w.drawn (.order b.fn id)) b hb k cs
  exact ⟨e, a', w', q, .of_steps (.one step_region_draw) r⟩

/-- What of a region is left, in whatever order. -/
def AnyN (P : Program) (ops : Array Oper) (Q : Exit → Act → World → Prop) (fuel : Nat) (listed : Array Bool) (a : Act) (w : World) : Prop :=
  ∀ t, InR P ops (Region.linearise.go .any ops fuel t listed []) Q a w

theorem wpN_region_any {id : Nat} {ops : Array Oper} (hm : P.follows .mixedOrders = true) (h : AnyN P ops Q ops.size (Array.replicate ops.size false) a w.drew) : wpN P (.region id ops true) Q a w :=
  wpN_region_draw fun t => by
    simp only [Region.schedule, hm, Bool.true_or, if_true]
    exact h t

/-- One of what is ready is next. -/
theorem anyN_next {ops : Array Oper} {fuel : Nat} {listed : Array Bool} {rs : List Nat} (hr : Region.ready .any ops listed = rs) (hne : rs ≠ [])
    (h : ∀ i ∈ rs, ∀ t, InR P ops (i :: Region.linearise.go .any ops fuel t (listed.setIfInBounds i true) []) Q a w) : AnyN P ops Q (fuel + 1) listed a w := fun t => by
  simp only [Region.linearise.go]
  change InR P ops (match (Region.ready .any ops listed)[t % (Region.ready .any ops listed).length]? with
      | some i => Region.linearise.go .any ops fuel (t / (Region.ready .any ops listed).length) (listed.setIfInBounds i true) [i]
      | none => [].reverse) Q a w
  rw [hr]
  cases hi : rs[t % rs.length]? with
  | none =>
    have hlt : t % rs.length < rs.length := Nat.mod_lt _ (List.length_pos_iff.2 hne)
    rw [List.getElem?_eq_none_iff] at hi
    omega
  | some i =>
    dsimp only
    rw [linearise_go_acc, List.reverse_singleton, List.singleton_append]
    exact h i (List.mem_of_getElem? hi) _

theorem anyN_end {ops : Array Oper} {fuel : Nat} {listed : Array Bool} (hr : Region.ready .any ops listed = []) (h : Q .normal a w) : AnyN P ops Q fuel listed a w := fun t => by
  have e : Region.linearise.go .any ops fuel t listed [] = [] := by
    cases fuel with
    | zero => simp [Region.linearise.go]
    | succ n =>
      simp only [Region.linearise.go]
      change (match (Region.ready .any ops listed)[t % (Region.ready .any ops listed).length]? with
        | some i => Region.linearise.go .any ops n (t / (Region.ready .any ops listed).length) (listed.setIfInBounds i true) [i]
        | none => [].reverse) = []
      rw [hr]
      rfl
  rw [e]
  exact inR_of (by simpa [wpOps] using h)

/-- An operation that yields a value. -/
theorem inR_value {ops : Array Oper} {i : Nat} {rest : List Nat} {o : Oper} {v : Value} {w' : World} (ho : ops[i]? = some o) (hw : Region.wanted o (yielded ops a.tmps) = true) (hr : (execOp a.eval o).run P w = .ok (.value v) w')
    (h : InR P ops rest Q (a.put o.dst v) w') : InR P ops (i :: rest) Q a w := fun b hb k cs => by
  obtain ⟨e, a', w2, q, r⟩ := h b hb k cs
  refine ⟨e, a', w2, q, .of_steps (.one ?_) r⟩
  have hd : (ops[i]?).bind (·.dst) = o.dst := by rw [ho]; rfl
  rw [← hd, ← Frame.finish_at]
  refine step_lone_go ?_
  rw [stepG_op ho hw]
  simp [stepG.apply, hr]

/-- A send into a buffer with room. -/
theorem inR_send {ops : Array Oper} {i : Nat} {rest : List Nat} {o : Oper} {c cap s r : Nat} {buf : Array Value} {v z : Value} {tm : Bool} {w' : World} (ho : ops[i]? = some o) (hw : Region.wanted o (yielded ops a.tmps) = true) (hr : (execOp a.eval o).run P w = .ok (.comm #[scase c v z] true .send) w')
    (hc : w'.heap[c]? = some (.chan cap buf false s r tm)) (hroom : buf.size < cap) (h : InR P ops rest Q (a.put o.dst undef) (w'.setChan c cap (buf.push v) false (s + 1) r tm)) : InR P ops (i :: rest) Q a w := fun b hb k cs => by
  obtain ⟨e, a', w2, q, ar⟩ := h b hb k cs
  refine ⟨e, a', w2, q, .of_steps (.one ?_) ar⟩
  have hd : (ops[i]?).bind (·.dst) = o.dst := by rw [ho]; rfl
  have hs := step_lone_send_room (stepG_comm (k := k) (cs := cs) (rest := rest) ho hw hb hr) hc hroom
  rw [Frame.finish_at, hd] at hs
  exact hs

/-- A receive from a buffer that holds something. -/
theorem inR_recv {ops : Array Oper} {i : Nat} {rest : List Nat} {o : Oper} {c cap s r : Nat} {buf : Array Value} {z : Value} {tm closed : Bool} {w' : World} (ho : ops[i]? = some o) (hw : Region.wanted o (yielded ops a.tmps) = true) (hr : (execOp a.eval o).run P w = .ok (.comm #[rcase c z] true (.recv true)) w')
    (hc : w'.heap[c]? = some (.chan cap buf closed s r tm)) (hsome : 0 < buf.size) (h : InR P ops rest Q (a.put o.dst (.tuple #[buf.getD 0 undef, .bool true])) (w'.setChan c cap (buf.extract 1 buf.size) closed s (r + 1) tm)) : InR P ops (i :: rest) Q a w := fun b hb k cs => by
  obtain ⟨e, a', w2, q, ar⟩ := h b hb k cs
  refine ⟨e, a', w2, q, .of_steps (.one ?_) ar⟩
  have hd : (ops[i]?).bind (·.dst) = o.dst := by rw [ho]; rfl
  have hs := step_lone_recv_buf true (stepG_comm (k := k) (cs := cs) (rest := rest) ho hw hb hr) hc hsome
  rw [Frame.finish_at, hd] at hs
  exact hs

/-- A receive from a closed channel whose buffer is empty. -/
theorem inR_shut {ops : Array Oper} {i : Nat} {rest : List Nat} {o : Oper} {c cap s r : Nat} {z : Value} {tm : Bool} {w' : World} (ho : ops[i]? = some o) (hw : Region.wanted o (yielded ops a.tmps) = true) (hr : (execOp a.eval o).run P w = .ok (.comm #[rcase c z] true (.recv true)) w')
    (hc : w'.heap[c]? = some (.chan cap #[] true s r tm)) (h : InR P ops rest Q (a.put o.dst (.tuple #[z, .bool false])) w') : InR P ops (i :: rest) Q a w := fun b hb k cs => by
  obtain ⟨e, a', w2, q, ar⟩ := h b hb k cs
  refine ⟨e, a', w2, q, .of_steps (.one ?_) ar⟩
  have hd : (ops[i]?).bind (·.dst) = o.dst := by rw [ho]; rfl
  have hs := step_lone_recv_shut true (stepG_comm (k := k) (cs := cs) (rest := rest) ho hw hb hr) hc
  rw [Frame.finish_at, hd] at hs
  exact hs
end
end Go.Proofs.YtfmkgppkgmjpfaaGreatDoor

/- What the program's check of code keeps in memory. -/
namespace Go.Proofs.YtfmkgppkgmjpfaaGreatDoor
open Go.RowKit Go.Conc

def spc (s : Sq) : Nat → Value
  | 0 => .int .i64 s.n
  | 1 => .int .i64 s.v
  | _ => .int .i64 s.p

def spF (T : List Sq) (i : Nat) : Value := spc (tg T (i / 3)) (i % 3)

def wkA (wk : List Nat) : Array Value := (wk.map (fun (k : Nat) => Value.int .i64 (k : Int))).toArray

theorem tgF_mem {T : List Sq} {k : Nat} (hk : k < T.length) : tg T k ∈ T := by
  unfold tg
  rw [List.getD_eq_getElem?_getD, List.getElem?_eq_getElem hk]
  exact List.getElem_mem _

/-- The follower, as it lies; d: how much is owed beside what waits. -/
structure Fl (W0 : World) (Fb : Nat) (vc : Value) (gs ch N : Nat) (T : List Sq) (wk : List Nat) (d : Int) (closed : Bool) (W : World) : Prop where
  blk : W.heap[Fb]? = some (.cells #[vc, .slice (some ⟨gs, 0, none⟩) N N, .chan (some ch), .int .i64 (d + wk.length)] 64)
  row : W.rowIs gs 43 (3 * N) (spF T)
  chb : ∃ s r, W.heap[ch]? = some (.chan N (wkA wk) closed s r false)
  lo : W0.heap.size ≤ Fb ∧ W0.heap.size ≤ gs ∧ W0.heap.size ≤ ch
  bel : Below W0.heap.size W0 W
  len : T.length = N
  nl : N ≤ 1500
  sane : ∀ s ∈ T, SaneS s
  room : wk.length + free T ≤ N
  dl : 0 ≤ d ∧ d ≤ 1

/-- What the follower's functions leave as it was. -/
structure Fz (W W' : World) : Prop where
  size : W.heap.size ≤ W'.heap.size
  block : ∀ (q : Nat) (c : Array Value) (t : TypeId), W.heap[q]? = some (Obj.cells c t) → t ≠ 43 → t ≠ 64 → W'.heap[q]? = W.heap[q]?

theorem Fz.of_below {W W' : World} (h : Below W.heap.size W W') : Fz W W' := ⟨h.size, fun q _ _ hq _ _ => h.block q (heap_lt hq)⟩
theorem Fz.refl (W : World) : Fz W W := Fz.of_below (Below.refl _ _)
theorem Fz.trans {W W' W'' : World} (h : Fz W W') (h' : Fz W' W'') : Fz W W'' :=
  ⟨Nat.le_trans h.size h'.size, fun q c t hq h1 h2 => by
    have e := h.block q c t hq h1 h2
    exact (h'.block q c t (e.trans hq) h1 h2).trans e⟩

theorem fz_set {W : World} {b i : Nat} {c0 : Array Value} {t0 : TypeId} {v : Value} (hb : W.heap[b]? = some (.cells c0 t0)) (ht : t0 = 43 ∨ t0 = 64) : Fz W (W.setCell ⟨b, i, none⟩ v) :=
  ⟨by simp [World.setCell], fun q c t hq h1 h2 => Below.heap_setCell W ⟨b, i, none⟩ _ q (fun e => by
    have e' : q = b := e
    subst e'
    rw [hb] at hq
    cases hq
    rcases ht with ht | ht
    · exact h1 ht
    · exact h2 ht)⟩

theorem setChan_same (W : World) (c cap : Nat) (buf : Array Value) (cl : Bool) (s r : Nat) (tm : Bool) {q : Nat} (hq : q ≠ c) : (W.setChan c cap buf cl s r tm).heap[q]? = W.heap[q]? := by
  simp only [World.setChan]
  rw [Array.getElem?_setIfInBounds_ne (Ne.symm hq)]

theorem fz_chan {W : World} {ch : Nat} {o : Obj} (hc : W.heap[ch]? = some o) (hn : ∀ c t, o ≠ .cells c t) (cap : Nat) (buf : Array Value) (cl : Bool) (s r : Nat) (tm : Bool) : Fz W (W.setChan ch cap buf cl s r tm) :=
  ⟨by rw [size_setChan]; exact Nat.le_refl _, fun q c t hq _ _ => setChan_same W ch cap buf cl s r tm (fun e => by subst e; rw [hc] at hq; cases hq; exact hn _ _ rfl)⟩

theorem Fl.below {W0 : World} {Fb : Nat} {vc : Value} {gs ch N : Nat} {T : List Sq} {wk : List Nat} {d : Int} {closed : Bool} {W W' : World} (h : Fl W0 Fb vc gs ch N T wk d closed W) (hb : Below W.heap.size W W') : Fl W0 Fb vc gs ch N T wk d closed W' := by
  obtain ⟨s, r, hc⟩ := h.chb
  exact ⟨(hb.block _ (heap_lt h.blk)).trans h.blk, h.row.of_block (hb.block _ h.row.lt), ⟨s, r, (hb.block _ (heap_lt hc)).trans hc⟩, h.lo, h.bel.trans (hb.mono h.bel.size), h.len, h.nl, h.sane, h.room, h.dl⟩

theorem Fl.ne {W0 : World} {Fb : Nat} {vc : Value} {gs ch N : Nat} {T : List Sq} {wk : List Nat} {d : Int} {closed : Bool} {W : World} (h : Fl W0 Fb vc gs ch N T wk d closed W) : Fb ≠ gs ∧ Fb ≠ ch ∧ gs ≠ ch := by
  obtain ⟨s, r, hc⟩ := h.chb
  obtain ⟨c, hb, -⟩ := h.row
  refine ⟨fun e => ?_, fun e => ?_, fun e => ?_⟩
  · subst e
    rw [h.blk] at hb
    cases hb
  · subst e
    rw [h.blk] at hc
    cases hc
  · subst e
    rw [hb] at hc
    cases hc

theorem Fl.cells {W0 : World} {Fb : Nat} {vc : Value} {gs ch N : Nat} {T : List Sq} {wk : List Nat} {d : Int} {closed : Bool} {W : World} (h : Fl W0 Fb vc gs ch N T wk d closed W) {k : Nat} (hk : k < N) :
    W.cell? ⟨gs, k * 3, none⟩ = some (.int .i64 (tg T k).n) ∧ W.cell? ⟨gs, k * 3 + 1, none⟩ = some (.int .i64 (tg T k).v) ∧ W.cell? ⟨gs, k * 3 + 2, none⟩ = some (.int .i64 (tg T k).p) ∧ W.frozen? ⟨gs, k * 3, none⟩ = false ∧ W.frozen? ⟨gs, k * 3 + 1, none⟩ = false ∧ W.frozen? ⟨gs, k * 3 + 2, none⟩ = false := by
  refine ⟨?_, ?_, ?_, h.row.frozen _, h.row.frozen _, h.row.frozen _⟩
  · rw [h.row.cell (show k * 3 < 3 * N by omega)]
    show some (spc (tg T (k * 3 / 3)) (k * 3 % 3)) = _
    rw [show k * 3 / 3 = k by omega, show k * 3 % 3 = 0 by omega]
    rfl
  · rw [h.row.cell (show k * 3 + 1 < 3 * N by omega)]
    show some (spc (tg T ((k * 3 + 1) / 3)) ((k * 3 + 1) % 3)) = _
    rw [show (k * 3 + 1) / 3 = k by omega, show (k * 3 + 1) % 3 = 1 by omega]
    rfl
  · rw [h.row.cell (show k * 3 + 2 < 3 * N by omega)]
    show some (spc (tg T ((k * 3 + 2) / 3)) ((k * 3 + 2) % 3)) = _
    rw [show (k * 3 + 2) / 3 = k by omega, show (k * 3 + 2) % 3 = 2 by omega]
    rfl

/-- A spot is written. -/
def spot3 (W : World) (gs k : Nat) (s : Sq) : World := ((W.setCell ⟨gs, k * 3, none⟩ (.int .i64 s.n)).setCell ⟨gs, k * 3 + 1, none⟩ (.int .i64 s.v)).setCell ⟨gs, k * 3 + 2, none⟩ (.int .i64 s.p)

set_option maxHeartbeats 2000000 in
/-- A place is noted, owed and sent. -/
theorem Fl.push {W0 : World} {Fb : Nat} {vc : Value} {gs ch N : Nat} {T : List Sq} {wk : List Nat} {d : Int} {W : World} (h : Fl W0 Fb vc gs ch N T wk d false W) {k : Nat} (hk : k < N) (h0 : (tg T k).p = 0) {s : Sq} (hs : SaneS s) (hp : s.p ≠ 0) {s0 r0 : Nat} (hc : W.heap[ch]? = some (.chan N (wkA wk) false s0 r0 false)) :
    Fl W0 Fb vc gs ch N (T.set k s) (wk ++ [k]) d false ((((spot3 W gs k s).setCell ⟨Fb, 3, none⟩ (.int .i64 (d + wk.length + 1))).drew).setChan ch N ((wkA wk).push (.int .i64 (k : Int))) false (s0 + 1) r0 false) ∧ Fz W ((((spot3 W gs k s).setCell ⟨Fb, 3, none⟩ (.int .i64 (d + wk.length + 1))).drew).setChan ch N ((wkA wk).push (.int .i64 (k : Int))) false (s0 + 1) r0 false) := by
  have hf := free_set T k (by rw [h.len]; exact hk) h0 s hp
  have hr := h.room
  obtain ⟨n1, n2, n3⟩ := h.ne
  obtain ⟨l1, l2, l3⟩ := h.lo
  obtain ⟨cg, hcg, -⟩ := id h.row
  have hg1 : ∀ q, q ≠ gs → (spot3 W gs k s).heap[q]? = W.heap[q]? := fun q hq => by
    unfold spot3
    rw [Below.heap_setCell _ ⟨gs, k * 3 + 2, none⟩ _ q hq, Below.heap_setCell _ ⟨gs, k * 3 + 1, none⟩ _ q hq, Below.heap_setCell _ ⟨gs, k * 3, none⟩ _ q hq]
  have hg2 : ∀ q, q ≠ gs → q ≠ Fb → q ≠ ch → ((((spot3 W gs k s).setCell ⟨Fb, 3, none⟩ (.int .i64 (d + wk.length + 1))).drew).setChan ch N ((wkA wk).push (.int .i64 (k : Int))) false (s0 + 1) r0 false).heap[q]? = W.heap[q]? := fun q q1 q2 q3 => by
    rw [setChan_same _ _ _ _ _ _ _ _ q3]
    show ((spot3 W gs k s).setCell ⟨Fb, 3, none⟩ (.int .i64 (d + wk.length + 1))).heap[q]? = _
    rw [Below.heap_setCell _ ⟨Fb, 3, none⟩ _ q q2, hg1 q q1]
  have hsz : ((((spot3 W gs k s).setCell ⟨Fb, 3, none⟩ (.int .i64 (d + wk.length + 1))).drew).setChan ch N ((wkA wk).push (.int .i64 (k : Int))) false (s0 + 1) r0 false).heap.size = W.heap.size := by
    rw [size_setChan]
    show ((spot3 W gs k s).setCell ⟨Fb, 3, none⟩ (.int .i64 (d + wk.length + 1))).heap.size = _
    simp [spot3, World.setCell]
  have hbF : (spot3 W gs k s).heap[Fb]? = _ := (hg1 Fb n1).trans h.blk
  refine ⟨⟨?_, ?_, ⟨s0 + 1, r0, ?_⟩, h.lo, ?_, by rw [List.length_set]; exact h.len, h.nl, fun s' hs' => ?_, by rw [List.length_append, List.length_singleton]; omega, h.dl⟩, ⟨by rw [hsz]; exact Nat.le_refl _, fun q c t hq t1 t2 => hg2 q (fun e => ?_) (fun e => ?_) (fun e => ?_)⟩⟩
  · rw [setChan_same _ _ _ _ _ _ _ _ n2]
    show ((spot3 W gs k s).setCell ⟨Fb, 3, none⟩ (.int .i64 (d + wk.length + 1))).heap[Fb]? = _
    have e : (d + ((wk ++ [k]).length : Int)) = d + wk.length + 1 := by rw [List.length_append, List.length_singleton]; omega
    rw [e]
    simp [World.setCell, Array.getElem?_modify, hbF]
  · have r3 := ((h.row.set (k * 3) (.int .i64 s.n)).set (k * 3 + 1) (.int .i64 s.v)).set (k * 3 + 2) (.int .i64 s.p)
    have r4 : (spot3 W gs k s).rowIs gs 43 (3 * N) (spF (T.set k s)) := r3.congr (fun i hi => by
      have hts := tg_set (T := T) (show k < T.length by rw [h.len]; exact hk) s
      show _ = spc (tg (T.set k s) (i / 3)) (i % 3)
      rw [hts]
      by_cases e : i / 3 = k
      · rw [if_pos e]
        have h3 : i = k * 3 ∨ i = k * 3 + 1 ∨ i = k * 3 + 2 := by omega
        rcases h3 with rfl | rfl | rfl
        · rw [if_neg (by omega), if_neg (by omega), if_pos rfl, show k * 3 % 3 = 0 by omega]
          rfl
        · rw [if_neg (by omega), if_pos rfl, show (k * 3 + 1) % 3 = 1 by omega]
          rfl
        · rw [if_pos rfl, show (k * 3 + 2) % 3 = 2 by omega]
          rfl
      · rw [if_neg e, if_neg (by omega), if_neg (by omega), if_neg (by omega)]
        rfl)
    have e5 : ((((spot3 W gs k s).setCell ⟨Fb, 3, none⟩ (.int .i64 (d + wk.length + 1))).drew).setChan ch N ((wkA wk).push (.int .i64 (k : Int))) false (s0 + 1) r0 false).heap[gs]? = (spot3 W gs k s).heap[gs]? := by
      rw [setChan_same _ _ _ _ _ _ _ _ n3]
      show ((spot3 W gs k s).setCell ⟨Fb, 3, none⟩ (.int .i64 (d + wk.length + 1))).heap[gs]? = _
      exact Below.heap_setCell (spot3 W gs k s) ⟨Fb, 3, none⟩ _ gs (Ne.symm n1)
    exact r4.of_block e5
  · have e : wkA (wk ++ [k]) = (wkA wk).push (.int .i64 (k : Int)) := by simp [wkA]
    rw [e]
    refine heap_setChan _ _ _ _ _ _ _ _ ?_
    show ch < ((spot3 W gs k s).setCell ⟨Fb, 3, none⟩ (.int .i64 (d + wk.length + 1))).heap.size
    have := heap_lt hc
    simpa [spot3, World.setCell] using this
  · refine ⟨h.bel.os, h.bel.tape, h.bel.output, by rw [hsz]; exact h.bel.size, fun q hq => (hg2 q (by omega) (by omega) (by omega)).trans (h.bel.block q hq)⟩
  · rcases List.mem_or_eq_of_mem_set hs' with h1 | rfl
    · exact h.sane s' h1
    · exact hs
  · subst e
    rw [hcg] at hq
    cases hq
    exact t1 rfl
  · subst e
    rw [h.blk] at hq
    cases hq
    exact t2 rfl
  · subst e
    rw [hc] at hq
    cases hq

/-- An error of ours. -/
def IsBad (e : Ending) : Prop := ∃ pb, e = .returned (.iface 58 (.pointer (some ⟨pb, 0, none⟩)))

/-- What comes of coming to places. -/
def ComeI (W0 : World) (Fb : Nat) (vc : Value) (gs ch N : Nat) (d : Int) (W : World) (r : Option (List Sq × List Nat)) (e : Ending) (W' : World) : Prop :=
  Below W0.heap.size W0 W' ∧ Fz W W' ∧ (r = none → IsBad e) ∧ ∀ x, r = some x → e = .returned .nilIface ∧ Fl W0 Fb vc gs ch N x.1 x.2 d false W'
end Go.Proofs.YtfmkgppkgmjpfaaGreatDoor
