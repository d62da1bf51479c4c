/- The drawer keeps its contract. -/
import Derived.Test.YtnbmhopoiijhoaaGrpMC3
import Derived.Test.YtnbmhopoiijhoaaGrpMC1
import Derived.Test.YtnbmhopoiijhoaaGrpMC2
import Derived.Test.YtnbmhopoiijhoaaRows
import Derived.Test.YtnbmhopoiijhoaaGrpMC0
import Derived.WalkKit
import Derived.ProofKit
import Derived.OwnWalk
import Derived.Deep.RegionHeld
import Derived.Test.YtnbmhopoiijhoaaOwnRow
import Derived.Deep.OwnRows
import Derived.BigQuiet
import Derived.Test.YtnbmhopoiijhoaaInsRows
import Derived.Laws.BitsAllLaws
import Derived.Laws.IdiomStrings
namespace Go.Proofs.Ytnbmhopoiijhoaa
open Go.RowKit Go.Deep

/-- The contract of what draws handlers. -/
def HanC (d : Dr) (ve : Value) (es : List Ef) (D : Nat) : Prop :=
  ∀ (ty deep : Int) (v vm : Value) (ks : List Kn) (ms : List Bool) (X : World) (s : Cn), deep ≤ D → -90 ≤ deep → Gen d ve X s → Fit s 250 → Env d ve es X v ks vm ms (D + 1) →
    Calls Try.prog 58 #[.pointer (some ⟨d.G, 0, none⟩), .int .i64 ty, v, vm, .int .i64 deep] X (NodesPost d ve X s 250)

/-- What is spent within, the count taken off first. -/
theorem of_post {d : Dr} {ve : Value} {W X : World} {s s1 : Cn} {e : Ending} {Y : World} {c : Nat} (hg : Grew d W X) (e1 : s1.p = s.p) (e2 : s1.next = s.next) (e3 : s1.left = s.left - 1) (h : NodesPost d ve X s1 c e Y) (hc : c ≤ 9 ∨ (0 < s.left ∧ c ≤ 300)) : NodesPost d ve W s 10 e Y := by
  obtain ⟨v, ns, s', t, h1, h2, h3, h4, h5, h6⟩ := h
  refine ⟨v, ns, s', t + 1, h1, h2, by omega, h4, hg.trans h5, ?_⟩
  unfold Spent at h6 ⊢
  omega

theorem of_fit {s s1 : Cn} (hf : Fit s 10) (e1 : s1.p = s.p) (e2 : s1.next = s.next) (e3 : s1.left = s.left - 1) : Fit s1 9 ∧ (0 < s.left → Fit s1 300) := by
  unfold Fit at hf ⊢
  omega

set_option maxHeartbeats 4000000 in
set_option maxRecDepth 100000 in
/-- A function, small. -/
theorem leaf5n {d : Dr} {ve v : Value} {W : World} {s : Cn} {ks : List Kn} (ty : Int) (h1 : ty ≠ 1) (h2 : ty ≠ 2) (h3 : ty ≠ 3) (h4 : ty ≠ 4) (h : Gen d ve W s) (hf : Fit s 9) (hk : KnowsD d W v ks) (hl : ks.length ≤ 998) :
    Calls Try.prog 54 #[.pointer (some ⟨d.G, 0, none⟩), .int .i64 ty, v] W (NodesPost d ve W s 9) := by
  have HF := hid hf
  have A0 := hid (At.start h)
  have HKn := hid hk
  have HKl := hid hl
  have HK := hid (A0.out.nodes0 (gknown_calls ty h (by unfold Fit at hf; omega) hk (by omega)))
  obtain ⟨ad, cp, rfl⟩ := hk.is
  clear hk hl h hf
  have e1 : (ty == 1) = false := by simp [h1]
  have e2 : (ty == 2) = false := by simp [h2]
  have e3 : (ty == 3) = false := by simp [h3]
  have e4 : (ty == 4) = false := by simp [h4]
  clear h1 h2 h3 h4
  go_enter Try.func54, Try.ntmps54
  go_wp2_with fail
  refine HK.out.mono ?_
  rintro e X1 ⟨v1, n1, s1, t1, rfl, hn1, hl1, ha1, hg1⟩
  have A1 := hid ha1
  have N1 := hid (And.intro hn1 hl1)
  have G1 := hid hg1
  obtain ⟨ad1, cp1, rfl⟩ := hn1.is
  obtain ⟨l1, hl1e⟩ : ∃ l, n1.length = l := ⟨_, rfl⟩
  have HL1 := hid hl1e
  rw [hl1e] at N1 ⊢
  clear hn1 hl1 ha1 hg1 HK hl1e A0
  by_cases hz : l1 = 0
  · subst hz
    go_wp2_with fail
    refine (A1.out.name HF.out (by omega)).mono ?_
    rintro e X2 ⟨x2, s2, rfl, hb2, ha, hg⟩
    have A2 := hid ha
    have G2 := hid hg
    clear ha hg
    have B2 := hid hb2
    clear hb2
    go_wp2_with fail
    refine (A2.out.add x2 1 0 (HKn.out.grew (G1.out.trans G2.out)) B2.out (by have := HKl.out; omega)).mono ?_
    rintro e X3 ⟨u3, ks3, rfl, hk3, hkl3, ha, hg⟩
    have A3 := hid ha
    have G3 := hid hg
    clear ha hg
    have K3 := hid (And.intro hk3 hkl3)
    clear hk3 hkl3
    go_wp2_with fail
    refine (A3.out.nodes (leaf1 1 rfl A3.out.1 (A3.out.fit HF.out 4 (by omega)) K3.out.1 (by have := K3.out.2; have := HKl.out; omega))).mono ?_
    rintro e X4 ⟨v4, n4, s4, t4, rfl, hn4, hl4, ha, hg⟩
    have A4 := hid ha
    have G4 := hid hg
    clear ha hg
    have N4 := hid (And.intro hn4 hl4)
    obtain ⟨ad4, cp4, rfl⟩ := hn4.is
    clear hn4 hl4
    go_wp2_with fail
    refine (A4.out.put1 6 0 0 x2 ByteArray.empty ByteArray.empty N4.out.1 ⟨B2.out, brief_none, brief_none⟩ (by have := A4.out.bound HF.out (by omega) (by decide); have := N4.out.2; omega)).mono ?_
    rintro e X5 ⟨v5, n5, rfl, hn5, hl5, ha, hg⟩
    have A5 := hid ha
    have G5 := hid hg
    clear ha hg
    have N5 := hid (And.intro hn5 hl5)
    obtain ⟨ad5, cp5, rfl⟩ := hn5.is
    clear hn5 hl5
    go_wp2_with fail
    go_ret
    exact A5.out.done 1 N5.out.1 (by have := N5.out.2; have := N4.out.2; omega) (by omega)
  · have hz' : (0 : Int) < (l1 : Int) := by omega
    have g0 := A1.out.1.c0
    go_wp2_with fail
    refine (A1.out.pick HF.out (by omega) 3 (by decide)).mono ?_
    rintro e X2 ⟨m2, s2, rfl, hm2, hM2, ha, hg⟩
    have A2 := hid ha
    have G2 := hid hg
    clear ha hg
    clear g0
    by_cases hm : 0 < m2
    · go_wp2_with fail
      go_ret
      exact A2.out.done 0 (N1.out.1.grew G2.out) (by have := N1.out.2; have := HL1.out; omega) (by omega)
    · have hm0 : m2 = 0 := by omega
      subst hm0
      go_wp2_with fail
      refine (A2.out.name HF.out (by omega)).mono ?_
      rintro e X3 ⟨x3, s3, rfl, hb3, ha, hg⟩
      have A3 := hid ha
      have G3 := hid hg
      clear ha hg
      have B3 := hid hb3
      clear hb3
      go_wp2_with fail
      refine (A3.out.add x3 1 0 (HKn.out.grew (G1.out.trans (G2.out.trans G3.out))) B3.out (by have := HKl.out; omega)).mono ?_
      rintro e X4 ⟨u4, ks4, rfl, hk4, hkl4, ha, hg⟩
      have A4 := hid ha
      have G4 := hid hg
      clear ha hg
      have K4 := hid (And.intro hk4 hkl4)
      clear hk4 hkl4
      go_wp2_with fail
      refine (A4.out.nodes (leaf1 1 rfl A4.out.1 (A4.out.fit HF.out 4 (by omega)) K4.out.1 (by have := K4.out.2; have := HKl.out; omega))).mono ?_
      rintro e X5 ⟨v5, n5, s5, t5, rfl, hn5, hl5, ha, hg⟩
      have A5 := hid ha
      have G5 := hid hg
      clear ha hg
      have N5 := hid (And.intro hn5 hl5)
      obtain ⟨ad5, cp5, rfl⟩ := hn5.is
      clear hn5 hl5
      go_wp2_with fail
      refine (A5.out.put1 6 0 0 x3 ByteArray.empty ByteArray.empty N5.out.1 ⟨B3.out, brief_none, brief_none⟩ (by have := A5.out.bound HF.out (by omega) (by decide); have := N5.out.2; omega)).mono ?_
      rintro e X6 ⟨v6, n6, rfl, hn6, hl6, ha, hg⟩
      have A6 := hid ha
      have G6 := hid hg
      clear ha hg
      have N6 := hid (And.intro hn6 hl6)
      obtain ⟨ad6, cp6, rfl⟩ := hn6.is
      clear hn6 hl6
      go_wp2_with fail
      go_ret
      exact A6.out.done 1 N6.out.1 (by have := N6.out.2; have := N5.out.2; omega) (by omega)

theorem leaf_nine {d : Dr} {ve v : Value} {W : World} {s : Cn} {ks : List Kn} (ty : Int) (h : Gen d ve W s) (hf : Fit s 9) (hk : KnowsD d W v ks) (hl : ks.length ≤ 998) :
    Calls Try.prog 54 #[.pointer (some ⟨d.G, 0, none⟩), .int .i64 ty, v] W (NodesPost d ve W s 9) := by
  by_cases h1 : ty = 1
  · exact (leaf1 ty h1 h (hf.mono (by omega)) hk (by omega)).mono fun e W' h => h.mono (by omega)
  by_cases h2 : ty = 2
  · exact (leaf2 ty h2 h (hf.mono (by omega)) hk (by omega)).mono fun e W' h => h.mono (by omega)
  by_cases h3 : ty = 3
  · exact (leaf3 ty h3 h (hf.mono (by omega)) hk (by omega)).mono fun e W' h => h.mono (by omega)
  by_cases h4 : ty = 4
  · exact (leaf4 ty h4 h (hf.mono (by omega)) hk (by omega)).mono fun e W' h => h.mono (by omega)
  exact leaf5n ty h1 h2 h3 h4 h hf hk hl

set_option maxHeartbeats 8000000 in
set_option maxRecDepth 100000 in
theorem of_step {d : Dr} {ve : Value} {es : List Ef} {D : Nat} (hD : D ≤ 90) (hO : OfC d ve es D) (hH : HanC d ve es D) : OfC d ve es (D + 1) := by
  intro deep ty v vm ks ms W s h1 h2 hf h hE
  have HO := hid hO
  have HH := hid hH
  have hl := h.setLeft (s.left - 1)
  have f2 := h.f2
  have c2 := h.c2
  have HF0 := hid hf
  have HW : Hid (wrap64 (s.left - 1) = s.left - 1) := by show _ = _; unfold Fit at hf; unfold wrap64; omega
  have HD0 := hid (And.intro h1 (And.intro h2 hD))
  obtain ⟨ad, cp, rfl⟩ := hE.know.is
  obtain ⟨adm, cpm, rfl⟩ := hE.may.is
  obtain ⟨X, hX⟩ : ∃ X, W.setCell ⟨d.G, 2, none⟩ (.int .i64 (s.left - 1)) = X := ⟨_, rfl⟩
  rw [hX] at hl
  have HX := hid hX
  obtain ⟨s1, hs1⟩ : ∃ s1 : Cn, { s with left := s.left - 1 } = s1 := ⟨_, rfl⟩
  rw [hs1] at hl
  have e1 : s1.p = s.p := by rw [← hs1]
  have e2 : s1.next = s.next := by rw [← hs1]
  have e3 : s1.left = s.left - 1 := by rw [← hs1]
  have HFF := hid (of_fit hf e1 e2 e3)
  have HP := hid (fun (c : Nat) (e : Ending) (Y : World) (h : NodesPost d ve X s1 c e Y) (hc : c ≤ 9 ∨ (0 < s.left ∧ c ≤ 300)) => of_post hl.2 e1 e2 e3 h hc)
  have A0 := hid (At.start hl.1)
  have HE := hid (hE.grew hl.2)
  have g2 := hl.1.c2
  have g0 := hl.1.c0
  rw [e3] at g2
  obtain ⟨L, hL⟩ : ∃ L : Int, s.left - 1 = L := ⟨_, rfl⟩
  have HLe := hid hL
  rw [hL] at g2
  clear hO hH hl hf h hE hX hs1 e1 e2 e3 hL
  go_enter Try.func38, Try.ntmps38
  go_upto_region 2 with fail
  try rw [HW.out]
  rw [HX.out]
  clear c2 f2 HW HX
  have HLF := hid (leaf_nine ty A0.out.1 HFF.out.1 HE.out.know (by have := HE.out.room; omega))
  by_cases hd : deep ≤ 1
  · go_wp2_with fail
    refine HLF.out.mono ?_
    rintro e Xl ⟨vl, nl, sl, tl, rfl, hnl, hll, hgl, hgrl, hspl⟩
    have NL := hid (And.intro hnl (And.intro hll (And.intro hgl (And.intro hgrl hspl))))
    clear hnl hll hgl hgrl hspl
    go_wp2_with fail
    go_ret
    exact HP.out 9 _ _ ⟨vl, nl, sl, tl, rfl, NL.out.1, NL.out.2.1, NL.out.2.2.1, NL.out.2.2.2.1, NL.out.2.2.2.2⟩ (Or.inl (by omega))
  · by_cases hl0 : L ≤ 0
    · go_wp2_with fail
      refine HLF.out.mono ?_
      rintro e Xl ⟨vl, nl, sl, tl, rfl, hnl, hll, hgl, hgrl, hspl⟩
      have NL := hid (And.intro hnl (And.intro hll (And.intro hgl (And.intro hgrl hspl))))
      clear hnl hll hgl hgrl hspl
      go_wp2_with fail
      go_ret
      exact HP.out 9 _ _ ⟨vl, nl, sl, tl, rfl, NL.out.1, NL.out.2.1, NL.out.2.2.1, NL.out.2.2.2.1, NL.out.2.2.2.2⟩ (Or.inl (by omega))
    · have HPos : Hid (0 < s.left) := by show _ < _; have := HLe.out; omega
      have HF := hid (HFF.out.2 HPos.out)
      have HD := hid (And.intro (show deep - 1 ≤ (D : Int) by have := HD0.out.1; omega) (And.intro (show -90 ≤ deep - 1 by omega) (show D ≤ 100 by omega)))
      have hdu : deep ≤ 1000 := by have := HD0.out; omega
      go_wp2_with fail
      refine (A0.out.pick HF.out (by omega) 9 (by decide)).mono ?_
      rintro e X1 ⟨m1, s51, rfl, hm1, hM1, ha, hg⟩
      have A1 := hid ha
      have G1 := hid hg
      clear ha hg
      by_cases h9 : m1 = 0
      · subst h9
        have HL3 := hid (A1.out.nodes (leaf_calls ty A1.out.1 (A1.out.fit HF.out 10 (by omega)) (HE.out.grew G1.out).know (by have := HE.out.room; omega)))
        go_wp2_with fail
        refine HL3.out.mono ?_
        rintro e X2 ⟨v2, n2, s2, t2, rfl, hn2, hl2, ha, hg⟩
        have A2 := hid ha
        have G2 := hid hg
        clear ha hg
        have N2 := hid (And.intro hn2 hl2)
        clear hn2 hl2
        go_wp2_with fail
        go_ret
        exact HP.out 300 _ _ (A2.out.done 0 N2.out.1 (by have := N2.out.2; omega) (by omega)) (Or.inr ⟨HPos.out, by omega⟩)
      · have z9 : (m1 == 0) = false := by simp [h9]
        have g0 := A1.out.1.c0
        go_wp2_with fail
        refine (A1.out.pick HF.out (by omega) 11 (by decide)).mono ?_
        rintro e X2 ⟨m2, s2, rfl, hm2, hM2, ha, hg⟩
        have A2 := hid ha
        have G2 := hid hg
        clear ha hg
        clear g0
        have hcs : m2 = 0 ∨ m2 = 1 ∨ m2 = 2 ∨ m2 = 3 ∨ m2 = 4 ∨ m2 = 5 ∨ m2 = 6 ∨ m2 = 7 ∨ m2 = 8 ∨ m2 = 9 ∨ m2 = 10 := by omega
        rcases hcs with rfl | rfl | rfl | rfl | rfl | rfl | rfl | rfl | rfl | rfl | rfl
        · go_wp2_with fail
          refine (A2.out.nodes (HO.out (deep - 1) 2 _ _ _ _ _ _ (by have := HD.out; omega) (by have := HD.out; omega) (A2.out.fit HF.out 10 (by omega)) A2.out.1 (HE.out.grew (G1.out.trans G2.out)).down)).mono ?_
          rintro e X3 ⟨v3, n3, s3, t3, rfl, hn3, hl3, ha, hg⟩
          have A3 := hid ha
          have G3 := hid hg
          clear ha hg
          have N3 := hid (And.intro hn3 hl3)
          obtain ⟨ad3, cp3, rfl⟩ := hn3.is
          clear hn3 hl3
          go_wp2_with fail
          refine (A3.out.nodes (HO.out (deep - 1) ty _ _ _ _ _ _ (by have := HD.out; omega) (by have := HD.out; omega) (A3.out.fit HF.out 10 (by omega)) A3.out.1 (HE.out.grew (G1.out.trans (G2.out.trans G3.out))).down)).mono ?_
          rintro e X4 ⟨v4, n4, s4, t4, rfl, hn4, hl4, ha, hg⟩
          have A4 := hid ha
          have G4 := hid hg
          clear ha hg
          have N4 := hid (And.intro hn4 hl4)
          obtain ⟨ad4, cp4, rfl⟩ := hn4.is
          clear hn4 hl4
          go_wp2_with fail
          refine (A4.out.nodes (HO.out (deep - 1) ty _ _ _ _ _ _ (by have := HD.out; omega) (by have := HD.out; omega) (A4.out.fit HF.out 10 (by omega)) A4.out.1 (HE.out.grew (G1.out.trans (G2.out.trans (G3.out.trans G4.out)))).down)).mono ?_
          rintro e X5 ⟨v5, n5, s5, t5, rfl, hn5, hl5, ha, hg⟩
          have A5 := hid ha
          have G5 := hid hg
          clear ha hg
          have N5 := hid (And.intro hn5 hl5)
          obtain ⟨ad5, cp5, rfl⟩ := hn5.is
          clear hn5 hl5
          go_wp2_with fail
          refine (A5.out.put3 10 0 0 ByteArray.empty ByteArray.empty ByteArray.empty (N3.out.1.grew (G4.out.trans G5.out)) (N4.out.1.grew G5.out) N5.out.1 ⟨brief_none, brief_none, brief_none⟩ (by have := A5.out.bound HF.out (by omega) (by decide); have := N3.out.2; have := N4.out.2; have := N5.out.2; omega)).mono ?_
          rintro e X6 ⟨v6, n6, rfl, hn6, hl6, ha, hg⟩
          have A6 := hid ha
          have G6 := hid hg
          clear ha hg
          have N6 := hid (And.intro hn6 hl6)
          obtain ⟨ad6, cp6, rfl⟩ := hn6.is
          clear hn6 hl6
          go_wp2_with fail
          go_ret
          exact HP.out 300 _ _ (A6.out.done 1 N6.out.1 (by have := N6.out.2; have := N3.out.2; have := N4.out.2; have := N5.out.2; omega) (by omega)) (Or.inr ⟨HPos.out, by omega⟩)
        · go_wp2_with fail
          refine (A2.out.name HF.out (by omega)).mono ?_
          rintro e X3 ⟨x3, s3, rfl, hb3, ha, hg⟩
          have A3 := hid ha
          have G3 := hid hg
          clear ha hg
          have B3 := hid hb3
          clear hb3
          have g0 := A3.out.1.c0
          go_wp2_with fail
          refine (A3.out.pick HF.out (by omega) 5 (by decide)).mono ?_
          rintro e X4 ⟨m4, s4, rfl, hm4, hM4, ha, hg⟩
          have A4 := hid ha
          have G4 := hid hg
          clear ha hg
          clear g0
          go_wp2_with fail
          refine (A4.out.nodes (HO.out (deep - 1) (1 + m4) _ _ _ _ _ _ (by have := HD.out; omega) (by have := HD.out; omega) (A4.out.fit HF.out 10 (by omega)) A4.out.1 (HE.out.grew (G1.out.trans (G2.out.trans (G3.out.trans G4.out)))).down)).mono ?_
          rintro e X5 ⟨v5, n5, s5, t5, rfl, hn5, hl5, ha, hg⟩
          have A5 := hid ha
          have G5 := hid hg
          clear ha hg
          have N5 := hid (And.intro hn5 hl5)
          obtain ⟨ad5, cp5, rfl⟩ := hn5.is
          clear hn5 hl5
          go_wp2_with fail
          refine (A5.out.add x3 (1 + m4) 0 (HE.out.grew (G1.out.trans (G2.out.trans (G3.out.trans (G4.out.trans G5.out))))).know B3.out (by have := HE.out.room; omega)).mono ?_
          rintro e X6 ⟨u6, ks6, rfl, hk6, hkl6, ha, hg⟩
          have A6 := hid ha
          have G6 := hid hg
          clear ha hg
          have K6 := hid (And.intro hk6 hkl6)
          obtain ⟨ad6, cp6, rfl⟩ := hk6.is
          clear hk6 hkl6
          go_wp2_with fail
          refine (A6.out.nodes (HO.out (deep - 1) ty _ _ _ _ _ _ (by have := HD.out; omega) (by have := HD.out; omega) (A6.out.fit HF.out 10 (by omega)) A6.out.1 ((HE.out.grew (G1.out.trans (G2.out.trans (G3.out.trans (G4.out.trans (G5.out.trans G6.out)))))).with K6.out.1 (by have := K6.out.2; omega)))).mono ?_
          rintro e X7 ⟨v7, n7, s7, t7, rfl, hn7, hl7, ha, hg⟩
          have A7 := hid ha
          have G7 := hid hg
          clear ha hg
          have N7 := hid (And.intro hn7 hl7)
          obtain ⟨ad7, cp7, rfl⟩ := hn7.is
          clear hn7 hl7
          go_wp2_with fail
          refine (A7.out.put2 8 0 0 x3 ByteArray.empty ByteArray.empty (N5.out.1.grew (G6.out.trans G7.out)) N7.out.1 ⟨B3.out, brief_none, brief_none⟩ (by have := A7.out.bound HF.out (by omega) (by decide); have := N5.out.2; have := N7.out.2; omega)).mono ?_
          rintro e X8 ⟨v8, n8, rfl, hn8, hl8, ha, hg⟩
          have A8 := hid ha
          have G8 := hid hg
          clear ha hg
          have N8 := hid (And.intro hn8 hl8)
          obtain ⟨ad8, cp8, rfl⟩ := hn8.is
          clear hn8 hl8
          go_wp2_with fail
          go_ret
          exact HP.out 300 _ _ (A8.out.done 1 N8.out.1 (by have := N8.out.2; have := N5.out.2; have := N7.out.2; omega) (by omega)) (Or.inr ⟨HPos.out, by omega⟩)
        · go_wp2_with fail
          refine (A2.out.name HF.out (by omega)).mono ?_
          rintro e X3 ⟨x3, s3, rfl, hb3, ha, hg⟩
          have A3 := hid ha
          have G3 := hid hg
          clear ha hg
          have B3 := hid hb3
          clear hb3
          go_wp2_with fail
          refine (A3.out.name HF.out (by omega)).mono ?_
          rintro e X4 ⟨x4, s4, rfl, hb4, ha, hg⟩
          have A4 := hid ha
          have G4 := hid hg
          clear ha hg
          have B4 := hid hb4
          clear hb4
          go_wp2_with fail
          refine (A4.out.nodes (HO.out (deep - 1) 4 _ _ _ _ _ _ (by have := HD.out; omega) (by have := HD.out; omega) (A4.out.fit HF.out 10 (by omega)) A4.out.1 (HE.out.grew (G1.out.trans (G2.out.trans (G3.out.trans G4.out)))).down)).mono ?_
          rintro e X5 ⟨v5, n5, s5, t5, rfl, hn5, hl5, ha, hg⟩
          have A5 := hid ha
          have G5 := hid hg
          clear ha hg
          have N5 := hid (And.intro hn5 hl5)
          obtain ⟨ad5, cp5, rfl⟩ := hn5.is
          clear hn5 hl5
          go_wp2_with fail
          refine (A5.out.nodes (HO.out (deep - 1) ty _ _ _ _ _ _ (by have := HD.out; omega) (by have := HD.out; omega) (A5.out.fit HF.out 10 (by omega)) A5.out.1 (HE.out.grew (G1.out.trans (G2.out.trans (G3.out.trans (G4.out.trans G5.out))))).down)).mono ?_
          rintro e X6 ⟨v6, n6, s6, t6, rfl, hn6, hl6, ha, hg⟩
          have A6 := hid ha
          have G6 := hid hg
          clear ha hg
          have N6 := hid (And.intro hn6 hl6)
          obtain ⟨ad6, cp6, rfl⟩ := hn6.is
          clear hn6 hl6
          go_wp2_with fail
          refine (A6.out.add x3 1 0 (HE.out.grew (G1.out.trans (G2.out.trans (G3.out.trans (G4.out.trans (G5.out.trans G6.out)))))).know B3.out (by have := HE.out.room; omega)).mono ?_
          rintro e X7 ⟨u7, ks7, rfl, hk7, hkl7, ha, hg⟩
          have A7 := hid ha
          have G7 := hid hg
          clear ha hg
          have K7 := hid (And.intro hk7 hkl7)
          obtain ⟨ad7, cp7, rfl⟩ := hk7.is
          clear hk7 hkl7
          go_wp2_with fail
          refine (A7.out.add x4 4 0 K7.out.1 B4.out (by have := HE.out.room; have := K7.out.2; omega)).mono ?_
          rintro e X8 ⟨u8, ks8, rfl, hk8, hkl8, ha, hg⟩
          have A8 := hid ha
          have G8 := hid hg
          clear ha hg
          have K8 := hid (And.intro hk8 hkl8)
          obtain ⟨ad8, cp8, rfl⟩ := hk8.is
          clear hk8 hkl8
          go_wp2_with fail
          refine (A8.out.nodes (HO.out (deep - 1) ty _ _ _ _ _ _ (by have := HD.out; omega) (by have := HD.out; omega) (A8.out.fit HF.out 10 (by omega)) A8.out.1 ((HE.out.grew (G1.out.trans (G2.out.trans (G3.out.trans (G4.out.trans (G5.out.trans (G6.out.trans (G7.out.trans G8.out)))))))).with K8.out.1 (by have := K7.out.2; have := K8.out.2; omega)))).mono ?_
          rintro e X9 ⟨v9, n9, s9, t9, rfl, hn9, hl9, ha, hg⟩
          have A9 := hid ha
          have G9 := hid hg
          clear ha hg
          have N9 := hid (And.intro hn9 hl9)
          obtain ⟨ad9, cp9, rfl⟩ := hn9.is
          clear hn9 hl9
          go_wp2_with fail
          refine (A9.out.put3 20 0 0 x3 x4 ByteArray.empty (N5.out.1.grew (G6.out.trans (G7.out.trans (G8.out.trans G9.out)))) (N6.out.1.grew (G7.out.trans (G8.out.trans G9.out))) N9.out.1 ⟨B3.out, B4.out, brief_none⟩ (by have := A9.out.bound HF.out (by omega) (by decide); have := N5.out.2; have := N6.out.2; have := N9.out.2; omega)).mono ?_
          rintro e X10 ⟨v10, n10, rfl, hn10, hl10, ha, hg⟩
          have A10 := hid ha
          have G10 := hid hg
          clear ha hg
          have N10 := hid (And.intro hn10 hl10)
          obtain ⟨ad10, cp10, rfl⟩ := hn10.is
          clear hn10 hl10
          go_wp2_with fail
          go_ret
          exact HP.out 300 _ _ (A10.out.done 1 N10.out.1 (by have := N10.out.2; have := N5.out.2; have := N6.out.2; have := N9.out.2; omega) (by omega)) (Or.inr ⟨HPos.out, by omega⟩)
        · go_wp2_with fail
          refine (A2.out.nodes (HH.out ty (deep - 1) _ _ _ _ _ _ (by have := HD.out; omega) (by have := HD.out; omega) A2.out.1 (A2.out.fit HF.out 250 (by omega)) (HE.out.grew (G1.out.trans G2.out)))).mono ?_
          rintro e X3 ⟨v3, n3, s3, t3, rfl, hn3, hl3, ha, hg⟩
          have A3 := hid ha
          have G3 := hid hg
          clear ha hg
          have N3 := hid (And.intro hn3 hl3)
          obtain ⟨ad3, cp3, rfl⟩ := hn3.is
          clear hn3 hl3
          go_wp2_with fail
          go_ret
          exact HP.out 300 _ _ (A3.out.done 0 N3.out.1 (by have := N3.out.2; omega) (by omega)) (Or.inr ⟨HPos.out, by omega⟩)
        · go_wp2_with fail
          refine (A2.out.nodes (HH.out ty (deep - 1) _ _ _ _ _ _ (by have := HD.out; omega) (by have := HD.out; omega) A2.out.1 (A2.out.fit HF.out 250 (by omega)) (HE.out.grew (G1.out.trans G2.out)))).mono ?_
          rintro e X3 ⟨v3, n3, s3, t3, rfl, hn3, hl3, ha, hg⟩
          have A3 := hid ha
          have G3 := hid hg
          clear ha hg
          have N3 := hid (And.intro hn3 hl3)
          obtain ⟨ad3, cp3, rfl⟩ := hn3.is
          clear hn3 hl3
          go_wp2_with fail
          go_ret
          exact HP.out 300 _ _ (A3.out.done 0 N3.out.1 (by have := N3.out.2; omega) (by omega)) (Or.inr ⟨HPos.out, by omega⟩)
        · go_wp2_with fail
          refine (A2.out.nodes0 (cont_calls ty (deep - 1) HO.out (by have := HD.out; omega) (by have := HD.out; omega) (by have := HD.out; omega) A2.out.1 (A2.out.fit HF.out 30 (by omega)) (HE.out.grew (G1.out.trans G2.out)))).mono ?_
          rintro e X3 ⟨v3, n3, s3, t3, rfl, hn3, hl3, ha, hg⟩
          have A3 := hid ha
          have G3 := hid hg
          clear ha hg
          have N3 := hid (And.intro hn3 hl3)
          obtain ⟨ad3, cp3, rfl⟩ := hn3.is
          clear hn3 hl3
          by_cases hz : n3.length = 0
          · rw [hz]
            go_wp2_with fail
            refine (A3.out.nodes (gown_calls ty (deep - 1) HO.out (by have := HD.out; omega) (by have := HD.out; omega) (by have := HD.out; omega) A3.out.1 (A3.out.fit HF.out 100 (by omega)) (HE.out.grew (G1.out.trans (G2.out.trans G3.out))))).mono ?_
            rintro e X4 ⟨v4, n4, s4, t4, rfl, hn4, hl4, ha, hg⟩
            have A4 := hid ha
            have G4 := hid hg
            clear ha hg
            have N4 := hid (And.intro hn4 hl4)
            obtain ⟨ad4, cp4, rfl⟩ := hn4.is
            clear hn4 hl4
            go_wp2_with fail
            go_ret
            exact HP.out 300 _ _ (A4.out.done 0 N4.out.1 (by have := N4.out.2; omega) (by omega)) (Or.inr ⟨HPos.out, by omega⟩)
          · have hz' : (0 : Int) < (n3.length : Int) := by omega
            go_wp2_with fail
            go_ret
            exact HP.out 300 _ _ (A3.out.done 0 N3.out.1 (by have := N3.out.2; omega) (by omega)) (Or.inr ⟨HPos.out, by omega⟩)
        · go_wp2_with fail
          refine (A2.out.nodes0 (perform_calls ty (deep - 1) HO.out (by have := HD.out; omega) (by have := HD.out; omega) (by have := HD.out; omega) A2.out.1 (A2.out.fit HF.out 30 (by omega)) (HE.out.grew (G1.out.trans G2.out)))).mono ?_
          rintro e X3 ⟨v3, n3, s3, t3, rfl, hn3, hl3, ha, hg⟩
          have A3 := hid ha
          have G3 := hid hg
          clear ha hg
          have N3 := hid (And.intro hn3 hl3)
          obtain ⟨ad3, cp3, rfl⟩ := hn3.is
          clear hn3 hl3
          by_cases hz : n3.length = 0
          · rw [hz]
            go_wp2_with fail
            refine (A3.out.nodes (gown_calls ty (deep - 1) HO.out (by have := HD.out; omega) (by have := HD.out; omega) (by have := HD.out; omega) A3.out.1 (A3.out.fit HF.out 100 (by omega)) (HE.out.grew (G1.out.trans (G2.out.trans G3.out))))).mono ?_
            rintro e X4 ⟨v4, n4, s4, t4, rfl, hn4, hl4, ha, hg⟩
            have A4 := hid ha
            have G4 := hid hg
            clear ha hg
            have N4 := hid (And.intro hn4 hl4)
            obtain ⟨ad4, cp4, rfl⟩ := hn4.is
            clear hn4 hl4
            go_wp2_with fail
            go_ret
            exact HP.out 300 _ _ (A4.out.done 0 N4.out.1 (by have := N4.out.2; omega) (by omega)) (Or.inr ⟨HPos.out, by omega⟩)
          · have hz' : (0 : Int) < (n3.length : Int) := by omega
            go_wp2_with fail
            go_ret
            exact HP.out 300 _ _ (A3.out.done 0 N3.out.1 (by have := N3.out.2; omega) (by omega)) (Or.inr ⟨HPos.out, by omega⟩)
        · have g0 := A2.out.1.c0
          go_wp2_with fail
          refine (A2.out.pick HF.out (by omega) 2 (by decide)).mono ?_
          rintro e X3 ⟨m3, s3, rfl, hm3, hM3, ha, hg⟩
          have A3 := hid ha
          have G3 := hid hg
          clear ha hg
          clear g0
          by_cases h7 : m3 = 0
          · subst h7
            go_upto_region 29 with fail
            refine pick_begin (S := fun w' => w'.cell? ⟨d.G, 0, none⟩ = some (.pointer (some ⟨d.B, 0, none⟩))) (by kernel_rfl) rfl rfl ?_
            have A4 := hid A3.out.drew
            have G4 := hid (Grew.refl d X3).drew
            generalize X3.drew = X4 at *
            refine pick_op (i := 0) (v := .agg #[.int .i64 17, .int .i64 0, .string ⟨#[]⟩, .string ⟨#[]⟩, .string ⟨#[]⟩, .int .i64 0]) (by kernel_rfl) rfl (by kernel_rfl) (by kernel_rfl) rfl rfl (fun w' hw => by simp [go_sem]) (A4.out.1.c0) (by simp [go_sem]; exact rfl) ?_
            refine pick_op (i := 1) (v := .agg #[.int .i64 16, .int .i64 0, .string ⟨#[]⟩, .string ⟨#[]⟩, .string ⟨#[]⟩, .int .i64 0]) (by kernel_rfl) rfl (by kernel_rfl) (by kernel_rfl) rfl rfl (fun w' hw => by simp [go_sem]) (A4.out.1.c0) (by simp [go_sem]; exact rfl) ?_
            refine pick_op (i := 2) (v := .pointer (some ⟨d.G, 0, none⟩)) (by kernel_rfl) rfl (by kernel_rfl) (by kernel_rfl) rfl rfl (fun w' hw => by simp [go_sem]) (A4.out.1.c0) (by simp [go_sem]; exact rfl) ?_
            refine pick_op (i := 3) (v := .int .i64 ty) (by kernel_rfl) rfl (by kernel_rfl) (by kernel_rfl) rfl rfl (fun w' hw => by simp [go_sem]) (A4.out.1.c0) (by simp [go_sem]; exact rfl) ?_
            refine pick_op (i := 4) (v := .slice ad ks.length cp) (by kernel_rfl) rfl (by kernel_rfl) (by kernel_rfl) rfl rfl (fun w' hw => by simp [go_sem]) (A4.out.1.c0) (by simp [go_sem]; exact rfl) ?_
            refine pick_op (i := 5) (v := .slice adm ms.length cpm) (by kernel_rfl) rfl (by kernel_rfl) (by kernel_rfl) rfl rfl (fun w' hw => by simp [go_sem]) (A4.out.1.c0) (by simp [go_sem]; exact rfl) ?_
            refine pick_op (i := 6) (v := .int .i64 (deep - 1)) (by kernel_rfl) rfl (by kernel_rfl) (by kernel_rfl) rfl rfl (fun w' hw => by simp [go_sem]) (A4.out.1.c0) (by simp [go_sem]; exact rfl) ?_
            refine pick_op (i := 8) (v := .pointer (some ⟨d.G, 0, none⟩)) (by kernel_rfl) rfl (by kernel_rfl) (by kernel_rfl) rfl rfl (fun w' hw => by simp [go_sem]) (A4.out.1.c0) (by simp [go_sem]; exact rfl) ?_
            refine pick_op (i := 9) (v := .pointer (some ⟨d.G, 0, none⟩)) (by kernel_rfl) rfl (by kernel_rfl) (by kernel_rfl) rfl rfl (fun w' hw => by simp [go_sem]) (A4.out.1.c0) (by simp [go_sem]; exact rfl) ?_
            refine pick_op (i := 10) (v := .pointer (some ⟨d.G, 0, none⟩)) (by kernel_rfl) rfl (by kernel_rfl) (by kernel_rfl) rfl rfl (fun w' hw => by simp [go_sem]) (A4.out.1.c0) (by simp [go_sem]; exact rfl) ?_
            refine pick_op (i := 11) (v := .pointer (some ⟨d.G, 0, none⟩)) (by kernel_rfl) rfl (by kernel_rfl) (by kernel_rfl) rfl rfl (fun w' hw => by simp [go_sem]) (A4.out.1.c0) (by simp [go_sem]; exact rfl) ?_
            refine pick_op (i := 12) (v := .pointer (some ⟨d.B, 0, none⟩)) (by kernel_rfl) rfl (by kernel_rfl) (by kernel_rfl) rfl rfl (fun w' hw => by simp [go_sem, hw]) (A4.out.1.c0) (by simp [go_sem]; exact rfl) ?_
            refine pick_op (i := 15) (v := .slice ad ks.length cp) (by kernel_rfl) rfl (by kernel_rfl) (by kernel_rfl) rfl rfl (fun w' hw => by simp [go_sem]) (A4.out.1.c0) (by simp [go_sem]; exact rfl) ?_
            refine pick_enter (i := 7) (f := 38) (args := #[.pointer (some ⟨d.G, 0, none⟩), .int .i64 ty, .slice ad ks.length cp, .slice adm ms.length cpm, .int .i64 (deep - 1)]) rfl (by kernel_rfl) rfl rfl (by simp [go_sem]) ?_
            refine (A4.out.nodes (HO.out (deep - 1) ty _ _ _ _ _ _ (by have := HD.out; omega) (by have := HD.out; omega) (A4.out.fit HF.out 10 (by omega)) A4.out.1 (HE.out.grew (G1.out.trans (G2.out.trans (G3.out.trans G4.out)))).down)).mono ?_
            rintro e X5 ⟨v5, n5, s5, t5, rfl, hn5, hl5, ha, hg⟩
            have A5 := hid ha
            have G5 := hid hg
            clear ha hg
            have N5 := hid (And.intro hn5 hl5)
            obtain ⟨ad5, cp5, rfl⟩ := hn5.is
            clear hn5 hl5
            refine ⟨_, rfl, (A5.out.1.c0), ?_⟩
            refine pick_frame (by simp [go_sem]; exact rfl) ?_
            refine pick_enter (i := 13) (f := 13) (args := #[.pointer (some ⟨d.B, 0, none⟩), .int .i64 4]) rfl (by kernel_rfl) rfl rfl (by simp [go_sem]) ?_
            refine (A5.out.pick HF.out (by omega) 4 (by decide)).mono ?_
            rintro e X6 ⟨m6, s6, rfl, hm6, hM6, ha, hg⟩
            have A6 := hid ha
            have G6 := hid hg
            clear ha hg
            refine ⟨_, rfl, (A6.out.1.c0), ?_⟩
            refine pick_frame (by simp [go_sem]; exact rfl) ?_
            have hwr : IntKind.i64.wrap (1 + m6) = 1 + m6 := by rw [IntKind.wrap_i64]; omega
            refine pick_op (i := 14) (v := .int .i64 (1 + m6)) (by kernel_rfl) rfl (by kernel_rfl) (by kernel_rfl) rfl rfl (fun w' hw => by simp [go_sem, hwr]) (A6.out.1.c0) (by simp [go_sem]; exact rfl) ?_
            clear hwr
            refine pick_enter (i := 16) (f := 54) (args := #[.pointer (some ⟨d.G, 0, none⟩), .int .i64 (1 + m6), .slice ad ks.length cp]) rfl (by kernel_rfl) rfl rfl (by simp [go_sem]) ?_
            refine (A6.out.nodes (leaf_calls (1 + m6) A6.out.1 (A6.out.fit HF.out 10 (by omega)) (HE.out.grew (G1.out.trans (G2.out.trans (G3.out.trans (G4.out.trans (G5.out.trans G6.out)))))).know (by have := HE.out.room; omega))).mono ?_
            rintro e X7 ⟨v7, n7, s7, t7, rfl, hn7, hl7, ha, hg⟩
            have A7 := hid ha
            have G7 := hid hg
            clear ha hg
            have N7 := hid (And.intro hn7 hl7)
            obtain ⟨ad7, cp7, rfl⟩ := hn7.is
            clear hn7 hl7
            refine ⟨_, rfl, (A7.out.1.c0), ?_⟩
            refine pick_frame (by simp [go_sem]; exact rfl) ?_
            have KV : Hid (KidsV d (X7.alloc (.cells #[.slice ad5 n5.length cp5, .slice ad7 n7.length cp7] 53)) (.slice (some ⟨X7.heap.size, 0, none⟩) 2 2) [(.slice ad5 n5.length cp5, n5), (.slice ad7 n7.length cp7, n7)]) := (kids_lit [(.slice ad5 n5.length cp5, n5), (.slice ad7 n7.length cp7, n7)] _ rfl A7.out.1.ltB A7.out.1.ltG (fun x hx => by simp at hx; rcases hx with rfl | rfl; exact (N5.out.1.grew (G6.out.trans G7.out)); exact N7.out.1))
            have A8 := hid (A7.out.alloc (.cells #[.slice ad5 n5.length cp5, .slice ad7 n7.length cp7] 53))
            have G8 := hid ((Grew.refl d X7).alloc (.cells #[.slice ad5 n5.length cp5, .slice ad7 n7.length cp7] 53))
            refine pick_make (i := 17) (v := .slice (some ⟨X7.heap.size, 0, none⟩) 2 2) (w1 := X7.alloc (.cells #[.slice ad5 n5.length cp5, .slice ad7 n7.length cp7] 53)) rfl (by kernel_rfl) rfl rfl (by simp [go_sem]) (A8.out.1.c0) (by simp [go_sem]; exact rfl) ?_
            generalize X7.alloc (.cells #[.slice ad5 n5.length cp5, .slice ad7 n7.length cp7] 53) = X8 at *
            refine pick_enter (i := 18) (f := 55) (args := #[.agg #[.int .i64 16, .int .i64 0, .string ⟨#[]⟩, .string ⟨#[]⟩, .string ⟨#[]⟩, .int .i64 0], .slice (some ⟨X7.heap.size, 0, none⟩) 2 2]) rfl (by kernel_rfl) rfl rfl (by simp [go_sem]) ?_
            refine (A8.out.put_kids 16 0 0 ⟨#[]⟩ ⟨#[]⟩ ⟨#[]⟩ KV.out ⟨brief_none, brief_none, brief_none⟩ (by simp) (by have := A8.out.bound HF.out (by omega) (by decide); have := N5.out.2; have := N7.out.2; simp [flatL]; omega)).mono ?_
            rintro e X9 ⟨v9, n9, rfl, hn9, hl9, ha, hg⟩
            have A9 := hid ha
            have G9 := hid hg
            clear ha hg
            have N9 := hid (And.intro hn9 hl9)
            obtain ⟨ad9, cp9, rfl⟩ := hn9.is
            clear hn9 hl9
            refine ⟨_, rfl, (A9.out.1.c0), ?_⟩
            refine pick_frame (by simp [go_sem]; exact rfl) ?_
            have KW : Hid (KidsV d (X9.alloc (.cells #[.slice ad9 n9.length cp9] 53)) (.slice (some ⟨X9.heap.size, 0, none⟩) 1 1) [(.slice ad9 n9.length cp9, n9)]) := (kids_lit [(.slice ad9 n9.length cp9, n9)] _ rfl A9.out.1.ltB A9.out.1.ltG (fun x hx => by simp at hx; rcases hx with rfl; exact N9.out.1))
            have A10 := hid (A9.out.alloc (.cells #[.slice ad9 n9.length cp9] 53))
            have G10 := hid ((Grew.refl d X9).alloc (.cells #[.slice ad9 n9.length cp9] 53))
            refine pick_make (i := 19) (v := .slice (some ⟨X9.heap.size, 0, none⟩) 1 1) (w1 := X9.alloc (.cells #[.slice ad9 n9.length cp9] 53)) rfl (by kernel_rfl) rfl rfl (by simp [go_sem]) (A10.out.1.c0) (by simp [go_sem]; exact rfl) ?_
            generalize X9.alloc (.cells #[.slice ad9 n9.length cp9] 53) = X10 at *
            refine pick_enter (i := 20) (f := 55) (args := #[.agg #[.int .i64 17, .int .i64 0, .string ⟨#[]⟩, .string ⟨#[]⟩, .string ⟨#[]⟩, .int .i64 0], .slice (some ⟨X9.heap.size, 0, none⟩) 1 1]) rfl (by kernel_rfl) rfl rfl (by simp [go_sem]) ?_
            refine (A10.out.put_kids 17 0 0 ⟨#[]⟩ ⟨#[]⟩ ⟨#[]⟩ KW.out ⟨brief_none, brief_none, brief_none⟩ (by simp) (by have := A10.out.bound HF.out (by omega) (by decide); have q1 := N9.out.2; have := N5.out.2; have := N7.out.2; simp [flatL] at q1; simp [flatL]; omega)).mono ?_
            rintro e X11 ⟨v11, n11, rfl, hn11, hl11, ha, hg⟩
            have A11 := hid ha
            have G11 := hid hg
            clear ha hg
            have N11 := hid (And.intro hn11 hl11)
            obtain ⟨ad11, cp11, rfl⟩ := hn11.is
            clear hn11 hl11
            refine ⟨_, rfl, (A11.out.1.c0), ?_⟩
            refine pick_frame (by simp [go_sem]; exact rfl) ?_
            refine pick_op (i := 21) (v := .slice ad11 n11.length cp11) (by kernel_rfl) rfl (by kernel_rfl) (by kernel_rfl) rfl rfl (fun w' hw => by simp [go_sem]) (A11.out.1.c0) (by simp [go_sem]; exact rfl) ?_
            refine pick_end (by kernel_rfl) ?_
            go_wp2_with fail
            go_ret
            exact HP.out 300 _ _ (A11.out.done 5 N11.out.1 (by have := N11.out.2; have := N9.out.2; have := N5.out.2; have := N7.out.2; simp [flatL] at *; omega) (by omega)) (Or.inr ⟨HPos.out, by omega⟩)
          · have z7 : (m3 == 0) = false := by simp [h7]
            have g0 := A3.out.1.c0
            go_wp2_with fail
            refine (A3.out.pick HF.out (by omega) 4 (by decide)).mono ?_
            rintro e X4 ⟨m4, s4, rfl, hm4, hM4, ha, hg⟩
            have A4 := hid ha
            have G4 := hid hg
            clear ha hg
            clear g0
            go_wp2_with fail
            refine (A4.out.nodes (leaf_calls (1 + m4) A4.out.1 (A4.out.fit HF.out 10 (by omega)) (HE.out.grew (G1.out.trans (G2.out.trans (G3.out.trans G4.out)))).know (by have := HE.out.room; omega))).mono ?_
            rintro e X5 ⟨v5, n5, s5, t5, rfl, hn5, hl5, ha, hg⟩
            have A5 := hid ha
            have G5 := hid hg
            clear ha hg
            have N5 := hid (And.intro hn5 hl5)
            obtain ⟨ad5, cp5, rfl⟩ := hn5.is
            clear hn5 hl5
            go_wp2_with fail
            refine (A5.out.nodes (HO.out (deep - 1) ty _ _ _ _ _ _ (by have := HD.out; omega) (by have := HD.out; omega) (A5.out.fit HF.out 10 (by omega)) A5.out.1 (HE.out.grew (G1.out.trans (G2.out.trans (G3.out.trans (G4.out.trans G5.out))))).down)).mono ?_
            rintro e X6 ⟨v6, n6, s6, t6, rfl, hn6, hl6, ha, hg⟩
            have A6 := hid ha
            have G6 := hid hg
            clear ha hg
            have N6 := hid (And.intro hn6 hl6)
            obtain ⟨ad6, cp6, rfl⟩ := hn6.is
            clear hn6 hl6
            go_wp2_with fail
            refine (A6.out.put2 16 0 0 ByteArray.empty ByteArray.empty ByteArray.empty (N5.out.1.grew G6.out) N6.out.1 ⟨brief_none, brief_none, brief_none⟩ (by have := A6.out.bound HF.out (by omega) (by decide); have := N5.out.2; have := N6.out.2; omega)).mono ?_
            rintro e X7 ⟨v7, n7, rfl, hn7, hl7, ha, hg⟩
            have A7 := hid ha
            have G7 := hid hg
            clear ha hg
            have N7 := hid (And.intro hn7 hl7)
            obtain ⟨ad7, cp7, rfl⟩ := hn7.is
            clear hn7 hl7
            go_wp2_with fail
            refine (A7.out.put1 18 0 0 ByteArray.empty ByteArray.empty ByteArray.empty N7.out.1 ⟨brief_none, brief_none, brief_none⟩ (by have := A7.out.bound HF.out (by omega) (by decide); have := N7.out.2; have := N5.out.2; have := N6.out.2; omega)).mono ?_
            rintro e X8 ⟨v8, n8, rfl, hn8, hl8, ha, hg⟩
            have A8 := hid ha
            have G8 := hid hg
            clear ha hg
            have N8 := hid (And.intro hn8 hl8)
            obtain ⟨ad8, cp8, rfl⟩ := hn8.is
            clear hn8 hl8
            go_wp2_with fail
            go_ret
            exact HP.out 300 _ _ (A8.out.done 2 N8.out.1 (by have := N8.out.2; have := N7.out.2; have := N5.out.2; have := N6.out.2; omega) (by omega)) (Or.inr ⟨HPos.out, by omega⟩)
        · go_wp2_with fail
          refine (A2.out.nodes (gown_calls ty (deep - 1) HO.out (by have := HD.out; omega) (by have := HD.out; omega) (by have := HD.out; omega) A2.out.1 (A2.out.fit HF.out 100 (by omega)) (HE.out.grew (G1.out.trans G2.out)))).mono ?_
          rintro e X3 ⟨v3, n3, s3, t3, rfl, hn3, hl3, ha, hg⟩
          have A3 := hid ha
          have G3 := hid hg
          clear ha hg
          have N3 := hid (And.intro hn3 hl3)
          obtain ⟨ad3, cp3, rfl⟩ := hn3.is
          clear hn3 hl3
          go_wp2_with fail
          go_ret
          exact HP.out 300 _ _ (A3.out.done 0 N3.out.1 (by have := N3.out.2; omega) (by omega)) (Or.inr ⟨HPos.out, by omega⟩)
        · go_wp2_with fail
          refine (A2.out.nodes (gown_calls ty (deep - 1) HO.out (by have := HD.out; omega) (by have := HD.out; omega) (by have := HD.out; omega) A2.out.1 (A2.out.fit HF.out 100 (by omega)) (HE.out.grew (G1.out.trans G2.out)))).mono ?_
          rintro e X3 ⟨v3, n3, s3, t3, rfl, hn3, hl3, ha, hg⟩
          have A3 := hid ha
          have G3 := hid hg
          clear ha hg
          have N3 := hid (And.intro hn3 hl3)
          obtain ⟨ad3, cp3, rfl⟩ := hn3.is
          clear hn3 hl3
          go_wp2_with fail
          go_ret
          exact HP.out 300 _ _ (A3.out.done 0 N3.out.1 (by have := N3.out.2; omega) (by omega)) (Or.inr ⟨HPos.out, by omega⟩)
        · go_wp2_with fail
          refine (A2.out.nodes (gown_calls ty (deep - 1) HO.out (by have := HD.out; omega) (by have := HD.out; omega) (by have := HD.out; omega) A2.out.1 (A2.out.fit HF.out 100 (by omega)) (HE.out.grew (G1.out.trans G2.out)))).mono ?_
          rintro e X3 ⟨v3, n3, s3, t3, rfl, hn3, hl3, ha, hg⟩
          have A3 := hid ha
          have G3 := hid hg
          clear ha hg
          have N3 := hid (And.intro hn3 hl3)
          obtain ⟨ad3, cp3, rfl⟩ := hn3.is
          clear hn3 hl3
          go_wp2_with fail
          go_ret
          exact HP.out 300 _ _ (A3.out.done 0 N3.out.1 (by have := N3.out.2; omega) (by omega)) (Or.inr ⟨HPos.out, by omega⟩)
end Go.Proofs.Ytnbmhopoiijhoaa

/- The drawer keeps its contract at all depths. -/
namespace Go.Proofs.Ytnbmhopoiijhoaa
open Go.RowKit Go.Deep

set_option maxHeartbeats 8000000 in
set_option maxRecDepth 100000 in
theorem of_zero {d : Dr} {ve : Value} {es : List Ef} : OfC d ve es 0 := by
  intro deep ty v vm ks ms W s h1 h2 hf h hE
  have hl := h.setLeft (s.left - 1)
  have f2 := h.f2
  have c2 := h.c2
  have HW : Hid (wrap64 (s.left - 1) = s.left - 1) := by show _ = _; unfold Fit at hf; unfold wrap64; omega
  have hd : deep ≤ 1 := by omega
  obtain ⟨ad, cp, rfl⟩ := hE.know.is
  obtain ⟨adm, cpm, rfl⟩ := hE.may.is
  obtain ⟨X, hX⟩ : ∃ X, W.setCell ⟨d.G, 2, none⟩ (.int .i64 (s.left - 1)) = X := ⟨_, rfl⟩
  rw [hX] at hl
  have HX := hid hX
  obtain ⟨s1, hs1⟩ : ∃ s1 : Cn, { s with left := s.left - 1 } = s1 := ⟨_, rfl⟩
  rw [hs1] at hl
  have e1 : s1.p = s.p := by rw [← hs1]
  have e2 : s1.next = s.next := by rw [← hs1]
  have e3 : s1.left = s.left - 1 := by rw [← hs1]
  have HFF := hid (of_fit hf e1 e2 e3)
  have HP := hid (fun (c : Nat) (e : Ending) (Y : World) (h : NodesPost d ve X s1 c e Y) (hc : c ≤ 9 ∨ (0 < s.left ∧ c ≤ 300)) => of_post hl.2 e1 e2 e3 h hc)
  have A0 := hid (At.start hl.1)
  have HE := hid (hE.grew hl.2)
  have g2 := hl.1.c2
  have g0 := hl.1.c0
  rw [e3] at g2
  obtain ⟨L, hL⟩ : ∃ L : Int, s.left - 1 = L := ⟨_, rfl⟩
  have HLe := hid hL
  rw [hL] at g2
  clear hl hf h hE hX hs1 e1 e2 e3 hL
  go_enter Try.func38, Try.ntmps38
  go_upto_region 2 with fail
  try rw [HW.out]
  rw [HX.out]
  clear c2 f2 HW HX
  have HLF := hid (leaf_nine ty A0.out.1 HFF.out.1 HE.out.know (by have := HE.out.room; omega))
  go_wp2_with fail
  refine HLF.out.mono ?_
  rintro e Xl ⟨vl, nl, sl, tl, rfl, hnl, hll, hgl, hgrl, hspl⟩
  have NL := hid (And.intro hnl (And.intro hll (And.intro hgl (And.intro hgrl hspl))))
  clear hnl hll hgl hgrl hspl
  go_wp2_with fail
  go_ret
  exact HP.out 9 _ _ ⟨vl, nl, sl, tl, rfl, NL.out.1, NL.out.2.1, NL.out.2.2.1, NL.out.2.2.2.1, NL.out.2.2.2.2⟩ (Or.inl (by omega))

theorem of_all {d : Dr} {ve : Value} {es : List Ef} : ∀ D : Nat, D ≤ 90 → OfC d ve es D
  | 0, _ => of_zero
  | D + 1, h => of_step (by omega) (of_all D (by omega)) (fun ty deep v vm ks ms X s h1 h2 hG hF hE => handler_calls ty deep (of_all D (by omega)) h1 h2 (by omega) hG hF hE)
end Go.Proofs.Ytnbmhopoiijhoaa

/- The operations of a drawn program; a reader without a drawer, and with one. -/
namespace Go.Proofs.Ytnbmhopoiijhoaa
open Go.RowKit Go.Deep

/-- The reader with a drawer beside it. -/
def Dr.on (d : Dr) (G : Nat) : Dr := ⟨d.B, G, d.a0, d.len, d.cap⟩

theorem free_on {d : Dr} {W W' : World} {q : Nat} (h : d.free W q) (hs : W.heap.size ≤ W'.heap.size) {G : Nat} (hg : W.heap.size ≤ G) : (d.on G).free W' q :=
  ⟨Nat.lt_of_lt_of_le h.1 hs, h.2.1, by have := h.1; show q ≠ G; omega⟩

theorem free_off {d : Dr} {W : World} {q G : Nat} (hG : d.G = d.B) (h : (d.on G).free W q) : d.free W q := ⟨h.1, h.2.1, by rw [hG]; exact h.2.1⟩

theorem Lies.on {d : Dr} {W W' : World} {v : Value} {n sz G : Nat} {F : Nat → Value} (h : Lies d W v n sz F) (hb : Below W.heap.size W W') (hg : W.heap.size ≤ G) : Lies (d.on G) W' v n sz F := by
  rcases h with h | ⟨b, off, cap, h1, h2, h3, h4, h5⟩
  · exact Or.inl h
  · exact Or.inr ⟨b, off, cap, h1, h2, h3, free_on h4 hb.size hg, fun i hi => (hb.cell (p := ⟨b, off + i, none⟩) h4.1).trans (h5 i hi)⟩

theorem Lies.off {d : Dr} {W : World} {v : Value} {n sz G : Nat} {F : Nat → Value} (hG : d.G = d.B) (h : Lies (d.on G) W v n sz F) : Lies d W v n sz F := by
  rcases h with h | ⟨b, off, cap, h1, h2, h3, h4, h5⟩
  · exact Or.inl h
  · exact Or.inr ⟨b, off, cap, h1, h2, h3, free_off hG h4, h5⟩

theorem Rdr.on {d : Dr} {W W' : World} {p G : Nat} (h : Rdr d W p) (hb : Below W.heap.size W W') (hg : W.heap.size ≤ G) : Rdr (d.on G) W' p := by
  refine ⟨(hb.block _ (heap_lt h.blk)).trans h.blk, fun hl => ?_⟩
  obtain ⟨b, off, ea, hq, hz⟩ := h.bytes hl
  refine ⟨b, off, ea, free_on hq hb.size hg, fun i hi => ?_⟩
  obtain ⟨z, hz, h2⟩ := hz i hi
  exact ⟨z, (hb.cell (p := ⟨b, off + i, none⟩) hq.1).trans hz, h2⟩

theorem Rdr.off {d : Dr} {W : World} {p G : Nat} (hG : d.G = d.B) (h : Rdr (d.on G) W p) : Rdr d W p := by
  refine ⟨h.blk, fun hl => ?_⟩
  obtain ⟨b, off, ea, hq, hz⟩ := h.bytes hl
  exact ⟨b, off, ea, free_off hG hq, hz⟩

theorem Grew.off {d : Dr} {W X Y : World} {G : Nat} (h : Grew d W X) (g : Grew (d.on G) X Y) (hg : W.heap.size ≤ G) : Grew d W Y :=
  ⟨g.os.trans h.os, g.tape.trans h.tape, g.output.trans h.output, Nat.le_trans h.size g.size, fun q hq => (g.block q ⟨Nat.lt_of_lt_of_le hq.1 h.size, hq.2.1, by have := hq.1; show q ≠ G; omega⟩).trans (h.block q hq)⟩

theorem lies_take {α : Type} [Inhabited α] {f : α → Nat → Value} {sz : Nat} {d : Dr} {W : World} {b cap n k : Nat} {l : List α} (h : Lies d W (.slice (some ⟨b, 0, none⟩) n cap) l.length sz (fun i => f (l.getD (i / sz) default) (i % sz))) (hk : k ≤ n) (hn : 0 < n) (hl : l.length = n) : Lies d W (.slice (some ⟨b, 0, none⟩) k cap) (l.take k).length sz (fun i => f ((l.take k).getD (i / sz) default) (i % sz)) := by
  obtain ⟨-, hc, b', off, e, hq, h5⟩ := h.at hn
  cases e
  have hlk : (l.take k).length = k := by rw [List.length_take]; omega
  rw [hlk]
  refine Or.inr ⟨b, 0, cap, rfl, by omega, rfl, hq, fun i hi => ?_⟩
  have hi' : i / sz < k := Nat.div_lt_of_lt_mul (by rw [Nat.mul_comm]; exact hi)
  rw [h5 i (Nat.lt_of_lt_of_le hi (Nat.mul_le_mul_right _ hk))]
  have e : (l.take k).getD (i / sz) default = l.getD (i / sz) default := by simp [List.getD, List.getElem?_take_of_lt hi']
  show _ = some (f ((l.take k).getD (i / sz) default) (i % sz))
  rw [e]

def all4 : List Ef := [⟨⟨#[97, 115, 107]⟩, 3, 1⟩, ⟨⟨#[116, 101, 108, 108]⟩, 1, 3⟩, ⟨⟨#[102, 108, 105, 112]⟩, 3, 2⟩, ⟨⟨#[112, 97, 115, 115]⟩, 4, 1⟩]

theorem all4_brief : ∀ e ∈ all4, Brief e.name := by
  intro e he
  unfold all4 at he
  simp only [List.mem_cons, List.not_mem_nil, or_false] at he
  rcases he with rfl | rfl | rfl | rfl <;> (unfold Brief; decide)

def EffsPost (d : Dr) (W : World) (p : Nat) (e : Ending) (W' : World) : Prop :=
  ∃ v es, e = .returned v ∧ EffsD d W' v es ∧ 1 ≤ es.length ∧ es.length ≤ 4 ∧ Rdr d W' (p + 1) ∧ Grew d W W'

set_option maxHeartbeats 4000000 in
set_option maxRecDepth 100000 in
theorem effs_calls {d : Dr} {W : World} {p : Nat} (hG : d.G = d.B) (h : Rdr d W p) (hp : p ≤ 1000000) : Calls Try.prog 37 #[.pointer (some ⟨d.B, 0, none⟩)] W (EffsPost d W p) := by
  have hB := heap_lt h.blk
  have HL := hid (lies_lit (f := Ef.cell) (sz := 3) (d := d) (by decide) W 88 all4 _ rfl hB (by rw [hG]; exact hB))
  have hbl : Below W.heap.size W (W.alloc (.cells (rowZ Ef.cell 3 all4).toArray 88)) := (Below.refl _ _).alloc (Nat.le_refl _) _
  have HB := hid hbl
  have HP := hid (rdr_pick (h.below hbl) hp 4 (by decide))
  clear hbl h hp
  go_enter Try.func37, Try.ntmps37
  go_wp2_with fail
  refine HP.out.mono ?_
  rintro e X ⟨m, rfl, hm0, hm1, hr, hg, -, -⟩
  have HR := hid (And.intro hr hg)
  have HX := hid (HL.out.grew hg)
  clear hr hg HP HL
  have hcs : m = 0 ∨ m = 1 ∨ m = 2 ∨ m = 3 := by omega
  rcases hcs with rfl | rfl | rfl | rfl
  · go_wp2_with fail
    go_ret
    exact ⟨_, all4.take 1, rfl, ⟨lies_take HX.out (by decide) (by decide) rfl, fun e he => all4_brief e (List.mem_of_mem_take he)⟩, by decide, by decide, HR.out.1, (Grew.of_below HB.out).trans HR.out.2⟩
  · go_wp2_with fail
    go_ret
    exact ⟨_, all4.take 2, rfl, ⟨lies_take HX.out (by decide) (by decide) rfl, fun e he => all4_brief e (List.mem_of_mem_take he)⟩, by decide, by decide, HR.out.1, (Grew.of_below HB.out).trans HR.out.2⟩
  · go_wp2_with fail
    go_ret
    exact ⟨_, all4.take 3, rfl, ⟨lies_take HX.out (by decide) (by decide) rfl, fun e he => all4_brief e (List.mem_of_mem_take he)⟩, by decide, by decide, HR.out.1, (Grew.of_below HB.out).trans HR.out.2⟩
  · go_wp2_with fail
    go_ret
    exact ⟨_, all4.take 4, rfl, ⟨lies_take HX.out (by decide) (by decide) rfl, fun e he => all4_brief e (List.mem_of_mem_take he)⟩, by decide, by decide, HR.out.1, (Grew.of_below HB.out).trans HR.out.2⟩
end Go.Proofs.Ytnbmhopoiijhoaa

/- A drawn program: mostly one that has a type, and always one whose tree is a tree. -/
namespace Go.Proofs.Ytnbmhopoiijhoaa
open Go.RowKit Go.Deep

/-- These nodes are a tree, within the sizes. -/
def Tr (ns : List Nd) : Prop := ∃ (n : Nd) (k : Fo), ns = n :: k.flat ∧ n.kids = k.count ∧ k.wf ∧ ns.length ≤ 300

theorem tr_of_ans {ns : List Nd} (h : SpecAns ns true) : Tr ns := by
  rcases h with ⟨-, h⟩ | ⟨-, -, -, h⟩ | ⟨h1, h2, n, k, e1, e2, e3, -⟩
  · cases h
  · cases h
  · exact ⟨n, k, e1, e2, e3, h2⟩

theorem prog_true {es : List Ef} {ns : List Nd} {T : Bool} (h : progZ es ns T = true) : T = true := by
  unfold progZ at h
  cases T
  · simp at h
  · rfl

def ProgPost (d : Dr) (W : World) (p : Nat) (e : Ending) (W' : World) : Prop :=
  ∃ ad n cp vt es ns p', e = .returned (.agg #[.slice ad n cp, vt]) ∧ EffsD d W' (.slice ad n cp) es ∧ es.length ≤ 4 ∧ NodesD d W' vt ns ∧ Tr ns ∧ Rdr d W' p' ∧ p' ≤ p + 200000 ∧ Grew d W W'

/-- What lies there when the program is drawn. -/
structure Pg (d : Dr) (W X : World) (p p' : Nat) (rb : Nat) : Prop where
  rd : Rdr d X p'
  gr : Grew d W X
  res : X.heap[rb]? = some (.cells #[.slice none 0 0, .slice none 0 0] 55)
  low : W.heap.size ≤ rb

/-- A call, or one that makes something: whichever comes up. -/
theorem pick_either2 {P : Program} {l0 : List Oper} {Q : Exit → Act → World → Prop} {S : World → Prop} {i j n : Nat} {ls : Array Bool} {a : Act} {w : World} (hr : (Region.ready .any l0.toArray ls == [i, j]) = true) (h1 : PickCl P l0 Q S n ls a w i) (h2 : PickMk P l0 Q S n ls a w j) : wpAnyH P .any l0.toArray (NoPanic Q) S (n + 1) ls a w := by
  refine wpAnyH_all (rs := [i, j]) (by simpa using hr) (by simp) (fun k hk => ?_)
  simp only [List.mem_cons, List.not_mem_nil, or_false] at hk
  rcases hk with rfl | rfl
  · exact h1.op
  · exact h2.op

theorem made_bools (n : Nat) (hn : n ≤ 1000) (w : World) : ∃ c : Array Value, c = madeCells #[.bool false] n ∧ (Instr.makeSlice 80 (.int .i64 (n : Int)) (.int .i64 (n : Int))).run Try.prog w = .ok (.slice (some ⟨w.heap.size, 0, none⟩) n n) (w.alloc (.cells c 4)) := by
  obtain ⟨i0, hi, hz0, hz1, hz2⟩ := info_parts info_bool
  have h := run_make (P := Try.prog) w 80 4 i0 _ Try.underlying80 hi hz0 .i64 .i64 n n (by omega) (Int.le_refl _) (by rw [hz2]; omega) (by omega)
  rw [hz1] at h
  simp only [Int.toNat_natCast, Nat.mul_one] at h
  exact ⟨_, rfl, h⟩

theorem bools_made {d : Dr} {X : World} {n : Nat} {c : Array Value} (hc : c = madeCells #[.bool false] n) (h1 : d.B < X.heap.size) (h2 : d.G < X.heap.size) : BoolsD d (X.alloc (.cells c 4)) (.slice (some ⟨X.heap.size, 0, none⟩) n n) (List.replicate n false) := by
  subst hc
  have hh := (MapKept.heap_alloc X (.cells (madeCells #[.bool false] n) 4)).1
  unfold BoolsD
  rw [List.length_replicate]
  refine Or.inr ⟨_, 0, _, rfl, Nat.le_refl _, rfl, ⟨heap_lt hh, by omega, by omega⟩, fun i hi => ?_⟩
  rw [Nat.mul_one] at hi
  rw [Nat.zero_add, cell_of_heap hh i]
  have e : (madeCells #[.bool false] n)[i]? = some (.bool false) := by simp [madeCells, hi, Nat.mod_one]
  rw [e]
  simp [List.getD, hi]

/-- When the tree is drawn and stored. -/
structure Fi (d : Dr) (W : World) (p i rb bp : Nat) (ve vt : Value) (es : List Ef) (ns : List Nd) (Z : World) (q : Nat) : Prop where
  rd : Rdr d Z q
  cost : q ≤ p + 30000 * (i + 1)
  gr : Grew d W Z
  res : Z.heap[rb]? = some (.cells #[.slice none 0 0, .slice none 0 0] 55)
  low : W.heap.size ≤ rb
  box : Z.heap[bp]? = some (.cells #[ve, vt] 55)
  effs : EffsD d Z ve es
  some_ : 1 ≤ es.length
  nodes : NodesD d Z vt ns
  any : 1 ≤ ns.length ∧ ns.length ≤ 100000

theorem Fi.below {d : Dr} {W : World} {p i rb bp : Nat} {ve vt : Value} {es : List Ef} {ns : List Nd} {Z Z' : World} {q : Nat} (h : Fi d W p i rb bp ve vt es ns Z q) (hb : Below Z.heap.size Z Z') : Fi d W p i rb bp ve vt es ns Z' q :=
  ⟨h.rd.below hb, h.cost, h.gr.trans (Grew.of_below hb), (hb.block _ (heap_lt h.res)).trans h.res, h.low, (hb.block _ (heap_lt h.box)).trans h.box, h.effs.grew (Grew.of_below hb), h.some_, h.nodes.grew (Grew.of_below hb), h.any⟩

theorem Fi.lies {d : Dr} {W : World} {p i rb bp : Nat} {ve vt : Value} {es : List Ef} {ns : List Nd} {Z : World} {q : Nat} (h : Fi d W p i rb bp ve vt es ns Z q) :
    ∃ be ce bt ct, ve = .slice (some ⟨be, 0, none⟩) es.length ce ∧ vt = .slice (some ⟨bt, 0, none⟩) ns.length ct ∧ be < Z.heap.size ∧ bt < Z.heap.size ∧ EffsAt Z be 0 es ∧ NodesAt Z bt 0 ns ∧ ns.length ≤ 1048576 := by
  have h1 := h.some_
  have h2 := h.any
  obtain ⟨⟨-, h0⟩ | ⟨be, off, ce, e1, -, rfl, hq, hc⟩, -⟩ := h.effs
  · omega
  obtain ⟨⟨-, h0⟩ | ⟨bt, off, ct, e2, -, rfl, hq', hc'⟩, -⟩ := h.nodes
  · omega
  refine ⟨be, ce, bt, ct, e1, e2, hq.1, hq'.1, fun k hk c hc2 => ?_, fun k hk c hc2 => ?_, by omega⟩
  · rw [Nat.add_assoc, hc (k * 3 + c) (by omega)]
    exact congrArg some (cell_div es Ef.cell 3 k c hc2)
  · rw [Nat.add_assoc, hc' (k * 6 + c) (by omega)]
    exact congrArg some (cell_div ns Nd.cell 6 k c hc2)

/-- What lies in a block of a program is neither names nor numbers. -/
theorem lies_not {d : Dr} {W : World} {v : Value} {n sz : Nat} {F : Nat → Value} {bp : Nat} {u0 u1 : Value} {t : TypeId} (h : Lies d W v n sz F) (hn : 0 < n * sz) (hb : W.heap[bp]? = some (.cells #[u0, u1] t)) (hne : F 0 ≠ u0) {X : World} (hX : ∀ q, q ≠ bp → X.heap[q]? = W.heap[q]?) (hs : X.heap.size = W.heap.size) : Lies d X v n sz F := by
  rcases h with h | ⟨b, off, cap, h1, h2, rfl, h4, h5⟩
  · exact Or.inl h
  · refine Or.inr ⟨b, 0, cap, h1, h2, rfl, ⟨by rw [hs]; exact h4.1, h4.2⟩, fun i hi => ?_⟩
    have hbb : b ≠ bp := fun e => by
      subst e
      have e1 := h5 0 hn
      rw [Nat.zero_add, cell_of_heap hb 0] at e1
      simp at e1
      exact hne e1.symm
    exact (World.cell?_of_block (a := ⟨b, 0 + i, none⟩) (hX b hbb)).trans (h5 i hi)

theorem rdr_not {d : Dr} {W : World} {p bp : Nat} {a1 c1 a2 c2 : Option Addr × Nat × Nat} {u0 u1 : Value} (hu0 : u0 = .slice a1.1 a1.2.1 a1.2.2) (hu1 : u1 = .slice a2.1 a2.2.1 a2.2.2) (h : Rdr d W p) (hb : W.heap[bp]? = some (.cells #[u0, u1] 55)) {X : World} (hX : ∀ q, q ≠ bp → X.heap[q]? = W.heap[q]?) (hs : X.heap.size = W.heap.size) (_ : c1 = c2) : Rdr d X p := by
  subst hu0
  subst hu1
  have hne : d.B ≠ bp := fun e => by
    have := h.blk
    rw [e, hb] at this
    simp at this
  refine ⟨(hX _ hne).trans h.blk, fun hl => ?_⟩
  obtain ⟨b, off, ea, hq, hz⟩ := h.bytes hl
  have hbb : b ≠ bp := fun e => by
    subst e
    obtain ⟨z, hz, -⟩ := hz 0 hl
    rw [cell_of_heap hb] at hz
    match off, hz with
    | 0, hz => simp at hz
    | 1, hz => simp at hz
    | _ + 2, hz => simp at hz
  refine ⟨b, off, ea, ⟨by rw [hs]; exact hq.1, hq.2⟩, fun i hi => ?_⟩
  obtain ⟨z, hz, h2⟩ := hz i hi
  exact ⟨z, (World.cell?_of_block (a := ⟨b, off + i, none⟩) (hX b hbb)).trans hz, h2⟩

theorem prog_rest {d : Dr} {W Y X1 X2 X4 X : World} {p p' i rb : Nat} {ade : Option Addr} {cpe : Nat} {es : List Ef} {s s' : Cn} {t0 t' c : Nat} {adt : Option Addr} {cpt : Nat} {ns : List Nd} (hG : d.G = d.B) (hP : Pg d W Y p p' rb) (hc : p' ≤ p + 30000 * i) (hg1 : Grew d Y X1) (hg2 : Grew d X1 X2) (he : EffsD d X1 (.slice ade es.length cpe) es) (h1 : 1 ≤ es.length) (hb24 : Below X2.heap.size X2 X4) (hs : s.p = p' + 1 + 1) (hleft : s.left ≤ 89) (hcC : c ≤ 20)
    (ha : At (d.on X2.heap.size) (.slice ade es.length cpe) X4 s X s' (t0 + t') c) (hb : X.heap[X2.heap.size + 1]? = some (.cells #[.slice ade es.length cpe, .slice none 0 0] 55)) (hn : NodesD (d.on X2.heap.size) X (.slice adt ns.length cpt) ns) (hl : 1 ≤ ns.length ∧ ns.length ≤ t') :
    Fi d W p i rb (X2.heap.size + 1) (.slice ade es.length cpe) (.slice adt ns.length cpt) es ns (X.setCell ⟨X2.heap.size + 1, 1, none⟩ (.slice adt ns.length cpt)) s'.p := by
  have hX : ∀ q, q ≠ X2.heap.size + 1 → (X.setCell ⟨X2.heap.size + 1, 1, none⟩ (.slice adt ns.length cpt)).heap[q]? = X.heap[q]? := fun q hq => Below.heap_setCell X ⟨X2.heap.size + 1, 1, none⟩ _ q hq
  have hs' : (X.setCell ⟨X2.heap.size + 1, 1, none⟩ (.slice adt ns.length cpt)).heap.size = X.heap.size := by simp [World.setCell]
  have hYX : Grew d Y X2 := hg1.trans hg2
  have hlow := hP.low
  have hrb := heap_lt hP.res
  have hYs := hYX.size
  have hWX : Grew d W X := ((hP.gr.trans hYX).trans (Grew.of_below hb24)).off ha.2.1 (by have := hP.gr.size; omega)
  have hsp := ha.2.2
  unfold Spent at hsp
  have hrbB : rb ≠ d.B := fun e => by
    have := hP.rd.blk
    rw [← e, hP.res] at this
    simp at this
  have hrX : X.heap[rb]? = some (.cells #[.slice none 0 0, .slice none 0 0] 55) := by
    rw [ha.2.1.block rb ⟨by have := hb24.size; omega, hrbB, by show rb ≠ X2.heap.size; omega⟩, hb24.block rb (by omega), hYX.block rb ⟨hrb, hrbB, by rw [hG]; exact hrbB⟩]
    exact hP.res
  refine ⟨rdr_not (a1 := (ade, es.length, cpe)) (a2 := (none, 0, 0)) (c1 := (none, 0, 0)) rfl rfl (ha.1.rd.off hG) hb hX hs' rfl, by omega, ⟨hWX.os, hWX.tape, hWX.output, by rw [hs']; exact hWX.size, fun q hq => (hX q (by have := hq.1; have := hP.gr.size; omega)).trans (hWX.block q hq)⟩, (hX rb (by omega)).trans hrX, hlow, set_heap hb, ?_, h1, ?_, by omega⟩
  · refine ⟨lies_not ((he.1.grew hg2).on hb24 (Nat.le_refl _) |>.grew ha.2.1 |>.off hG) (by omega) hb (fun e => ?_) hX hs', he.2⟩
    simp only [Nat.zero_div, Nat.zero_mod] at e
    cases e
  · refine ⟨lies_not (hn.1.off hG) (by omega) hb (fun e => ?_) hX hs', hn.2⟩
    simp only [Nat.zero_div, Nat.zero_mod] at e
    cases e

/-- The program is stored where it is told. -/
theorem Fi.stored {d : Dr} {W : World} {p i rb bp : Nat} {ve vt : Value} {es : List Ef} {ns : List Nd} {Z : World} {q : Nat} (h : Fi d W p i rb bp ve vt es ns Z q) (u0 u1 : Value) :
    EffsD d ((Z.setCell ⟨rb, 0, none⟩ u0).setCell ⟨rb, 1, none⟩ u1) ve es ∧ NodesD d ((Z.setCell ⟨rb, 0, none⟩ u0).setCell ⟨rb, 1, none⟩ u1) vt ns ∧ Rdr d ((Z.setCell ⟨rb, 0, none⟩ u0).setCell ⟨rb, 1, none⟩ u1) q ∧ Grew d W ((Z.setCell ⟨rb, 0, none⟩ u0).setCell ⟨rb, 1, none⟩ u1) := by
  have hX : ∀ k, k ≠ rb → ((Z.setCell ⟨rb, 0, none⟩ u0).setCell ⟨rb, 1, none⟩ u1).heap[k]? = Z.heap[k]? := fun k hk => (Below.heap_setCell _ ⟨rb, 1, none⟩ _ k hk).trans (Below.heap_setCell Z ⟨rb, 0, none⟩ _ k hk)
  have hs' : ((Z.setCell ⟨rb, 0, none⟩ u0).setCell ⟨rb, 1, none⟩ u1).heap.size = Z.heap.size := by simp [World.setCell]
  have h1 := h.some_
  have h2 := h.any
  have hlow := h.low
  refine ⟨⟨lies_not h.effs.1 (by omega) h.res (fun e => ?_) hX hs', h.effs.2⟩, ⟨lies_not h.nodes.1 (by omega) h.res (fun e => ?_) hX hs', h.nodes.2⟩, rdr_not (a1 := (none, 0, 0)) (a2 := (none, 0, 0)) (c1 := (none, 0, 0)) rfl rfl h.rd h.res hX hs' rfl, ⟨h.gr.os, h.gr.tape, h.gr.output, by rw [hs']; exact h.gr.size, fun k hk => (hX k (by have := hk.1; omega)).trans (h.gr.block k hk)⟩⟩
  · simp only [Nat.zero_div, Nat.zero_mod] at e
    cases e
  · simp only [Nat.zero_div, Nat.zero_mod] at e
    cases e

/-- The last resort is stored where it is told. -/
theorem fall_back {d : Dr} {W Y Z : World} {p p' rb : Nat} {v : Value} {n : Nd} (hP : Pg d W Y p p' rb) (hb : Below Y.heap.size Y Z) (hn : NodesD d Z v [n]) (u0 u1 : Value) :
    NodesD d ((Z.setCell ⟨rb, 0, none⟩ u0).setCell ⟨rb, 1, none⟩ u1) v [n] ∧ Rdr d ((Z.setCell ⟨rb, 0, none⟩ u0).setCell ⟨rb, 1, none⟩ u1) p' ∧ Grew d W ((Z.setCell ⟨rb, 0, none⟩ u0).setCell ⟨rb, 1, none⟩ u1) := by
  have hX : ∀ k, k ≠ rb → ((Z.setCell ⟨rb, 0, none⟩ u0).setCell ⟨rb, 1, none⟩ u1).heap[k]? = Z.heap[k]? := fun k hk => (Below.heap_setCell _ ⟨rb, 1, none⟩ _ k hk).trans (Below.heap_setCell Z ⟨rb, 0, none⟩ _ k hk)
  have hs' : ((Z.setCell ⟨rb, 0, none⟩ u0).setCell ⟨rb, 1, none⟩ u1).heap.size = Z.heap.size := by simp [World.setCell]
  have hres := (hb.block _ (heap_lt hP.res)).trans hP.res
  have hlow := hP.low
  have hg := hP.gr.trans (Grew.of_below hb)
  refine ⟨⟨lies_not hn.1 (by simp) hres (fun e => ?_) hX hs', hn.2⟩, rdr_not (a1 := (none, 0, 0)) (a2 := (none, 0, 0)) (c1 := (none, 0, 0)) rfl rfl (hP.rd.below hb) hres hX hs' rfl, ⟨hg.os, hg.tape, hg.output, by rw [hs']; exact hg.size, fun k hk => (hX k (by have := hk.1; omega)).trans (hg.block k hk)⟩⟩
  simp only [Nat.zero_div, Nat.zero_mod] at e
  cases e

set_option maxHeartbeats 8000000 in
set_option maxRecDepth 100000 in
theorem prog_calls {d : Dr} {W : World} {p : Nat} (hG : d.G = d.B) (h : Rdr d W p) (hp : p ≤ 500000) : Calls Try.prog 24 #[.pointer (some ⟨d.B, 0, none⟩)] W (ProgPost d W p) := by
  have hB := heap_lt h.blk
  have HG := hid hG
  have HPl := hid hp
  have P0 : Hid (Pg d W (W.alloc (.cells #[.slice none 0 0, .slice none 0 0] 55)) p p W.heap.size) := ⟨h.below ((Below.refl _ _).alloc (Nat.le_refl _) _), (Grew.refl d W).alloc _, (MapKept.heap_alloc W _).1, Nat.le_refl _⟩
  clear hG h hp
  go_enter Try.func24, Try.ntmps24
  go_wp2_with fail
  obtain ⟨rb, hrb⟩ : ∃ rb, W.heap.size = rb := ⟨_, rfl⟩
  have HRb := hid hrb
  rw [hrb] at P0 ⊢
  clear hrb
  go_loopw [3] (fun i wr => ∃ (i' p' : Nat), i = .int .i64 i' ∧ i' ≤ 6 ∧ Hid (Pg d W wr p p' rb ∧ p' ≤ p + 30000 * i')) (fun i _ => 6 - (intOf i).toNat)
  case atStart => exact ⟨0, p, rfl, Nat.zero_le _, P0.out, by omega⟩
  case round =>
    obtain ⟨i', p', rfl, hle, HP⟩ := hrel
    rename World => Y
    by_cases hi : (i' : Int) < 6
    · have hstep : 6 - (intOf (.int .i64 ((i' + 1 : Nat) : Int))).toNat < 6 - (intOf (.int .i64 (i' : Int))).toNat := by simp [intOf]; omega
      have HE0 := hid (effs_calls HG.out HP.out.1.rd (by have := HP.out.2; have := HPl.out; omega))
      go_wp2_with fail
      refine HE0.out.mono ?_
      rintro e X1 ⟨ve, es, rfl, hes, hes1, hes4, hr1, hg1⟩
      obtain ⟨ade, cpe, rfl⟩ := hes.is
      have E1 := hid (And.intro hes (And.intro hes1 hes4))
      have R1 := hid (And.intro hr1 hg1)
      clear hes hes1 hes4 hr1 hg1 HE0
      go_wp2_with fail
      refine (rdr_pick R1.out.1 (by have := HP.out.2; have := HPl.out; omega) 60 (by decide)).mono ?_
      rintro e X2 ⟨m2, rfl, hm0, hm1, hr2, hg2, -, -⟩
      have R2 := hid (And.intro hr2 hg2)
      clear hr2 hg2
      go_upto_region 6 with fail
      have hB2 : Below X2.heap.size X2 ((X2.alloc (.cells #[.pointer (some ⟨d.B, 0, none⟩), .slice ade es.length cpe, .int .i64 (30 + m2), .int .i64 0] 78)).alloc (.cells #[.slice ade es.length cpe, .slice none 0 0] 55)) := ((Below.refl _ _).alloc (Nat.le_refl _) _).alloc (by simp) _
      have hG2 := (MapKept.heap_alloc X2 (.cells #[.pointer (some ⟨d.B, 0, none⟩), .slice ade es.length cpe, .int .i64 (30 + m2), .int .i64 0] 78)).1
      have hb3 : Below (X2.alloc (.cells #[.pointer (some ⟨d.B, 0, none⟩), .slice ade es.length cpe, .int .i64 (30 + m2), .int .i64 0] 78)).heap.size (X2.alloc (.cells #[.pointer (some ⟨d.B, 0, none⟩), .slice ade es.length cpe, .int .i64 (30 + m2), .int .i64 0] 78)) ((X2.alloc (.cells #[.pointer (some ⟨d.B, 0, none⟩), .slice ade es.length cpe, .int .i64 (30 + m2), .int .i64 0] 78)).alloc (.cells #[.slice ade es.length cpe, .slice none 0 0] 55)) := (Below.refl _ _).alloc (Nat.le_refl _) _
      have hG4 := (hb3.block X2.heap.size (by simp)).trans hG2
      have hP4 := (MapKept.heap_alloc (X2.alloc (.cells #[.pointer (some ⟨d.B, 0, none⟩), .slice ade es.length cpe, .int .i64 (30 + m2), .int .i64 0] 78)) (.cells #[.slice ade es.length cpe, .slice none 0 0] 55)).1
      rw [show (X2.alloc (.cells #[.pointer (some ⟨d.B, 0, none⟩), .slice ade es.length cpe, .int .i64 (30 + m2), .int .i64 0] 78)).heap.size = X2.heap.size + 1 by simp] at hP4
      clear hb3 hG2
      generalize (X2.alloc (.cells #[.pointer (some ⟨d.B, 0, none⟩), .slice ade es.length cpe, .int .i64 (30 + m2), .int .i64 0] 78)).alloc (.cells #[.slice ade es.length cpe, .slice none 0 0] 55) = X4 at *
      have HB2 := hid hB2
      have A0 : Hid (At (d.on X2.heap.size) (.slice ade es.length cpe) X4 ⟨p' + 1 + 1, 30 + m2, 0⟩ X4 ⟨p' + 1 + 1, 30 + m2, 0⟩ 0 0) := At.start ⟨R2.out.1.on HB2.out (Nat.le_refl _), hG4, by have := heap_lt R2.out.1.blk; show d.B ≠ X2.heap.size; omega⟩
      have EF : Hid (EffsD (d.on X2.heap.size) X4 (.slice ade es.length cpe) es) := ⟨(E1.out.1.1.grew R2.out.2).on HB2.out (Nat.le_refl _), E1.out.1.2⟩
      have HF : Hid (Fit ⟨p' + 1 + 1, 30 + m2, 0⟩ 20) := by
        have := HP.out.2
        have := HPl.out
        unfold Hid Fit
        dsimp only
        omega
      have BP := hid hP4
      have HQp : Hid ((d.on X2.heap.size).free X4 (X2.heap.size + 1)) := ⟨heap_lt hP4, by have := heap_lt R2.out.1.blk; show X2.heap.size + 1 ≠ d.B; omega, by show X2.heap.size + 1 ≠ X2.heap.size; omega⟩
      clear hB2 hG4 hP4
      refine pick_begin (S := fun w' => w'.cell? ⟨X2.heap.size, 1, none⟩ = some (.slice ade es.length cpe)) (by kernel_rfl) rfl rfl ?_
      have A1 := hid A0.out.drew
      have G1 := hid (Grew.refl (d.on X2.heap.size) X4).drew
      generalize X4.drew = X11 at *
      refine pick_op (i := 0) (v := .pointer (some ⟨X2.heap.size, 0, none⟩)) (by kernel_rfl) rfl (by kernel_rfl) (by kernel_rfl) rfl rfl (fun w' hw => by simp [go_sem]) (A1.out.1.c1) (by simp [go_sem]; exact rfl) ?_
      refine pick_op (i := 1) (v := .pointer (some ⟨d.B, 0, none⟩)) (by kernel_rfl) rfl (by kernel_rfl) (by kernel_rfl) rfl rfl (fun w' hw => by simp [go_sem]) (A1.out.1.c1) (by simp [go_sem]; exact rfl) ?_
      refine pick_op (i := 4) (v := .pointer (some ⟨X2.heap.size, 0, none⟩)) (by kernel_rfl) rfl (by kernel_rfl) (by kernel_rfl) rfl rfl (fun w' hw => by simp [go_sem]) (A1.out.1.c1) (by simp [go_sem]; exact rfl) ?_
      refine pick_op (i := 5) (v := .pointer (some ⟨X2.heap.size, 0, none⟩)) (by kernel_rfl) rfl (by kernel_rfl) (by kernel_rfl) rfl rfl (fun w' hw => by simp [go_sem]) (A1.out.1.c1) (by simp [go_sem]; exact rfl) ?_
      refine pick_op (i := 6) (v := .pointer (some ⟨X2.heap.size, 1, none⟩)) (by kernel_rfl) rfl (by kernel_rfl) (by kernel_rfl) rfl rfl (fun w' hw => by simp [go_sem]) (A1.out.1.c1) (by simp [go_sem]; exact rfl) ?_
      refine pick_op (i := 7) (v := .slice ade es.length cpe) (by kernel_rfl) rfl (by kernel_rfl) (by kernel_rfl) rfl rfl (fun w' hw => by simp [go_sem, hw]) (A1.out.1.c1) (by simp [go_sem]; exact rfl) ?_
      refine pick_op (i := 8) (v := .int .i64 (es.length : Int)) (by kernel_rfl) rfl (by kernel_rfl) (by kernel_rfl) rfl rfl (fun w' hw => by simp [go_sem]) (A1.out.1.c1) (by simp [go_sem]; exact rfl) ?_
      refine pick_op (i := 10) (v := .pointer (some ⟨d.B, 0, none⟩)) (by kernel_rfl) rfl (by kernel_rfl) (by kernel_rfl) rfl rfl (fun w' hw => by simp [go_sem]) (A1.out.1.c1) (by simp [go_sem]; exact rfl) ?_
      refine pick_either2 (i := 2) (j := 9) (by kernel_rfl) ?_ ?_
      · refine ⟨_, 13, #[.pointer (some ⟨d.B, 0, none⟩), .int .i64 5], rfl, rfl, by simp [go_sem], ?_⟩
        refine (A1.out.pick HF.out (by omega) 5 (by decide)).mono ?_
        rintro e X21 ⟨m21, s21, rfl, hm21, hM21, ha, hg⟩
        have A21 := hid ha
        have G21 := hid hg
        clear ha hg
        refine ⟨_, rfl, (A21.out.1.c1), ?_⟩
        refine pick_frame (by simp [go_sem]; exact rfl) ?_
        have hwr21 : IntKind.i64.wrap (1 + m21) = 1 + m21 := by rw [IntKind.wrap_i64]; omega
        refine pick_op (i := 3) (v := .int .i64 (1 + m21)) (by kernel_rfl) rfl (by kernel_rfl) (by kernel_rfl) rfl rfl (fun w' hw => by simp [go_sem, hwr21]) (A21.out.1.c1) (by simp [go_sem]; exact rfl) ?_
        clear hwr21
        refine pick_either (i := 9) (j := 11) (by kernel_rfl) ?_ ?_
        · obtain ⟨cb, hcb, hmk⟩ := made_bools es.length (by have := E1.out.2.2; omega) X21
          have MB : Hid (BoolsD (d.on X2.heap.size) (X21.alloc (.cells cb 4)) (.slice (some ⟨X21.heap.size, 0, none⟩) es.length es.length) (List.replicate es.length false)) := bools_made hcb A21.out.1.ltB A21.out.1.ltG
          have A22 := hid (A21.out.alloc (.cells cb 4))
          have G22 := hid ((Grew.refl (d.on X2.heap.size) X21).alloc (.cells cb 4))
          refine ⟨_, .slice (some ⟨X21.heap.size, 0, none⟩) es.length es.length, X21.alloc (.cells cb 4), rfl, rfl, by simp [go_sem, hmk], (A22.out.1.c1), ?_⟩
          refine pick_frame (by simp [go_sem]; exact rfl) ?_
          clear hmk
          obtain ⟨qb, hqb⟩ : ∃ q, X21.heap.size = q := ⟨_, rfl⟩
          generalize X21.alloc (.cells cb 4) = X22 at *
          rw [hqb] at MB ⊢
          clear hqb hcb
          refine pick_enter (i := 11) (f := 13) (args := #[.pointer (some ⟨d.B, 0, none⟩), .int .i64 6]) rfl (by kernel_rfl) rfl rfl (by simp [go_sem]) ?_
          refine (A22.out.pick HF.out (by omega) 6 (by decide)).mono ?_
          rintro e X23 ⟨m23, s23, rfl, hm23, hM23, ha, hg⟩
          have A23 := hid ha
          have G23 := hid hg
          clear ha hg
          refine ⟨_, rfl, (A23.out.1.c1), ?_⟩
          refine pick_frame (by simp [go_sem]; exact rfl) ?_
          have hwr23 : IntKind.i64.wrap (4 + m23) = 4 + m23 := by rw [IntKind.wrap_i64]; omega
          refine pick_op (i := 12) (v := .int .i64 (4 + m23)) (by kernel_rfl) rfl (by kernel_rfl) (by kernel_rfl) rfl rfl (fun w' hw => by simp [go_sem, hwr23]) (A23.out.1.c1) (by simp [go_sem]; exact rfl) ?_
          clear hwr23
          refine pick_enter (i := 13) (f := 38) (args := #[.pointer (some ⟨X2.heap.size, 0, none⟩), .int .i64 (1 + m21), .slice none 0 0, .slice (some ⟨qb, 0, none⟩) es.length es.length, .int .i64 (4 + m23)]) rfl (by kernel_rfl) rfl rfl (by simp [go_sem]) ?_
          refine (A23.out.nodes (of_all 12 (by omega) (4 + m23) (1 + m21) (.slice none 0 0) _ [] (List.replicate es.length false) _ _ (by omega) (by omega) (A23.out.fit HF.out 10 (by omega)) A23.out.1 ⟨⟨Or.inl ⟨rfl, rfl⟩, fun k hk => by simp at hk⟩, (MB.out.grew G23.out), by simp, (EF.out.grew (G1.out.trans (G21.out.trans (G22.out.trans G23.out)))), by simp, E1.out.2.2⟩)).mono ?_
          rintro e X24 ⟨v24, n24, s24, t24, rfl, hn24, hl24, ha, hg⟩
          have A24 := hid ha
          have G24 := hid hg
          clear ha hg
          have N24 := hid (And.intro hn24 hl24)
          obtain ⟨ad24, cp24, rfl⟩ := hn24.is
          clear hn24 hl24
          refine ⟨_, rfl, (A24.out.1.c1), ?_⟩
          refine pick_frame (by simp [go_sem]; exact rfl) ?_
          refine pick_op (i := 14) (v := .pointer (some ⟨X2.heap.size + 1, 1, none⟩)) (by kernel_rfl) rfl (by kernel_rfl) (by kernel_rfl) rfl rfl (fun w' hw => by simp [go_sem]) (A24.out.1.c1) (by simp [go_sem]; exact rfl) ?_
          have BP2 := hid (((G1.out.trans (G21.out.trans (G22.out.trans (G23.out.trans G24.out)))).block _ HQp.out).trans BP.out)
          have cb0 := cell_of_heap BP2.out 1
          have fb0 := frozen_of_heap BP2.out 1
          have cb1 : X24.cell? ⟨X2.heap.size + 1, 1, none⟩ = some (.slice none 0 0) := cb0
          have CG := A24.out.1.c1
          refine pick_skip (i := 15) (w1 := X24.setCell ⟨X2.heap.size + 1, 1, none⟩ (.slice ad24 n24.length cp24)) rfl rfl (by kernel_rfl) rfl rfl (by simp [go_sem, cb1, fb0]) ?_ ?_
          · exact (World.cell?_setCell_other _ _ _ _ (fun h => by have := congrArg Addr.block h; dsimp only at this; omega)).trans CG
          refine pick_end (by kernel_rfl) ?_
          have FIN := hid (prog_rest HG.out HP.out.1 HP.out.2 R1.out.2 R2.out.2 E1.out.1 E1.out.2.1 HB2.out rfl (by show 30 + m2 ≤ 89; omega) (by omega) A24.out BP2.out N24.out.1 N24.out.2)
          clear cb0 fb0 cb1 CG
          generalize X24.setCell ⟨X2.heap.size + 1, 1, none⟩ (.slice ad24 n24.length cp24) = Z at *
          have cz0 := cell_of_heap FIN.out.box 0
          have cz1 := cell_of_heap FIN.out.box 1
          have cz0' : Z.cell? ⟨X2.heap.size + 1, 0, none⟩ = some (.slice ade es.length cpe) := cz0
          have cz1' : Z.cell? ⟨X2.heap.size + 1, 1, none⟩ = some (.slice ad24 n24.length cp24) := cz1
          clear cz0 cz1
          obtain ⟨R, hR, -⟩ := answers n24
          have hcap : es.length ≤ cpe := by rcases FIN.out.effs.1 with ⟨h, h0⟩ | ⟨_, _, _, h, h0, -⟩; have := E1.out.2.1; omega; cases h; exact h0
          obtain ⟨be, ce, bt, ct, heE, heT, hbe, hbt, hEA, hNA, hl5⟩ := FIN.out.lies
          simp only [Value.slice.injEq] at heE heT
          obtain ⟨rfl, -, rfl⟩ := heE
          obtain ⟨rfl, -, rfl⟩ := heT
          have HPK := hid (specProgC_calls be bt cpe cp24 es n24 R Z hcap hbe hbt hEA hNA (by have := E1.out.2.2; omega) hl5 (fun w' hb hn => specTree_calls bt 0 cp24 n24 w' R hl5 hb hn hR))
          have HR := hid hR
          clear hbe hbt hEA hNA hl5 hR
          go_wp2_with fail
          refine HPK.out.mono ?_
          rintro e Z2 ⟨rfl, hbz⟩
          have FZ := hid (FIN.out.below hbz)
          clear hbz HPK
          cases hpz : progZ es n24 R with
          | false =>
            go_wp2_with fail
            try rw [wrap_succ (by omega)]
            exact ⟨⟨i' + 1, _, rfl, by omega, ⟨FZ.out.rd, FZ.out.gr, FZ.out.res, FZ.out.low⟩, FZ.out.cost⟩, hstep⟩
          | true =>
            have HT := hid (tr_of_ans (ns := n24) (by have h := prog_true hpz; have := HR.out; rwa [h] at this))
            have rz0 := cell_of_heap FZ.out.res 0
            have rz1 := cell_of_heap FZ.out.res 1
            have rz0' : Z2.cell? ⟨rb, 0, none⟩ = some (.slice none 0 0) := rz0
            have rz1' : Z2.cell? ⟨rb, 1, none⟩ = some (.slice none 0 0) := rz1
            have fz0 := frozen_of_heap FZ.out.res 0
            have fz1 := frozen_of_heap FZ.out.res 1
            have qz0 := cell_of_heap FZ.out.box 0
            have qz1 := cell_of_heap FZ.out.box 1
            have qz0' : Z2.cell? ⟨X2.heap.size + 1, 0, none⟩ = some (.slice (some ⟨be, 0, none⟩) es.length cpe) := qz0
            have qz1' : Z2.cell? ⟨X2.heap.size + 1, 1, none⟩ = some (.slice (some ⟨bt, 0, none⟩) n24.length cp24) := qz1
            clear rz0 rz1 qz0 qz1
            go_wp2_with fail
            have HFi := hid (FZ.out.stored (.slice (some ⟨be, 0, none⟩) es.length cpe) (.slice (some ⟨bt, 0, none⟩) n24.length cp24))
            refine bodyPost_ret (v := .agg #[.slice (some ⟨be, 0, none⟩) es.length cpe, .slice (some ⟨bt, 0, none⟩) n24.length cp24]) ?_ rfl ?_
            · simp [results, Try.results24, go_sem, rz0', rz1']
            · exact ⟨_, _, _, _, es, n24, _, rfl, HFi.out.1, E1.out.2.2, HFi.out.2.1, HT.out, HFi.out.2.2.1, by have := FZ.out.cost; have := HPl.out; omega, HFi.out.2.2.2⟩
        · refine ⟨_, 13, #[.pointer (some ⟨d.B, 0, none⟩), .int .i64 6], rfl, rfl, by simp [go_sem], ?_⟩
          refine (A21.out.pick HF.out (by omega) 6 (by decide)).mono ?_
          rintro e X22 ⟨m22, s22, rfl, hm22, hM22, ha, hg⟩
          have A22 := hid ha
          have G22 := hid hg
          clear ha hg
          refine ⟨_, rfl, (A22.out.1.c1), ?_⟩
          refine pick_frame (by simp [go_sem]; exact rfl) ?_
          have hwr22 : IntKind.i64.wrap (4 + m22) = 4 + m22 := by rw [IntKind.wrap_i64]; omega
          refine pick_op (i := 12) (v := .int .i64 (4 + m22)) (by kernel_rfl) rfl (by kernel_rfl) (by kernel_rfl) rfl rfl (fun w' hw => by simp [go_sem, hwr22]) (A22.out.1.c1) (by simp [go_sem]; exact rfl) ?_
          clear hwr22
          obtain ⟨cb, hcb, hmk⟩ := made_bools es.length (by have := E1.out.2.2; omega) X22
          have MB : Hid (BoolsD (d.on X2.heap.size) (X22.alloc (.cells cb 4)) (.slice (some ⟨X22.heap.size, 0, none⟩) es.length es.length) (List.replicate es.length false)) := bools_made hcb A22.out.1.ltB A22.out.1.ltG
          have A23 := hid (A22.out.alloc (.cells cb 4))
          have G23 := hid ((Grew.refl (d.on X2.heap.size) X22).alloc (.cells cb 4))
          refine pick_make (i := 9) (v := .slice (some ⟨X22.heap.size, 0, none⟩) es.length es.length) (w1 := X22.alloc (.cells cb 4)) rfl (by kernel_rfl) rfl rfl (by simp [go_sem, hmk]) (A23.out.1.c1) (by simp [go_sem]; exact rfl) ?_
          clear hmk
          obtain ⟨qb, hqb⟩ : ∃ q, X22.heap.size = q := ⟨_, rfl⟩
          generalize X22.alloc (.cells cb 4) = X23 at *
          rw [hqb] at MB ⊢
          clear hqb hcb
          refine pick_enter (i := 13) (f := 38) (args := #[.pointer (some ⟨X2.heap.size, 0, none⟩), .int .i64 (1 + m21), .slice none 0 0, .slice (some ⟨qb, 0, none⟩) es.length es.length, .int .i64 (4 + m22)]) rfl (by kernel_rfl) rfl rfl (by simp [go_sem]) ?_
          refine (A23.out.nodes (of_all 12 (by omega) (4 + m22) (1 + m21) (.slice none 0 0) _ [] (List.replicate es.length false) _ _ (by omega) (by omega) (A23.out.fit HF.out 10 (by omega)) A23.out.1 ⟨⟨Or.inl ⟨rfl, rfl⟩, fun k hk => by simp at hk⟩, MB.out, by simp, (EF.out.grew (G1.out.trans (G21.out.trans (G22.out.trans G23.out)))), by simp, E1.out.2.2⟩)).mono ?_
          rintro e X24 ⟨v24, n24, s24, t24, rfl, hn24, hl24, ha, hg⟩
          have A24 := hid ha
          have G24 := hid hg
          clear ha hg
          have N24 := hid (And.intro hn24 hl24)
          obtain ⟨ad24, cp24, rfl⟩ := hn24.is
          clear hn24 hl24
          refine ⟨_, rfl, (A24.out.1.c1), ?_⟩
          refine pick_frame (by simp [go_sem]; exact rfl) ?_
          refine pick_op (i := 14) (v := .pointer (some ⟨X2.heap.size + 1, 1, none⟩)) (by kernel_rfl) rfl (by kernel_rfl) (by kernel_rfl) rfl rfl (fun w' hw => by simp [go_sem]) (A24.out.1.c1) (by simp [go_sem]; exact rfl) ?_
          have BP2 := hid (((G1.out.trans (G21.out.trans (G22.out.trans (G23.out.trans G24.out)))).block _ HQp.out).trans BP.out)
          have cb0 := cell_of_heap BP2.out 1
          have fb0 := frozen_of_heap BP2.out 1
          have cb1 : X24.cell? ⟨X2.heap.size + 1, 1, none⟩ = some (.slice none 0 0) := cb0
          have CG := A24.out.1.c1
          refine pick_skip (i := 15) (w1 := X24.setCell ⟨X2.heap.size + 1, 1, none⟩ (.slice ad24 n24.length cp24)) rfl rfl (by kernel_rfl) rfl rfl (by simp [go_sem, cb1, fb0]) ?_ ?_
          · exact (World.cell?_setCell_other _ _ _ _ (fun h => by have := congrArg Addr.block h; dsimp only at this; omega)).trans CG
          refine pick_end (by kernel_rfl) ?_
          have FIN := hid (prog_rest HG.out HP.out.1 HP.out.2 R1.out.2 R2.out.2 E1.out.1 E1.out.2.1 HB2.out rfl (by show 30 + m2 ≤ 89; omega) (by omega) A24.out BP2.out N24.out.1 N24.out.2)
          clear cb0 fb0 cb1 CG
          generalize X24.setCell ⟨X2.heap.size + 1, 1, none⟩ (.slice ad24 n24.length cp24) = Z at *
          have cz0 := cell_of_heap FIN.out.box 0
          have cz1 := cell_of_heap FIN.out.box 1
          have cz0' : Z.cell? ⟨X2.heap.size + 1, 0, none⟩ = some (.slice ade es.length cpe) := cz0
          have cz1' : Z.cell? ⟨X2.heap.size + 1, 1, none⟩ = some (.slice ad24 n24.length cp24) := cz1
          clear cz0 cz1
          obtain ⟨R, hR, -⟩ := answers n24
          have hcap : es.length ≤ cpe := by rcases FIN.out.effs.1 with ⟨h, h0⟩ | ⟨_, _, _, h, h0, -⟩; have := E1.out.2.1; omega; cases h; exact h0
          obtain ⟨be, ce, bt, ct, heE, heT, hbe, hbt, hEA, hNA, hl5⟩ := FIN.out.lies
          simp only [Value.slice.injEq] at heE heT
          obtain ⟨rfl, -, rfl⟩ := heE
          obtain ⟨rfl, -, rfl⟩ := heT
          have HPK := hid (specProgC_calls be bt cpe cp24 es n24 R Z hcap hbe hbt hEA hNA (by have := E1.out.2.2; omega) hl5 (fun w' hb hn => specTree_calls bt 0 cp24 n24 w' R hl5 hb hn hR))
          have HR := hid hR
          clear hbe hbt hEA hNA hl5 hR
          go_wp2_with fail
          refine HPK.out.mono ?_
          rintro e Z2 ⟨rfl, hbz⟩
          have FZ := hid (FIN.out.below hbz)
          clear hbz HPK
          cases hpz : progZ es n24 R with
          | false =>
            go_wp2_with fail
            try rw [wrap_succ (by omega)]
            exact ⟨⟨i' + 1, _, rfl, by omega, ⟨FZ.out.rd, FZ.out.gr, FZ.out.res, FZ.out.low⟩, FZ.out.cost⟩, hstep⟩
          | true =>
            have HT := hid (tr_of_ans (ns := n24) (by have h := prog_true hpz; have := HR.out; rwa [h] at this))
            have rz0 := cell_of_heap FZ.out.res 0
            have rz1 := cell_of_heap FZ.out.res 1
            have rz0' : Z2.cell? ⟨rb, 0, none⟩ = some (.slice none 0 0) := rz0
            have rz1' : Z2.cell? ⟨rb, 1, none⟩ = some (.slice none 0 0) := rz1
            have fz0 := frozen_of_heap FZ.out.res 0
            have fz1 := frozen_of_heap FZ.out.res 1
            have qz0 := cell_of_heap FZ.out.box 0
            have qz1 := cell_of_heap FZ.out.box 1
            have qz0' : Z2.cell? ⟨X2.heap.size + 1, 0, none⟩ = some (.slice (some ⟨be, 0, none⟩) es.length cpe) := qz0
            have qz1' : Z2.cell? ⟨X2.heap.size + 1, 1, none⟩ = some (.slice (some ⟨bt, 0, none⟩) n24.length cp24) := qz1
            clear rz0 rz1 qz0 qz1
            go_wp2_with fail
            have HFi := hid (FZ.out.stored (.slice (some ⟨be, 0, none⟩) es.length cpe) (.slice (some ⟨bt, 0, none⟩) n24.length cp24))
            refine bodyPost_ret (v := .agg #[.slice (some ⟨be, 0, none⟩) es.length cpe, .slice (some ⟨bt, 0, none⟩) n24.length cp24]) ?_ rfl ?_
            · simp [results, Try.results24, go_sem, rz0', rz1']
            · exact ⟨_, _, _, _, es, n24, _, rfl, HFi.out.1, E1.out.2.2, HFi.out.2.1, HT.out, HFi.out.2.2.1, by have := FZ.out.cost; have := HPl.out; omega, HFi.out.2.2.2⟩
      · obtain ⟨cb, hcb, hmk⟩ := made_bools es.length (by have := E1.out.2.2; omega) X11
        have MB : Hid (BoolsD (d.on X2.heap.size) (X11.alloc (.cells cb 4)) (.slice (some ⟨X11.heap.size, 0, none⟩) es.length es.length) (List.replicate es.length false)) := bools_made hcb A1.out.1.ltB A1.out.1.ltG
        have A21 := hid (A1.out.alloc (.cells cb 4))
        have G21 := hid ((Grew.refl (d.on X2.heap.size) X11).alloc (.cells cb 4))
        refine ⟨_, .slice (some ⟨X11.heap.size, 0, none⟩) es.length es.length, X11.alloc (.cells cb 4), rfl, rfl, by simp [go_sem, hmk], (A21.out.1.c1), ?_⟩
        refine pick_frame (by simp [go_sem]; exact rfl) ?_
        clear hmk
        obtain ⟨qb, hqb⟩ : ∃ q, X11.heap.size = q := ⟨_, rfl⟩
        generalize X11.alloc (.cells cb 4) = X21 at *
        rw [hqb] at MB ⊢
        clear hqb hcb
        refine pick_enter (i := 2) (f := 13) (args := #[.pointer (some ⟨d.B, 0, none⟩), .int .i64 5]) rfl (by kernel_rfl) rfl rfl (by simp [go_sem]) ?_
        refine (A21.out.pick HF.out (by omega) 5 (by decide)).mono ?_
        rintro e X22 ⟨m22, s22, rfl, hm22, hM22, ha, hg⟩
        have A22 := hid ha
        have G22 := hid hg
        clear ha hg
        refine ⟨_, rfl, (A22.out.1.c1), ?_⟩
        refine pick_frame (by simp [go_sem]; exact rfl) ?_
        have hwr22 : IntKind.i64.wrap (1 + m22) = 1 + m22 := by rw [IntKind.wrap_i64]; omega
        refine pick_op (i := 3) (v := .int .i64 (1 + m22)) (by kernel_rfl) rfl (by kernel_rfl) (by kernel_rfl) rfl rfl (fun w' hw => by simp [go_sem, hwr22]) (A22.out.1.c1) (by simp [go_sem]; exact rfl) ?_
        clear hwr22
        refine pick_enter (i := 11) (f := 13) (args := #[.pointer (some ⟨d.B, 0, none⟩), .int .i64 6]) rfl (by kernel_rfl) rfl rfl (by simp [go_sem]) ?_
        refine (A22.out.pick HF.out (by omega) 6 (by decide)).mono ?_
        rintro e X23 ⟨m23, s23, rfl, hm23, hM23, ha, hg⟩
        have A23 := hid ha
        have G23 := hid hg
        clear ha hg
        refine ⟨_, rfl, (A23.out.1.c1), ?_⟩
        refine pick_frame (by simp [go_sem]; exact rfl) ?_
        have hwr23 : IntKind.i64.wrap (4 + m23) = 4 + m23 := by rw [IntKind.wrap_i64]; omega
        refine pick_op (i := 12) (v := .int .i64 (4 + m23)) (by kernel_rfl) rfl (by kernel_rfl) (by kernel_rfl) rfl rfl (fun w' hw => by simp [go_sem, hwr23]) (A23.out.1.c1) (by simp [go_sem]; exact rfl) ?_
        clear hwr23
        refine pick_enter (i := 13) (f := 38) (args := #[.pointer (some ⟨X2.heap.size, 0, none⟩), .int .i64 (1 + m22), .slice none 0 0, .slice (some ⟨qb, 0, none⟩) es.length es.length, .int .i64 (4 + m23)]) rfl (by kernel_rfl) rfl rfl (by simp [go_sem]) ?_
        refine (A23.out.nodes (of_all 12 (by omega) (4 + m23) (1 + m22) (.slice none 0 0) _ [] (List.replicate es.length false) _ _ (by omega) (by omega) (A23.out.fit HF.out 10 (by omega)) A23.out.1 ⟨⟨Or.inl ⟨rfl, rfl⟩, fun k hk => by simp at hk⟩, (MB.out.grew (G22.out.trans G23.out)), by simp, (EF.out.grew (G1.out.trans (G21.out.trans (G22.out.trans G23.out)))), by simp, E1.out.2.2⟩)).mono ?_
        rintro e X24 ⟨v24, n24, s24, t24, rfl, hn24, hl24, ha, hg⟩
        have A24 := hid ha
        have G24 := hid hg
        clear ha hg
        have N24 := hid (And.intro hn24 hl24)
        obtain ⟨ad24, cp24, rfl⟩ := hn24.is
        clear hn24 hl24
        refine ⟨_, rfl, (A24.out.1.c1), ?_⟩
        refine pick_frame (by simp [go_sem]; exact rfl) ?_
        refine pick_op (i := 14) (v := .pointer (some ⟨X2.heap.size + 1, 1, none⟩)) (by kernel_rfl) rfl (by kernel_rfl) (by kernel_rfl) rfl rfl (fun w' hw => by simp [go_sem]) (A24.out.1.c1) (by simp [go_sem]; exact rfl) ?_
        have BP2 := hid (((G1.out.trans (G21.out.trans (G22.out.trans (G23.out.trans G24.out)))).block _ HQp.out).trans BP.out)
        have cb0 := cell_of_heap BP2.out 1
        have fb0 := frozen_of_heap BP2.out 1
        have cb1 : X24.cell? ⟨X2.heap.size + 1, 1, none⟩ = some (.slice none 0 0) := cb0
        have CG := A24.out.1.c1
        refine pick_skip (i := 15) (w1 := X24.setCell ⟨X2.heap.size + 1, 1, none⟩ (.slice ad24 n24.length cp24)) rfl rfl (by kernel_rfl) rfl rfl (by simp [go_sem, cb1, fb0]) ?_ ?_
        · exact (World.cell?_setCell_other _ _ _ _ (fun h => by have := congrArg Addr.block h; dsimp only at this; omega)).trans CG
        refine pick_end (by kernel_rfl) ?_
        have FIN := hid (prog_rest HG.out HP.out.1 HP.out.2 R1.out.2 R2.out.2 E1.out.1 E1.out.2.1 HB2.out rfl (by show 30 + m2 ≤ 89; omega) (by omega) A24.out BP2.out N24.out.1 N24.out.2)
        clear cb0 fb0 cb1 CG
        generalize X24.setCell ⟨X2.heap.size + 1, 1, none⟩ (.slice ad24 n24.length cp24) = Z at *
        have cz0 := cell_of_heap FIN.out.box 0
        have cz1 := cell_of_heap FIN.out.box 1
        have cz0' : Z.cell? ⟨X2.heap.size + 1, 0, none⟩ = some (.slice ade es.length cpe) := cz0
        have cz1' : Z.cell? ⟨X2.heap.size + 1, 1, none⟩ = some (.slice ad24 n24.length cp24) := cz1
        clear cz0 cz1
        obtain ⟨R, hR, -⟩ := answers n24
        have hcap : es.length ≤ cpe := by rcases FIN.out.effs.1 with ⟨h, h0⟩ | ⟨_, _, _, h, h0, -⟩; have := E1.out.2.1; omega; cases h; exact h0
        obtain ⟨be, ce, bt, ct, heE, heT, hbe, hbt, hEA, hNA, hl5⟩ := FIN.out.lies
        simp only [Value.slice.injEq] at heE heT
        obtain ⟨rfl, -, rfl⟩ := heE
        obtain ⟨rfl, -, rfl⟩ := heT
        have HPK := hid (specProgC_calls be bt cpe cp24 es n24 R Z hcap hbe hbt hEA hNA (by have := E1.out.2.2; omega) hl5 (fun w' hb hn => specTree_calls bt 0 cp24 n24 w' R hl5 hb hn hR))
        have HR := hid hR
        clear hbe hbt hEA hNA hl5 hR
        go_wp2_with fail
        refine HPK.out.mono ?_
        rintro e Z2 ⟨rfl, hbz⟩
        have FZ := hid (FIN.out.below hbz)
        clear hbz HPK
        cases hpz : progZ es n24 R with
        | false =>
          go_wp2_with fail
          try rw [wrap_succ (by omega)]
          exact ⟨⟨i' + 1, _, rfl, by omega, ⟨FZ.out.rd, FZ.out.gr, FZ.out.res, FZ.out.low⟩, FZ.out.cost⟩, hstep⟩
        | true =>
          have HT := hid (tr_of_ans (ns := n24) (by have h := prog_true hpz; have := HR.out; rwa [h] at this))
          have rz0 := cell_of_heap FZ.out.res 0
          have rz1 := cell_of_heap FZ.out.res 1
          have rz0' : Z2.cell? ⟨rb, 0, none⟩ = some (.slice none 0 0) := rz0
          have rz1' : Z2.cell? ⟨rb, 1, none⟩ = some (.slice none 0 0) := rz1
          have fz0 := frozen_of_heap FZ.out.res 0
          have fz1 := frozen_of_heap FZ.out.res 1
          have qz0 := cell_of_heap FZ.out.box 0
          have qz1 := cell_of_heap FZ.out.box 1
          have qz0' : Z2.cell? ⟨X2.heap.size + 1, 0, none⟩ = some (.slice (some ⟨be, 0, none⟩) es.length cpe) := qz0
          have qz1' : Z2.cell? ⟨X2.heap.size + 1, 1, none⟩ = some (.slice (some ⟨bt, 0, none⟩) n24.length cp24) := qz1
          clear rz0 rz1 qz0 qz1
          go_wp2_with fail
          have HFi := hid (FZ.out.stored (.slice (some ⟨be, 0, none⟩) es.length cpe) (.slice (some ⟨bt, 0, none⟩) n24.length cp24))
          refine bodyPost_ret (v := .agg #[.slice (some ⟨be, 0, none⟩) es.length cpe, .slice (some ⟨bt, 0, none⟩) n24.length cp24]) ?_ rfl ?_
          · simp [results, Try.results24, go_sem, rz0', rz1']
          · exact ⟨_, _, _, _, es, n24, _, rfl, HFi.out.1, E1.out.2.2, HFi.out.2.1, HT.out, HFi.out.2.2.1, by have := FZ.out.cost; have := HPl.out; omega, HFi.out.2.2.2⟩
    · have hBY := heap_lt HP.out.1.rd.blk
      go_wp2_with fail
      refine (node_calls (d := d) 1 7 Y hBY (by rw [HG.out]; exact hBY)).mono ?_
      rintro e Z ⟨v, rfl, hn, hb⟩
      obtain ⟨adv, cpv, rfl⟩ := hn.is
      have HFb := hid (fall_back HP.out.1 hb hn (.slice none 0 0) (.slice adv 1 cpv))
      have hres := (hb.block _ (heap_lt HP.out.1.res)).trans HP.out.1.res
      have rz0 : Z.cell? ⟨rb, 0, none⟩ = some (.slice none 0 0) := cell_of_heap hres 0
      have rz1 : Z.cell? ⟨rb, 1, none⟩ = some (.slice none 0 0) := cell_of_heap hres 1
      have fz0 := frozen_of_heap hres 0
      have fz1 := frozen_of_heap hres 1
      clear hn hb hres
      go_wp2_with fail
      refine bodyPost_ret (v := .agg #[.slice none 0 0, .slice adv 1 cpv]) ?_ rfl ?_
      · simp [results, Try.results24, go_sem, rz0, rz1]
      · exact ⟨none, 0, 0, _, [], _, p', rfl, ⟨Or.inl ⟨rfl, rfl⟩, fun e he => by simp at he⟩, by simp, HFb.out.1, ⟨_, .none, rfl, rfl, trivial, by simp⟩, HFb.out.2.1, by have := HP.out.2; omega, HFb.out.2.2⟩
end Go.Proofs.Ytnbmhopoiijhoaa

/- The draw of code. -/
namespace Go.Proofs.Ytnbmhopoiijhoaa
open Go.RowKit Go.Deep

def CodePost (d : Dr) (W : World) (p : Nat) (e : Ending) (W' : World) : Prop :=
  ∃ v cs q, e = .returned v ∧ W'.ownsRow W.heap.size 37 4 v cs.length (rowZ In.cell 4 cs) ∧ cs.length ≤ 960000 ∧ Rdr d W' q ∧ q ≤ p + 200010 ∧ Grew d W W'

theorem bytes_lowC {d : Dr} {W : World} {p : Nat} (h : Rdr d W p) : ∀ b off, d.a0 = some ⟨b, off, none⟩ → 0 < d.len → b < W.heap.size := fun b off ea hl => by
  obtain ⟨b', off', ea', hq, -⟩ := h.bytes hl
  rw [ea] at ea'
  cases ea'
  exact hq.1

/-- What lies there when code is spoilt: the reader, the code in a row of one's own. -/
structure Cd (d : Dr) (W X : World) (p g cap : Nat) (cs : List In) : Prop where
  rd : Rdr d X p
  gr : Grew d W X
  row : X.ownsRow W.heap.size 37 4 (.slice (some ⟨g, 0, none⟩) cs.length cap) cs.length (rowZ In.cell 4 cs)
  lo : d.B < W.heap.size ∧ d.G = d.B

theorem Cd.pick {d : Dr} {W X X' : World} {p p' g cap : Nat} {cs : List In} (h : Cd d W X p g cap cs) (hr : Rdr d X' p') (hg : Grew d X X') : Cd d W X' p' g cap cs :=
  ⟨hr, h.gr.trans hg, g_grew h.row h.lo.1 (by rw [h.lo.2]; exact h.lo.1) hg, h.lo⟩

theorem Cd.below {d : Dr} {W X X' : World} {p g cap : Nat} {cs : List In} (h : Cd d W X p g cap cs) (hb : Below X.heap.size X X') : Cd d W X' p g cap cs := h.pick (h.rd.below hb) (Grew.of_below hb)

theorem Cd.at {d : Dr} {W X : World} {p g cap : Nat} {cs : List In} (h : Cd d W X p g cap cs) : W.heap.size ≤ g ∧ g < X.heap.size ∧ ∃ cur, X.heap[g]? = some (.cells cur 37) := by
  obtain ⟨h1, cur, h2⟩ := g_type h.row (g := g) rfl
  exact ⟨h1, heap_lt h2, cur, h2⟩

/-- A block of one's own is written. -/
theorem Cd.other {d : Dr} {W X X' : World} {p g cap p0 q : Nat} {cs : List In} (h : Cd d W X p g cap cs) (h0 : Rdr d W p0) (ho : ∀ k, k ≠ q → X'.heap[k]? = X.heap[k]?) (hs : X'.heap.size = X.heap.size) (hos : X'.os = X.os ∧ X'.tape = X.tape ∧ X'.output = X.output) (hq : W.heap.size ≤ q) : Rdr d X' p ∧ Grew d W X' := by
  have hlo := h.lo
  refine ⟨⟨(ho _ (by omega)).trans h.rd.blk, fun hl => ?_⟩, ⟨hos.1.trans h.gr.os, hos.2.1.trans h.gr.tape, hos.2.2.trans h.gr.output, by rw [hs]; exact h.gr.size, fun k hk => (ho k (by have := hk.1; omega)).trans (h.gr.block k hk)⟩⟩
  obtain ⟨b, off, ea, hq2, hz⟩ := h.rd.bytes hl
  have hbl := bytes_lowC h0 b off ea hl
  refine ⟨b, off, ea, ⟨by rw [hs]; exact hq2.1, hq2.2⟩, fun i hi => ?_⟩
  obtain ⟨z, hz, h5⟩ := hz i hi
  exact ⟨z, (World.cell?_of_block (a := ⟨b, off + i, none⟩) (ho b (by omega))).trans hz, h5⟩

theorem Cd.set {d : Dr} {W X : World} {p g cap p0 q : Nat} {cs : List In} (h : Cd d W X p g cap cs) (h0 : Rdr d W p0) (hq : W.heap.size ≤ q) (hne : q ≠ g) (j : Nat) (v : Value) : Cd d W (X.setCell ⟨q, j, none⟩ v) p g cap cs := by
  have ho : ∀ k, k ≠ q → (X.setCell ⟨q, j, none⟩ v).heap[k]? = X.heap[k]? := fun k hk => Below.heap_setCell X ⟨q, j, none⟩ v k hk
  obtain ⟨h1, h2⟩ := h.other (q := q) (X' := X.setCell ⟨q, j, none⟩ v) h0 ho (by simp [World.setCell]) ⟨rfl, rfl, rfl⟩ hq
  exact ⟨h1, h2, g_same h.row (fun k hk => ho k (fun e => by cases hk; exact hne e.symm)), h.lo⟩

theorem Cd.quad {d : Dr} {W X : World} {p g cap p0 k : Nat} {cs : List In} (h : Cd d W X p g cap cs) (h0 : Rdr d W p0) (hk : k < cs.length) (i : In) : Cd d W (quad X g k i) p g cap (cs.set k i) := by
  obtain ⟨e, hs⟩ := quad_other X g k i
  obtain ⟨h1, h2⟩ := h.other (q := g) h0 e hs (quad_os X g k i) h.at.1
  exact ⟨h1, h2, quad_row h.row hk i, h.lo⟩

theorem box_sets {W : World} {q : Nat} {x0 x1 x2 x3 : Value} (h : W.heap[q]? = some (.cells #[x0, x1, x2, x3] 37)) (v : Value) : (W.setCell ⟨q, 0, none⟩ v).heap[q]? = some (.cells #[v, x1, x2, x3] 37) := by
  simp [World.setCell, Array.getElem?_modify, h]

theorem app_ins {W : World} {B : Nat} {v : Value} {l m : List In} {b off cap : Nat} (hown : W.ownsRow B 37 4 v l.length (rowZ In.cell 4 l)) (hc : InsAt W b off m) (hm : l.length + m.length ≤ 2000000) (hB : B ≤ W.heap.size) (ty : TypeId) :
    ∃ v' W', (Builtin.append_ #[23, 23] ty #[v, .slice (some ⟨b, off, none⟩) m.length cap]).run Try.prog W = .ok v' W' ∧ W'.ownsRow B 37 4 v' (l ++ m).length (rowZ In.cell 4 (l ++ m)) ∧ W.grownBy W' v.ownBlock := by
  obtain ⟨i0, hinf, hz0, hz1, hz2⟩ := info_parts info_insC
  obtain ⟨v', W', hr, h2, h3, -, -⟩ := run_append_own_at (P := Try.prog) W B 23 ty 37 i0 _ 4 32 Try.underlying23 hinf hz0 hz1 hz2 rfl (by decide) v l.length (rowZ In.cell 4 l) hown ⟨b, off, none⟩ m.length cap (rowZ In.cell 4 m) (rowZ_len _ 4 m)
    (fun j u hu => by
      have hj : j < m.length * 4 := by
        have := (List.getElem?_eq_some_iff.1 hu).1
        rwa [rowZ_len] at this
      rw [rowZ_get In.cell 4 (by decide) m j hj] at hu
      cases hu
      rw [Addr.add_lit]
      have := hc (j / 4) (by omega) (j % 4) (by omega)
      rwa [show off + j / 4 * 4 + j % 4 = off + j by omega] at this)
    (fun u hu => by
      unfold rowZ at hu
      rw [List.mem_flatMap] at hu
      obtain ⟨x, -, hu⟩ := hu
      rw [List.mem_map] at hu
      obtain ⟨i, -, rfl⟩ := hu
      unfold In.cell
      split <;> rfl) (by unfold maxLen; omega) (by omega) hB
  refine ⟨v', W', hr, ?_, h3⟩
  rw [List.length_append, rowZ_app]
  exact h2

theorem ins_at {X : World} {B g cap : Nat} {cs : List In} (h : X.ownsRow B 37 4 (.slice (some ⟨g, 0, none⟩) cs.length cap) cs.length (rowZ In.cell 4 cs)) : InsAt X g 0 cs := fun k hk c hc => by
  rw [Nat.zero_add, h.cellAt (k * 4 + c) (by omega), rowZ_get In.cell 4 (by decide) cs _ (by omega), show (k * 4 + c) / 4 = k by omega, show (k * 4 + c) % 4 = c by omega]

theorem ins_part {W : World} {b : Nat} {ns l r : List In} {k : Nat} (h : InsAt W b 0 ns) (hd : ns.drop k = l ++ r) : InsAt W b (k * 4) l := fun j hj c hc => by
  have hlen := congrArg List.length hd
  simp only [List.length_drop, List.length_append] at hlen
  have e := h (k + j) (by omega) c hc
  rw [show 0 + (k + j) * 4 + c = k * 4 + j * 4 + c by omega] at e
  rw [e]
  congr 2
  have : ns.getD (k + j) default = (ns.drop k).getD j default := by simp [List.getD, List.getElem?_drop]
  rw [this, hd]
  simp [List.getD, List.getElem?_append_left hj]

theorem ins_last {W : World} {b e o : Nat} {ns : List In} (h : ns.drop e = [] ∨ o = e * 4) (hn : InsAt W b 0 ns) : InsAt W b o (ns.drop e) := by
  rcases h with h | rfl
  · rw [h]
    exact fun k hk => by simp at hk
  · exact ins_part (r := []) hn (by simp)

theorem ins_made (X : World) : (X.alloc (.cells #[] 37)).ownsRow X.heap.size 37 4 (.slice (some ⟨X.heap.size, 0, none⟩) 0 0) ([] : List In).length (rowZ In.cell 4 []) := World.ownsRow_made X #[] 0 (Nat.le_refl _) (Nat.zero_le _) rfl

theorem effW_of {d : Dr} {W : World} {ad : Option Addr} {n cp : Nat} {es : List Ef} (h : EffsD d W (.slice ad n cp) es) : n = es.length ∧ EffW W ad cp es := by
  rcases h.1 with ⟨h1, h2⟩ | ⟨b, off, cap, h1, h2, rfl, h4, h5⟩
  · cases h1
    exact ⟨h2.symm, Or.inl ⟨rfl, List.eq_nil_of_length_eq_zero h2, rfl⟩⟩
  · cases h1
    refine ⟨rfl, Or.inr ⟨b, rfl, h4.1, fun k hk c hc => ?_, h2⟩⟩
    rw [Nat.zero_add]
    have := h5 (k * 3 + c) (by omega)
    rw [Nat.zero_add] at this
    rw [this]
    exact congrArg some (cell_div es Ef.cell 3 k c hc)

theorem treeN_of {d : Dr} {W : World} {v : Value} {ns : List Nd} (h : NodesD d W v ns) (h1 : 1 ≤ ns.length) : ∃ b cap, v = .slice (some ⟨b, 0, none⟩) ns.length cap ∧ b < W.heap.size ∧ NodesAt W b 0 ns := by
  have hsl := h.slice
  rcases h.1 with ⟨h2, h3⟩ | ⟨b, off, cap, h2, h3, rfl, h4, -⟩
  · omega
  · refine ⟨b, cap, h2, h4.1, ?_⟩
    obtain ⟨a, c, e, h5⟩ := hsl
    rw [h2] at e
    cases e
    rcases h5 with rfl | ⟨b', off', e', -, hn⟩
    · simp at h1
    · cases e'
      exact hn

set_option maxHeartbeats 8000000 in
set_option maxRecDepth 100000 in
theorem code_calls {d : Dr} {W : World} {p : Nat} (hG : d.G = d.B) (h : Rdr d W p) (hp : p ≤ 500000) : Calls Try.prog 12 #[.pointer (some ⟨d.B, 0, none⟩)] W (CodePost d W p) := by
  have hB := heap_lt h.blk
  have H0 := hid (And.intro h (And.intro hp (And.intro hB hG)))
  have HP := hid (prog_calls hG h hp)
  clear hG h hp hB
  go_enter Try.func12, Try.ntmps12
  go_wp2_with fail
  refine HP.out.mono ?_
  rintro e W1 ⟨ad, n, cp, vt, es, ns, p1, rfl, hE, hE4, hN, hT, hR, hq, hg⟩
  obtain ⟨rfl, hEW⟩ := effW_of hE
  obtain ⟨tn, tk, t1, -, -, t4⟩ := hT
  obtain ⟨bt, cn, rfl, hbt, hNA⟩ := treeN_of hN (by rw [t1]; simp)
  have HC := hid (compile_calls (cn := cn) hEW (by omega) hbt hNA t4)
  have HR := hid (And.intro hR (And.intro hq hg))
  clear HP hE hE4 hN hR hq hg hEW hbt hNA t1 t4
  go_wp2_with fail
  refine HC.out.mono ?_
  rintro e W2 ⟨v, cs, x, rfl, hown, hcl, hb, -, -⟩
  obtain ⟨adv, cpv, rfl⟩ := own_slice hown
  have HO := hid (own_base hown HR.out.2.2.size)
  have HCl := hid hcl
  have R2 := hid (HR.out.1.below hb)
  have G2 := hid (HR.out.2.2.trans (Grew.of_below hb))
  have HQ := hid HR.out.2.1
  clear HC hown hcl hb HR
  obtain ⟨L, hL⟩ : ∃ L, cs.length = L := ⟨_, rfl⟩
  have HL := hid hL
  rw [hL] at HO ⊢
  clear hL
  go_wp2_with fail
  refine (rdr_pick R2.out (by have := HQ.out; have := H0.out.2.1; omega) 4 (by decide)).mono ?_
  rintro e W3 ⟨m4, rfl, hm40, hm41, hr3, hg3, -, -⟩
  have R3 := hid hr3
  have G3 := hid (G2.out.trans hg3)
  have O3 := hid (g_grew HO.out H0.out.2.2.1 (by rw [H0.out.2.2.2]; exact H0.out.2.2.1) hg3)
  clear hr3 hg3 R2 G2 HO
  have FIN : Hid (CodePost d W p (.returned (.slice adv L cpv)) W3) := ⟨_, cs, _, rfl, by rw [HL.out]; exact O3.out, by have := HCl.out; omega, R3.out, by have := HQ.out; omega, G3.out⟩
  by_cases h4 : m4 = 0
  · subst h4
    by_cases hL0 : (0 : Int) < (L : Int)
    · obtain ⟨g, hgv⟩ : ∃ g, adv = some ⟨g, 0, none⟩ := by
        obtain ⟨-, ⟨-, h0⟩ | ⟨g, cap, cur, e, -⟩⟩ := O3.out
        · omega
        · cases e
          exact ⟨g, rfl⟩
      subst hgv
      have C3 : Hid (Cd d W W3 (p1 + 1) g cpv cs) := ⟨R3.out, G3.out, by rw [HL.out]; exact O3.out, H0.out.2.2.1, H0.out.2.2.2⟩
      clear R3 G3 O3 FIN hm40 hm41
      go_wp2_with fail
      refine (rdr_pick C3.out.rd (by have := HQ.out; have := H0.out.2.1; omega) (L : Int) hL0).mono ?_
      rintro e W4 ⟨mk, rfl, hmk0, hmk1, hr4, hg4, -, -⟩
      have C4 := hid (C3.out.pick hr4 hg4)
      obtain ⟨k, rfl⟩ : ∃ k : Nat, mk = (k : Int) := ⟨mk.toNat, by omega⟩
      have hcs := ins_at C4.out.row
      have hkl : k < cs.length := by rw [HL.out]; omega
      have HK := hid hkl
      have c0 := hcs k hkl 0 (by omega)
      have c1 := hcs k hkl 1 (by omega)
      have c2 := hcs k hkl 2 (by omega)
      have c3 := hcs k hkl 3 (by omega)
      obtain ⟨⟨op, a, b, c⟩, hi⟩ : ∃ i, cs.getD k default = i := ⟨_, rfl⟩
      rw [hi] at c0 c1 c2 c3
      simp only [In.cell, Nat.add_zero, Nat.zero_add] at c0 c1 c2 c3
      have hA := (MapKept.heap_alloc W4 (.cells #[.int .i64 op, .int .i64 a, .int .i64 b, .int .i64 c] 37)).1
      have hB1 := (Below.refl W4.heap.size W4).alloc (Nat.le_refl _) (.cells #[.int .i64 op, .int .i64 a, .int .i64 b, .int .i64 c] 37)
      obtain ⟨Y, hY⟩ : ∃ Y, W4.alloc (.cells #[.int .i64 op, .int .i64 a, .int .i64 b, .int .i64 c] 37) = Y := ⟨_, rfl⟩
      rw [hY] at hA hB1
      have HY := hid hY
      have HA := hid hA
      have CY := hid (C4.out.below hB1)
      have hqg : W4.heap.size ≠ g := by have := C4.out.at.2.1; omega
      have HQg := hid (And.intro hqg (show W.heap.size ≤ W4.heap.size from C4.out.gr.size))
      obtain ⟨q, hqq⟩ : ∃ q, W4.heap.size = q := ⟨_, rfl⟩
      rw [hqq] at HA HQg
      clear hcs hkl hi hA hB1 hY hr4 hg4 C3 C4 hqg
      go_upto_region 5 with fail
      rw [HY.out]
      try rw [hqq]
      clear HY c0 c1 c2 c3 hqq hmk0
      go_wp2_with fail
      refine (rdr_pick CY.out.rd (by have := HQ.out; have := H0.out.2.1; omega) 7 (by decide)).mono ?_
      rintro e W6 ⟨m7, rfl, hm70, hm71, hr6, hg6, -, ho6⟩
      have C6 := hid (CY.out.pick hr6 hg6)
      have A6 := hid ((ho6 q (by have := HQg.out.2; have := CY.out.lo; omega)).trans HA.out)
      clear hr6 hg6 ho6 HA CY
      have hk0 : (0 : Int) ≤ (k : Int) := by omega
      have HE : Hid (∀ Z s, Cd d W Z s g cpv cs → s ≤ p1 + 4 → ∀ i : In, CodePost d W p (.returned (.slice (some ⟨g, 0, none⟩) L cpv)) (quad Z g k i)) := fun Z s hz hs i => by
        have h1 := hz.quad H0.out.1 HK.out i
        have h2 := h1.row
        rw [List.length_set] at h2
        have h3 := HL.out
        refine ⟨_, cs.set k i, _, rfl, ?_, by rw [List.length_set]; have := HCl.out; omega, h1.rd, by have := HQ.out; omega, h1.gr⟩
        rw [List.length_set, ← h3]
        exact h2
      have h7 : m7 = 0 ∨ m7 = 1 ∨ m7 = 2 ∨ m7 = 3 ∨ m7 = 4 ∨ m7 = 5 ∨ m7 = 6 := by omega
      clear hm70 hm71
      rcases h7 with rfl | rfl | rfl | rfl | rfl | rfl | rfl
      · have x0 := cell_of_heap A6.out 0
        have z0 := frozen_of_heap A6.out 0
        simp at x0
        go_wp2_with fail
        refine (rdr_pick C6.out.rd (by have := HQ.out; have := H0.out.2.1; omega) 28 (by decide)).mono ?_
        rintro e W7 ⟨m8, rfl, hm80, hm81, hr7, hg7, -, ho7⟩
        have C7 := hid (C6.out.pick hr7 hg7)
        have A7 := hid ((ho7 q (by have := HQg.out.2; have := C6.out.lo; omega)).trans A6.out)
        clear hr7 hg7 ho7 x0 z0
        obtain ⟨zz, hzz⟩ : ∃ zz : Int, m8 - 1 = zz := ⟨_, rfl⟩
        have x0 := cell_of_heap A7.out 0
        have z0 := frozen_of_heap A7.out 0
        simp at x0
        have C8 := hid (C7.out.set H0.out.1 HQg.out.2 HQg.out.1 0 (.int .i64 zz))
        have A8 := hid (box_sets A7.out (.int .i64 zz))
        obtain ⟨Z, hZ⟩ : ∃ Z, W7.setCell ⟨q, 0, none⟩ (.int .i64 zz) = Z := ⟨_, rfl⟩
        rw [hZ] at C8 A8
        have HZ := hid hZ
        have HZz := hid hzz
        clear hZ hzz
        go_upto_region 20 with fail
        rw [HZz.out, HZ.out]
        clear HZ x0 z0
        have x0 := cell_of_heap A8.out 0
        have x1 := cell_of_heap A8.out 1
        have x2 := cell_of_heap A8.out 2
        have x3 := cell_of_heap A8.out 3
        simp at x0 x1 x2 x3
        obtain ⟨-, -, cur, hcur⟩ := C8.out.at
        have hcs := ins_at C8.out.row
        have y0 := hcs k HK.out 0 (by omega)
        have f0 := frozen_of_heap hcur (k * 4)
        have y1 := hcs k HK.out 1 (by omega)
        have f1 := frozen_of_heap hcur (k * 4 + 1)
        have y2 := hcs k HK.out 2 (by omega)
        have f2 := frozen_of_heap hcur (k * 4 + 2)
        have y3 := hcs k HK.out 3 (by omega)
        have f3 := frozen_of_heap hcur (k * 4 + 3)
        simp only [Nat.add_zero, Nat.zero_add] at y0 y1 y2 y3
        clear hcur hcs
        have HR := hid (HE.out Z _ C8.out (by omega) ⟨zz, a, b, c⟩)
        unfold quad at HR
        dsimp only at HR
        go_wp2_with fail
        go_ret
        exact HR.out
      · have c1 := cell_of_heap A6.out 1
        simp at c1
        go_upto_region 9 with fail
        have hD : Below W6.heap.size W6 W6.drew := (Below.refl _ _).drew
        obtain ⟨D, hDe⟩ : ∃ D, W6.drew = D := ⟨_, rfl⟩
        rw [hDe] at hD
        have CD := hid (C6.out.below hD)
        have AD := hid ((hD.block q (heap_lt A6.out)).trans A6.out)
        refine pick_begin (S := fun _ => True) (by kernel_rfl) rfl rfl ?_
        rw [hDe]
        clear hDe hD c1
        refine pick_op (i := 0) (v := .pointer (some ⟨q, 1, none⟩)) (by kernel_rfl) rfl (by kernel_rfl) (by kernel_rfl) rfl rfl (fun w' _ => by simp [go_sem]) trivial (by simp [go_sem]; exact rfl) ?_
        refine pick_op (i := 2) (v := .pointer (some ⟨d.B, 0, none⟩)) (by kernel_rfl) rfl (by kernel_rfl) (by kernel_rfl) rfl rfl (fun w' _ => by simp [go_sem]) trivial (by simp [go_sem]; exact rfl) ?_
        refine pick_either (i := 1) (j := 3) (by kernel_rfl) ?_ ?_
        · have c1 := cell_of_heap AD.out 1
          simp at c1
          refine ⟨_, .int .i64 a, D, rfl, rfl, by simp [go_sem, c1], trivial, ?_⟩
          refine pick_frame (by simp [go_sem]; exact rfl) ?_
          clear c1
          refine pick_enter (i := 3) (f := 13) (args := #[.pointer (some ⟨d.B, 0, none⟩), .int .i64 3]) rfl (by kernel_rfl) rfl rfl (by simp [go_sem]) ?_
          refine (rdr_pick CD.out.rd (by have := HQ.out; have := H0.out.2.1; omega) 3 (by decide)).mono ?_
          rintro e W7 ⟨m8, rfl, hm80, hm81, hr7, hg7, -, ho7⟩
          have C7 := hid (CD.out.pick hr7 hg7)
          have A7 := hid ((ho7 q (by have := HQg.out.2; have := CD.out.lo; omega)).trans AD.out)
          clear hr7 hg7 ho7
          refine ⟨_, rfl, trivial, ?_⟩
          refine pick_frame (by simp [go_sem]; exact rfl) ?_
          have c1 := cell_of_heap A7.out 1
          have z1 := frozen_of_heap A7.out 1
          simp at c1
          refine pick_op (i := 4) (v := .int .i64 (wrap64 (a + m8))) (by kernel_rfl) rfl (by kernel_rfl) (by kernel_rfl) rfl rfl (fun w' _ => by simp [go_sem]; exact IntWalk.i64_left _) trivial (by simp [go_sem]; exact rfl) ?_
          obtain ⟨z4, hz4⟩ : ∃ z : Int, wrap64 (a + m8) = z := ⟨_, rfl⟩
          rw [hz4]
          clear hz4
          refine pick_op (i := 5) (v := .int .i64 (wrap64 (z4 - 1))) (by kernel_rfl) rfl (by kernel_rfl) (by kernel_rfl) rfl rfl (fun w' _ => by simp [go_sem]; exact IntWalk.i64_left _) trivial (by simp [go_sem]; exact rfl) ?_
          obtain ⟨zz, hzz⟩ : ∃ z : Int, wrap64 (z4 - 1) = z := ⟨_, rfl⟩
          rw [hzz]
          clear hzz
          refine pick_op (i := 6) (v := .pointer (some ⟨q, 1, none⟩)) (by kernel_rfl) rfl (by kernel_rfl) (by kernel_rfl) rfl rfl (fun w' _ => by simp [go_sem]) trivial (by simp [go_sem]; exact rfl) ?_
          refine pick_skip (i := 7) rfl (w1 := W7.setCell ⟨q, 1, none⟩ (.int .i64 zz)) rfl (by kernel_rfl) rfl rfl (by simp [go_sem, c1, z1]) trivial ?_
          refine pick_end (by kernel_rfl) ?_
          have C8 := hid (C7.out.set H0.out.1 HQg.out.2 HQg.out.1 1 (.int .i64 zz))
          have A8 := hid (box_set A7.out (.int .i64 zz)).1
          generalize W7.setCell ⟨q, 1, none⟩ (.int .i64 zz) = Z at *
          clear c1 z1
          go_upto_region 20 with fail
          have x0 := cell_of_heap A8.out 0
          have x1 := cell_of_heap A8.out 1
          have x2 := cell_of_heap A8.out 2
          have x3 := cell_of_heap A8.out 3
          simp at x0 x1 x2 x3
          obtain ⟨-, -, cur, hcur⟩ := C8.out.at
          have hcs := ins_at C8.out.row
          have y0 := hcs k HK.out 0 (by omega)
          have f0 := frozen_of_heap hcur (k * 4)
          have y1 := hcs k HK.out 1 (by omega)
          have f1 := frozen_of_heap hcur (k * 4 + 1)
          have y2 := hcs k HK.out 2 (by omega)
          have f2 := frozen_of_heap hcur (k * 4 + 2)
          have y3 := hcs k HK.out 3 (by omega)
          have f3 := frozen_of_heap hcur (k * 4 + 3)
          simp only [Nat.add_zero, Nat.zero_add] at y0 y1 y2 y3
          clear hcur hcs
          have HR := hid (HE.out Z _ C8.out (by omega) ⟨op, zz, b, c⟩)
          unfold quad at HR
          dsimp only at HR
          go_wp2_with fail
          go_ret
          exact HR.out
        · refine ⟨_, 13, #[.pointer (some ⟨d.B, 0, none⟩), .int .i64 3], rfl, rfl, by simp [go_sem], ?_⟩
          refine (rdr_pick CD.out.rd (by have := HQ.out; have := H0.out.2.1; omega) 3 (by decide)).mono ?_
          rintro e W7 ⟨m8, rfl, hm80, hm81, hr7, hg7, -, ho7⟩
          have C7 := hid (CD.out.pick hr7 hg7)
          have A7 := hid ((ho7 q (by have := HQg.out.2; have := CD.out.lo; omega)).trans AD.out)
          clear hr7 hg7 ho7
          refine ⟨_, rfl, trivial, ?_⟩
          refine pick_frame (by simp [go_sem]; exact rfl) ?_
          have c1 := cell_of_heap A7.out 1
          have z1 := frozen_of_heap A7.out 1
          simp at c1
          refine pick_make (i := 1) (v := .int .i64 a) (w1 := W7) rfl (by kernel_rfl) rfl rfl (by simp [go_sem, c1]) trivial (by simp [go_sem]; exact rfl) ?_
          refine pick_op (i := 4) (v := .int .i64 (wrap64 (a + m8))) (by kernel_rfl) rfl (by kernel_rfl) (by kernel_rfl) rfl rfl (fun w' _ => by simp [go_sem]; exact IntWalk.i64_left _) trivial (by simp [go_sem]; exact rfl) ?_
          obtain ⟨z4, hz4⟩ : ∃ z : Int, wrap64 (a + m8) = z := ⟨_, rfl⟩
          rw [hz4]
          clear hz4
          refine pick_op (i := 5) (v := .int .i64 (wrap64 (z4 - 1))) (by kernel_rfl) rfl (by kernel_rfl) (by kernel_rfl) rfl rfl (fun w' _ => by simp [go_sem]; exact IntWalk.i64_left _) trivial (by simp [go_sem]; exact rfl) ?_
          obtain ⟨zz, hzz⟩ : ∃ z : Int, wrap64 (z4 - 1) = z := ⟨_, rfl⟩
          rw [hzz]
          clear hzz
          refine pick_op (i := 6) (v := .pointer (some ⟨q, 1, none⟩)) (by kernel_rfl) rfl (by kernel_rfl) (by kernel_rfl) rfl rfl (fun w' _ => by simp [go_sem]) trivial (by simp [go_sem]; exact rfl) ?_
          refine pick_skip (i := 7) rfl (w1 := W7.setCell ⟨q, 1, none⟩ (.int .i64 zz)) rfl (by kernel_rfl) rfl rfl (by simp [go_sem, c1, z1]) trivial ?_
          refine pick_end (by kernel_rfl) ?_
          have C8 := hid (C7.out.set H0.out.1 HQg.out.2 HQg.out.1 1 (.int .i64 zz))
          have A8 := hid (box_set A7.out (.int .i64 zz)).1
          generalize W7.setCell ⟨q, 1, none⟩ (.int .i64 zz) = Z at *
          clear c1 z1
          go_upto_region 20 with fail
          have x0 := cell_of_heap A8.out 0
          have x1 := cell_of_heap A8.out 1
          have x2 := cell_of_heap A8.out 2
          have x3 := cell_of_heap A8.out 3
          simp at x0 x1 x2 x3
          obtain ⟨-, -, cur, hcur⟩ := C8.out.at
          have hcs := ins_at C8.out.row
          have y0 := hcs k HK.out 0 (by omega)
          have f0 := frozen_of_heap hcur (k * 4)
          have y1 := hcs k HK.out 1 (by omega)
          have f1 := frozen_of_heap hcur (k * 4 + 1)
          have y2 := hcs k HK.out 2 (by omega)
          have f2 := frozen_of_heap hcur (k * 4 + 2)
          have y3 := hcs k HK.out 3 (by omega)
          have f3 := frozen_of_heap hcur (k * 4 + 3)
          simp only [Nat.add_zero, Nat.zero_add] at y0 y1 y2 y3
          clear hcur hcs
          have HR := hid (HE.out Z _ C8.out (by omega) ⟨op, zz, b, c⟩)
          unfold quad at HR
          dsimp only at HR
          go_wp2_with fail
          go_ret
          exact HR.out
      · have x0 := cell_of_heap A6.out 2
        have z0 := frozen_of_heap A6.out 2
        simp at x0
        go_wp2_with fail
        refine (rdr_pick C6.out.rd (by have := HQ.out; have := H0.out.2.1; omega) 3 (by decide)).mono ?_
        rintro e W7 ⟨m8, rfl, hm80, hm81, hr7, hg7, -, ho7⟩
        have C7 := hid (C6.out.pick hr7 hg7)
        have A7 := hid ((ho7 q (by have := HQg.out.2; have := C6.out.lo; omega)).trans A6.out)
        clear hr7 hg7 ho7 x0 z0
        obtain ⟨zz, hzz⟩ : ∃ zz : Int, m8 = zz := ⟨_, rfl⟩
        have x0 := cell_of_heap A7.out 2
        have z0 := frozen_of_heap A7.out 2
        simp at x0
        have C8 := hid (C7.out.set H0.out.1 HQg.out.2 HQg.out.1 2 (.int .i64 zz))
        have A8 := hid ((box_set A7.out (.int .i64 zz)).2.1)
        obtain ⟨Z, hZ⟩ : ∃ Z, W7.setCell ⟨q, 2, none⟩ (.int .i64 zz) = Z := ⟨_, rfl⟩
        rw [hZ] at C8 A8
        have HZ := hid hZ
        have HZz := hid hzz
        clear hZ hzz
        go_upto_region 20 with fail
        have hm := HZz.out
        subst hm
        rw [HZ.out]
        clear HZ x0 z0
        have x0 := cell_of_heap A8.out 0
        have x1 := cell_of_heap A8.out 1
        have x2 := cell_of_heap A8.out 2
        have x3 := cell_of_heap A8.out 3
        simp at x0 x1 x2 x3
        obtain ⟨-, -, cur, hcur⟩ := C8.out.at
        have hcs := ins_at C8.out.row
        have y0 := hcs k HK.out 0 (by omega)
        have f0 := frozen_of_heap hcur (k * 4)
        have y1 := hcs k HK.out 1 (by omega)
        have f1 := frozen_of_heap hcur (k * 4 + 1)
        have y2 := hcs k HK.out 2 (by omega)
        have f2 := frozen_of_heap hcur (k * 4 + 2)
        have y3 := hcs k HK.out 3 (by omega)
        have f3 := frozen_of_heap hcur (k * 4 + 3)
        simp only [Nat.add_zero, Nat.zero_add] at y0 y1 y2 y3
        clear hcur hcs
        have HR := hid (HE.out Z _ C8.out (by omega) ⟨op, a, m8, c⟩)
        unfold quad at HR
        dsimp only at HR
        go_wp2_with fail
        go_ret
        exact HR.out
      · have HW3 : Hid (wrap64 ((L : Int) + 2) = (L : Int) + 2) := by show _ = _; have := HL.out; have := HCl.out; unfold wrap64; omega
        have hp3 : (0 : Int) < (L : Int) + 2 := by omega
        have HP3 := hid hp3
        clear hp3
        go_wp2_with fail
        rw [HW3.out]
        refine (rdr_pick C6.out.rd (by have := HQ.out; have := H0.out.2.1; omega) ((L : Int) + 2) HP3.out).mono ?_
        rintro e W7 ⟨m8, rfl, hm80, hm81, hr7, hg7, -, ho7⟩
        have C7 := hid (C6.out.pick hr7 hg7)
        have A7 := hid ((ho7 q (by have := HQg.out.2; have := C6.out.lo; omega)).trans A6.out)
        clear hr7 hg7 ho7
        have x0 := cell_of_heap A7.out 3
        have z0 := frozen_of_heap A7.out 3
        simp at x0
        have C8 := hid (C7.out.set H0.out.1 HQg.out.2 HQg.out.1 3 (.int .i64 m8))
        have A8 := hid (box_set A7.out (.int .i64 m8)).2.2
        obtain ⟨Z, hZ⟩ : ∃ Z, W7.setCell ⟨q, 3, none⟩ (.int .i64 m8) = Z := ⟨_, rfl⟩
        rw [hZ] at C8 A8
        have HZ := hid hZ
        clear hZ
        go_upto_region 20 with fail
        rw [HZ.out]
        clear HZ x0 z0
        have x0 := cell_of_heap A8.out 0
        have x1 := cell_of_heap A8.out 1
        have x2 := cell_of_heap A8.out 2
        have x3 := cell_of_heap A8.out 3
        simp at x0 x1 x2 x3
        obtain ⟨-, -, cur, hcur⟩ := C8.out.at
        have hcs := ins_at C8.out.row
        have y0 := hcs k HK.out 0 (by omega)
        have f0 := frozen_of_heap hcur (k * 4)
        have y1 := hcs k HK.out 1 (by omega)
        have f1 := frozen_of_heap hcur (k * 4 + 1)
        have y2 := hcs k HK.out 2 (by omega)
        have f2 := frozen_of_heap hcur (k * 4 + 2)
        have y3 := hcs k HK.out 3 (by omega)
        have f3 := frozen_of_heap hcur (k * 4 + 3)
        simp only [Nat.add_zero, Nat.zero_add] at y0 y1 y2 y3
        clear hcur hcs
        have HR := hid (HE.out Z _ C8.out (by omega) ⟨op, a, b, m8⟩)
        unfold quad at HR
        dsimp only at HR
        go_wp2_with fail
        go_ret
        exact HR.out
      · have x0 := cell_of_heap A6.out 0
        have x1 := cell_of_heap A6.out 1
        have x2 := cell_of_heap A6.out 2
        have x3 := cell_of_heap A6.out 3
        have z0 := frozen_of_heap A6.out 0
        have z1 := frozen_of_heap A6.out 1
        have z2 := frozen_of_heap A6.out 2
        have z3 := frozen_of_heap A6.out 3
        simp at x0 x1 x2 x3
        have C8 := hid ((((C6.out.set H0.out.1 HQg.out.2 HQg.out.1 0 (.int .i64 13)).set H0.out.1 HQg.out.2 HQg.out.1 1 (.int .i64 0)).set H0.out.1 HQg.out.2 HQg.out.1 2 (.int .i64 0)).set H0.out.1 HQg.out.2 HQg.out.1 3 (.int .i64 0))
        have A8 := hid (box_set (box_set (box_set (box_sets A6.out (.int .i64 13)) (.int .i64 0)).1 (.int .i64 0)).2.1 (.int .i64 0)).2.2
        obtain ⟨Z, hZ⟩ : ∃ Z, (((W6.setCell ⟨q, 0, none⟩ (.int .i64 13)).setCell ⟨q, 1, none⟩ (.int .i64 0)).setCell ⟨q, 2, none⟩ (.int .i64 0)).setCell ⟨q, 3, none⟩ (.int .i64 0) = Z := ⟨_, rfl⟩
        rw [hZ] at C8 A8
        have HZ := hid hZ
        clear hZ
        go_upto_region 20 with fail
        rw [HZ.out]
        clear HZ x0 x1 x2 x3 z0 z1 z2 z3
        have x0 := cell_of_heap A8.out 0
        have x1 := cell_of_heap A8.out 1
        have x2 := cell_of_heap A8.out 2
        have x3 := cell_of_heap A8.out 3
        simp at x0 x1 x2 x3
        obtain ⟨-, -, cur, hcur⟩ := C8.out.at
        have hcs := ins_at C8.out.row
        have y0 := hcs k HK.out 0 (by omega)
        have f0 := frozen_of_heap hcur (k * 4)
        have y1 := hcs k HK.out 1 (by omega)
        have f1 := frozen_of_heap hcur (k * 4 + 1)
        have y2 := hcs k HK.out 2 (by omega)
        have f2 := frozen_of_heap hcur (k * 4 + 2)
        have y3 := hcs k HK.out 3 (by omega)
        have f3 := frozen_of_heap hcur (k * 4 + 3)
        simp only [Nat.add_zero, Nat.zero_add] at y0 y1 y2 y3
        clear hcur hcs
        have HR := hid (HE.out Z _ C8.out (by omega) ⟨13, 0, 0, 0⟩)
        unfold quad at HR
        dsimp only at HR
        go_wp2_with fail
        go_ret
        exact HR.out
      · have x0 := cell_of_heap A6.out 0
        have x1 := cell_of_heap A6.out 1
        have x2 := cell_of_heap A6.out 2
        have x3 := cell_of_heap A6.out 3
        have z0 := frozen_of_heap A6.out 0
        have z1 := frozen_of_heap A6.out 1
        have z2 := frozen_of_heap A6.out 2
        have z3 := frozen_of_heap A6.out 3
        simp at x0 x1 x2 x3
        have C8 := hid ((((C6.out.set H0.out.1 HQg.out.2 HQg.out.1 0 (.int .i64 3)).set H0.out.1 HQg.out.2 HQg.out.1 1 (.int .i64 0)).set H0.out.1 HQg.out.2 HQg.out.1 2 (.int .i64 0)).set H0.out.1 HQg.out.2 HQg.out.1 3 (.int .i64 0))
        have A8 := hid (box_set (box_set (box_set (box_sets A6.out (.int .i64 3)) (.int .i64 0)).1 (.int .i64 0)).2.1 (.int .i64 0)).2.2
        obtain ⟨Z, hZ⟩ : ∃ Z, (((W6.setCell ⟨q, 0, none⟩ (.int .i64 3)).setCell ⟨q, 1, none⟩ (.int .i64 0)).setCell ⟨q, 2, none⟩ (.int .i64 0)).setCell ⟨q, 3, none⟩ (.int .i64 0) = Z := ⟨_, rfl⟩
        rw [hZ] at C8 A8
        have HZ := hid hZ
        clear hZ
        go_upto_region 20 with fail
        rw [HZ.out]
        clear HZ x0 x1 x2 x3 z0 z1 z2 z3
        have x0 := cell_of_heap A8.out 0
        have x1 := cell_of_heap A8.out 1
        have x2 := cell_of_heap A8.out 2
        have x3 := cell_of_heap A8.out 3
        simp at x0 x1 x2 x3
        obtain ⟨-, -, cur, hcur⟩ := C8.out.at
        have hcs := ins_at C8.out.row
        have y0 := hcs k HK.out 0 (by omega)
        have f0 := frozen_of_heap hcur (k * 4)
        have y1 := hcs k HK.out 1 (by omega)
        have f1 := frozen_of_heap hcur (k * 4 + 1)
        have y2 := hcs k HK.out 2 (by omega)
        have f2 := frozen_of_heap hcur (k * 4 + 2)
        have y3 := hcs k HK.out 3 (by omega)
        have f3 := frozen_of_heap hcur (k * 4 + 3)
        simp only [Nat.add_zero, Nat.zero_add] at y0 y1 y2 y3
        clear hcur hcs
        have HR := hid (HE.out Z _ C8.out (by omega) ⟨3, 0, 0, 0⟩)
        unfold quad at HR
        dsimp only at HR
        go_wp2_with fail
        go_ret
        exact HR.out
      · obtain ⟨-, -, cur, hcur⟩ := C6.out.at
        have hcap : L ≤ cpv := by obtain ⟨-, ⟨h1, -⟩ | ⟨g', cap', cur', e, -, -, h2, -⟩⟩ := C6.out.row; cases h1; cases e; rw [HL.out] at h2; exact h2
        have hkL : k < L := by have := HK.out; have := HL.out; omega
        have hkc : (k : Int) ≤ (cpv : Int) := by omega
        have HW1 : Hid (wrap64 ((k : Int) + 1) = ((k + 1 : Nat) : Int)) := by show _ = _; have := HCl.out; have := HL.out; unfold wrap64; omega
        clear hcur
        go_upto_region 19 with fail
        have hD : Below W6.heap.size W6 W6.drew := (Below.refl _ _).drew
        obtain ⟨D, hDe⟩ : ∃ D, W6.drew = D := ⟨_, rfl⟩
        rw [hDe] at hD
        have CD := hid (C6.out.below hD)
        refine pick_begin (S := fun _ => True) (by kernel_rfl) rfl rfl ?_
        rw [hDe]
        clear hDe hD
        have hk9 : ¬ cpv < k := by omega
        have he9 : k + 1 ≤ L := by omega
        have he8 : ((k + 1 : Nat) : Int) ≤ (L : Int) := by omega
        obtain ⟨o3, ho3, hO3⟩ : ∃ o3, (if cpv = k + 1 then some (⟨g, 0, none⟩ : Addr) else some ⟨g, (k + 1) * 4, none⟩) = some ⟨g, o3, none⟩ ∧ (cs.drop (k + 1) = [] ∨ o3 = (k + 1) * 4) := by
          by_cases h : cpv = k + 1
          · exact ⟨0, by rw [if_pos h], Or.inl (List.drop_eq_nil_of_le (by have := HL.out; omega))⟩
          · exact ⟨(k + 1) * 4, by rw [if_neg h], Or.inr rfl⟩
        have HO3 := hid hO3
        clear hO3
        refine pick_op (i := 1) (v := .slice (some ⟨g, 0, none⟩) L cpv) (by kernel_rfl) rfl (by kernel_rfl) (by kernel_rfl) rfl rfl (fun w' _ => by simp [go_sem]) trivial (by simp [go_sem]; exact rfl) ?_
        refine pick_op (i := 2) (v := .int .i64 (k : Int)) (by kernel_rfl) rfl (by kernel_rfl) (by kernel_rfl) rfl rfl (fun w' _ => by simp [go_sem]) trivial (by simp [go_sem]; exact rfl) ?_
        refine pick_op (i := 3) (v := .slice (some ⟨g, 0, none⟩) k cpv) (by kernel_rfl) rfl (by kernel_rfl) (by kernel_rfl) rfl rfl (fun w' _ => by simp [go_sem, Try.underlying23, hk9]) trivial (by simp [go_sem]; exact rfl) ?_
        refine pick_op (i := 5) (v := .slice (some ⟨g, 0, none⟩) L cpv) (by kernel_rfl) rfl (by kernel_rfl) (by kernel_rfl) rfl rfl (fun w' _ => by simp [go_sem]) trivial (by simp [go_sem]; exact rfl) ?_
        refine pick_op (i := 6) (v := .int .i64 (k : Int)) (by kernel_rfl) rfl (by kernel_rfl) (by kernel_rfl) rfl rfl (fun w' _ => by simp [go_sem]) trivial (by simp [go_sem]; exact rfl) ?_
        refine pick_op (i := 7) (v := .int .i64 (wrap64 ((k : Int) + 1))) (by kernel_rfl) rfl (by kernel_rfl) (by kernel_rfl) rfl rfl (fun w' _ => by simp [go_sem]; exact IntWalk.i64_left _) trivial (by simp [go_sem]; exact rfl) ?_
        rw [HW1.out]
        obtain ⟨k1, hk1⟩ : ∃ k1, k + 1 = k1 := ⟨_, rfl⟩
        rw [hk1] at ho3 he9 HO3 ⊢
        have HK1 := hid hk1
        clear hk1 he8 HW1
        refine pick_op (i := 8) (v := .slice (some ⟨g, o3, none⟩) (L - k1) (cpv - k1)) (by kernel_rfl) rfl (by kernel_rfl) (by kernel_rfl) rfl rfl (fun w' _ => by simp [go_sem, Try.underlying23, he9, ho3]) trivial (by simp [go_sem]; exact rfl) ?_
        have OW0 := hid (ins_made D)
        have BL0 : Hid (Below D.heap.size D (D.alloc (.cells #[] 37))) := (Below.refl _ _).alloc (Nat.le_refl _) _
        refine pick_make (i := 0) (v := .slice (some ⟨D.heap.size, 0, none⟩) 0 0) (w1 := D.alloc (.cells #[] 37)) rfl (by kernel_rfl) rfl rfl (by simp [go_sem]) trivial (by simp [go_sem]; exact rfl) ?_
        generalize D.alloc (.cells #[] 37) = Y0 at *
        have HNs := hid (fun (Y : World) (hb : Below D.heap.size D Y) => ins_at (CD.out.below hb).row)
        have HLn : Hid ((cs.take k).length = k ∧ (cs.drop k1).length = L - k1) := ⟨by rw [List.length_take]; have := HK.out; omega, by rw [List.length_drop, HL.out]⟩
        obtain ⟨v1, Y1, hrun, hown, hgr⟩ := app_ins (b := g) (off := 0) (cap := cpv) OW0.out (m := cs.take k) (by have h := ins_part (k := 0) (l := cs.take k) (r := cs.drop k) (HNs.out Y0 BL0.out) (by rw [List.drop_zero, List.take_append_drop]); rwa [Nat.zero_mul] at h) (by rw [HLn.out.1]; have := HCl.out; have := HK.out; simp; omega) BL0.out.size 23
        have OW1 := hid hown
        have BL1 : Hid (Below D.heap.size D Y1) := BL0.out.grown hgr BL0.out.size (fun x hx => (OW0.out.lt x hx).1)
        rw [HLn.out.1] at hrun
        obtain ⟨ad1, cp1, hv1⟩ := g_is hown
        obtain ⟨l1, hl1⟩ : ∃ l, (([] : List In) ++ cs.take k).length = l := ⟨_, rfl⟩
        rw [hl1] at hv1
        subst hv1
        clear hown hgr hl1
        refine pick_make (i := 4) (v := .slice ad1 l1 cp1) (w1 := Y1) rfl (by kernel_rfl) rfl rfl (append_runN (s := .tmp 67) (x := .tmp 70) (t := 23) rfl rfl rfl hrun) trivial (by simp [go_sem]; exact rfl) ?_
        clear hrun
        have HLl : Hid ((([] : List In) ++ cs.take k).length + (cs.drop k1).length ≤ 950000) := by show _ ≤ _; have h1 := HLn.out.2; have h2 := HLn.out.1; have h3 := HCl.out; have h4 := HL.out; have h5 := HK1.out; rw [List.nil_append]; omega
        obtain ⟨v2, Y2, hrun, hown, hgr⟩ := app_ins (b := g) (off := o3) (cap := cpv - k1) OW1.out (m := cs.drop k1) (ins_last HO3.out (HNs.out Y1 BL1.out)) (by have := HLl.out; omega) BL1.out.size 23
        have OW2 := hid hown
        have BL2 : Hid (Below D.heap.size D Y2) := BL1.out.grown hgr BL1.out.size (fun x hx => (OW1.out.lt x hx).1)
        rw [HLn.out.2] at hrun
        obtain ⟨ad2, cp2, hv2⟩ := g_is hown
        obtain ⟨l2, hl2⟩ : ∃ l, ((([] : List In) ++ cs.take k) ++ cs.drop k1).length = l := ⟨_, rfl⟩
        rw [hl2] at hv2
        subst hv2
        clear hown hgr hl2
        refine pick_make (i := 9) (v := .slice ad2 l2 cp2) (w1 := Y2) rfl (by kernel_rfl) rfl rfl (append_runN (s := .tmp 71) (x := .tmp 75) (t := 23) rfl rfl rfl hrun) trivial (by simp [go_sem]; exact rfl) ?_
        clear hrun
        refine pick_op (i := 10) (v := .slice ad2 l2 cp2) (by kernel_rfl) rfl (by kernel_rfl) (by kernel_rfl) rfl rfl (fun w' _ => by simp [go_sem]) trivial (by simp [go_sem]; exact rfl) ?_
        refine pick_end (by kernel_rfl) ?_
        have CE := hid (CD.out.below BL2.out)
        have HDs : Hid (W.heap.size ≤ D.heap.size) := CD.out.gr.size
        have HR : Hid (CodePost d W p (.returned (.slice ad2 l2 cp2)) Y2) := ⟨_, _, _, rfl, own_base OW2.out HDs.out, by rw [List.length_append]; have := HLl.out; omega, CE.out.rd, by have := HQ.out; omega, CE.out.gr⟩
        clear hk9 he9 ho3 hkc hkL hcap
        go_wp2_with fail
        go_ret
        exact HR.out
    · have z4 : ¬ ((0 : Int) < (L : Int)) := hL0
      go_wp2_with fail
      go_ret
      exact FIN.out
  · have z4 : (m4 == 0) = false := by simp [h4]
    go_wp2_with fail
    go_ret
    exact FIN.out
end Go.Proofs.Ytnbmhopoiijhoaa

/- The reader of drawn numbers: opened over bytes, and drawn from. -/
namespace Go.Proofs.Ytnbmhopoiijhoaa
open Go.RowKit

/-- A slice of bytes in a world. -/
def BytesAt (w : World) (a0 : Option Addr) (len : Nat) : Prop :=
  0 < len → ∃ b off, a0 = some ⟨b, off, none⟩ ∧ b < w.heap.size ∧ ∀ i, i < len → ∃ z, w.cell? ⟨b, off + i, none⟩ = some (.int .u8 z) ∧ 0 ≤ z ∧ z ≤ 255

set_option maxRecDepth 100000 in
theorem ropen_calls (a0 : Option Addr) (len cap : Nat) (w : World) (hlen : len ≤ 1000000000) (hb : len ≤ cap) :
    Calls Try.prog 11 #[.slice a0 len cap] w fun e w' => e = .returned (.pointer (some ⟨w.heap.size, 0, none⟩)) ∧
      ∃ n : Nat, n ≤ len ∧ w' = w.alloc (.cells #[.slice a0 n cap, .int .i64 0] 50) := by
  by_cases h : (2000 : Int) < (len : Int)
  · go_enter Try.func11, Try.ntmps11
    go_wp2
    go_ret
    exact ⟨rfl, 2000, by omega, rfl⟩
  · go_enter Try.func11, Try.ntmps11
    go_wp2
    go_ret
    exact ⟨rfl, len, Nat.le_refl _, rfl⟩

/-- The reader of bytes in block 'B', 'q' numbers drawn. -/
structure RdSt (w0 : World) (B : Nat) (a0 : Option Addr) (n cap : Nat) (q : Nat) (w' : World) : Prop where
  cell0 : w'.cell? ⟨B, 0, none⟩ = some (.slice a0 n cap)
  cell1 : w'.cell? ⟨B, 1, none⟩ = some (.int .i64 q)
  frozen : w'.frozen? ⟨B, 1, none⟩ = false
  bytes : 0 < n → ∃ b off, a0 = some ⟨b, off, none⟩ ∧ b ≠ B ∧ ∀ i, i < n → ∃ z, w'.cell? ⟨b, off + i, none⟩ = some (.int .u8 z) ∧ 0 ≤ z ∧ z ≤ 255
  low : w0.heap.size ≤ B
  below : Below w0.heap.size w0 w'

theorem RdSt.drew {w0 : World} {B : Nat} {a0 : Option Addr} {n cap : Nat} {q : Nat} {w' : World} (h : RdSt w0 B a0 n cap q w') : RdSt w0 B a0 n cap q w'.drew :=
  ⟨h.cell0, h.cell1, h.frozen, h.bytes, h.low, h.below.drew⟩

theorem rd_pick {w0 : World} {B : Nat} {a0 : Option Addr} {n cap : Nat} {q : Nat} {w' : World} (h : RdSt w0 B a0 n cap q w') (hq : q ≤ 1000) (k : Nat) (hk : 0 < k) :
    Calls Try.prog 13 #[.pointer (some ⟨B, 0, none⟩), .int .i64 k] w' fun e w2 => ∃ m : Nat, e = .returned (.int .i64 m) ∧ m < k ∧ RdSt w0 B a0 n cap (q + 1) w2 := by
  refine (pick_calls B a0 n cap q k w' h.cell0 h.cell1 h.frozen (by omega) h.bytes).mono ?_
  rintro e w2 ⟨⟨r, rfl, hr0, hr1⟩, hP⟩
  have hr1 := hr1 (by omega)
  refine ⟨r.toNat, by rw [Int.toNat_of_nonneg hr0], by omega, ?_⟩
  refine ⟨hP.cell0.trans h.cell0, by rw [hP.cell1]; push_cast; rfl, hP.frozen.trans h.frozen, ?_, h.low, h.below.trans (hP.below _ h.low)⟩
  intro hn
  obtain ⟨b, off, ea, hb, hz⟩ := h.bytes hn
  refine ⟨b, off, ea, hb, fun i hi => ?_⟩
  rw [hP.other _ hb]
  exact hz i hi

theorem rd_start (w : World) (a0 : Option Addr) (len cap n : Nat) (hn : n ≤ len) (hB : BytesAt w a0 len) :
    RdSt w w.heap.size a0 n cap 0 (w.alloc (.cells #[.slice a0 n cap, .int .i64 0] 50)) where
  cell0 := by simp [go_sem]
  cell1 := by simp [go_sem]
  frozen := by simp [go_sem]
  bytes := by
    intro h
    obtain ⟨b, off, ea, hb, hz⟩ := hB (by omega)
    refine ⟨b, off, ea, by omega, fun i hi => ?_⟩
    obtain ⟨z, hz, h0, h1⟩ := hz i (by omega)
    refine ⟨z, ?_, h0, h1⟩
    rw [← hz]
    exact (((Below.refl w.heap.size w).alloc (Nat.le_refl _) _).cell (p := ⟨b, off + i, none⟩) hb)
  low := Nat.le_refl _
  below := (Below.refl _ _).alloc (Nat.le_refl _) _

theorem rd_open (a0 : Option Addr) (len cap : Nat) (w : World) (hlen : len ≤ 1000000000) (hb : len ≤ cap) (hB : BytesAt w a0 len) :
    Calls Try.prog 11 #[.slice a0 len cap] w fun e w' => e = .returned (.pointer (some ⟨w.heap.size, 0, none⟩)) ∧
      ∃ n : Nat, n ≤ len ∧ RdSt w w.heap.size a0 n cap 0 w' := by
  refine (ropen_calls a0 len cap w hlen hb).mono ?_
  rintro e w' ⟨rfl, n, hn, rfl⟩
  exact ⟨rfl, n, hn, rd_start w a0 len cap n hn hB⟩

theorem BytesAt.below {w w' : World} {a0 : Option Addr} {len : Nat} (h : BytesAt w a0 len) (hb : Below w.heap.size w w') : BytesAt w' a0 len := by
  intro h0
  obtain ⟨b, off, ea, hlt, hz⟩ := h h0
  refine ⟨b, off, ea, Nat.lt_of_lt_of_le hlt hb.size, fun i hi => ?_⟩
  obtain ⟨z, hz, h0, h1⟩ := hz i hi
  exact ⟨z, by rw [← hz]; exact hb.cell (p := ⟨b, off + i, none⟩) hlt, h0, h1⟩
end Go.Proofs.Ytnbmhopoiijhoaa

/- Lists of bytes in memory: copies, comparisons of two that hold the same, marks. -/
namespace Go.Proofs.Ytnbmhopoiijhoaa
open Go.RowKit

/-- The cells of a list of bytes, told by place. -/
def byteCells (bs : List Int) (i : Nat) : Value := .int .u8 (bs.getD i 0)

def byteMarks (i : Nat) : Value := .int .u8 ((1 + (i : Int)) % 256)

theorem wrap_inc {k n : Nat} (hk : k < n) (hm : n ≤ 1048576) : wrap64 ((k : Int) + 1) = ((k + 1 : Nat) : Int) := by
  unfold wrap64
  omega

theorem wrap_inc2 {x : Int} {k n : Nat} (hx : x = 1 + (k : Int)) (hk : k < n) (hm : n ≤ 1048576) : wrap64 (x + 1) = x + 1 := by
  unfold wrap64
  omega

/-- A slice of these bytes, wherever it begins in its block. -/
def ByteSlice (w : World) (v : Value) (bs : List Int) : Prop :=
  ∃ a cap, v = .slice a bs.length cap ∧ (bs = [] ∨ ∃ b off, a = some ⟨b, off, none⟩ ∧ b < w.heap.size ∧ ∀ k, k < bs.length → w.cell? ⟨b, off + k, none⟩ = some (.int .u8 (bs.getD k 0)))

theorem ByteSlice.below {w w' : World} {v : Value} {bs : List Int} (h : ByteSlice w v bs) (hb : Below w.heap.size w w') : ByteSlice w' v bs := by
  obtain ⟨a, cap, rfl, h⟩ := h
  refine ⟨a, cap, rfl, h.imp id ?_⟩
  rintro ⟨b, off, rfl, hlt, hn⟩
  exact ⟨b, off, rfl, Nat.lt_of_lt_of_le hlt hb.size, fun k hk => (hb.cell hlt).trans (hn k hk)⟩

theorem SliceR.byteSlice {B : Nat} {w : World} {v : Value} {bs : List Int} (h : SliceR 5 1 B w v bs.length (byteCells bs)) : ByteSlice w v bs := by
  obtain ⟨ad, cap, rfl, h⟩ := h
  refine ⟨ad, cap, rfl, ?_⟩
  by_cases h0 : bs = []
  · exact Or.inl h0
  · obtain ⟨g, rfl, _, hr⟩ := h.resolve_left (fun e => h0 (List.length_eq_zero_iff.1 e))
    refine Or.inr ⟨g, 0, rfl, hr.lt, fun k hk => ?_⟩
    rw [Nat.zero_add]
    exact hr.cell (by omega)

theorem byteSliceR_of_owns {B : Nat} {w : World} {v : Value} {bs : List Int} (h : w.ownsRow B 5 1 v bs.length (bs.map (fun b => .int .u8 b))) : SliceR 5 1 B w v bs.length (byteCells bs) := by
  obtain ⟨ad, cap, rfl, h'⟩ := sliceR_of_owns h
  refine ⟨ad, cap, rfl, h'.imp id ?_⟩
  rintro ⟨g, rfl, hB, hr⟩
  refine ⟨g, rfl, hB, hr.congr (fun i hi => ?_)⟩
  have hi' : i < bs.length := by omega
  simp [byteCells, List.getD, hi']

end Go.Proofs.Ytnbmhopoiijhoaa

/- Whether an instruction is one: both sides answer by one and the same table of numbers. -/
namespace Go.Proofs.Ytnbmhopoiijhoaa
open Go.RowKit

/-- How many numbers an instruction has; -1: it is none. -/
def manyZ (op : Int) : Int :=
  if op = 0 ∨ op = 3 ∨ op = 4 ∨ op = 8 ∨ op = 9 ∨ op = 12 ∨ op = 13 ∨ op = 15 ∨ op = 16 ∨ op = 17 ∨ op = 18 ∨ op = 20 ∨ op = 23 then 0
  else if op = 1 ∨ op = 2 ∨ op = 5 ∨ op = 6 ∨ op = 7 ∨ op = 10 ∨ op = 11 ∨ op = 14 ∨ op = 19 ∨ op = 22 then 1
  else if op = 24 ∨ op = 25 then 2
  else if op = 21 then 3
  else -1

theorem ops_cases (op : Int) : (op < 0 ∨ 25 < op) ∨ op = 0 ∨ op = 1 ∨ op = 2 ∨ op = 3 ∨ op = 4 ∨ op = 5 ∨ op = 6 ∨ op = 7 ∨ op = 8 ∨ op = 9 ∨ op = 10 ∨ op = 11 ∨ op = 12 ∨ op = 13 ∨ op = 14 ∨ op = 15 ∨ op = 16 ∨ op = 17 ∨ op = 18 ∨ op = 19 ∨ op = 20 ∨ op = 21 ∨ op = 22 ∨ op = 23 ∨ op = 24 ∨ op = 25 := by omega

set_option maxRecDepth 100000 in
theorem l5Many_calls (op : Int) (w : World) :
    Calls Try.prog 18 #[.int .i64 op] w fun e w' => e = .returned (.int .i64 (manyZ op)) ∧ w = w' := by
  rcases ops_cases op with h | h | h | h | h | h | h | h | h | h | h | h | h | h | h | h | h | h | h | h | h | h | h | h | h | h | h
  case inl =>
    rw [show manyZ op = -1 by unfold manyZ; rw [if_neg (by omega), if_neg (by omega), if_neg (by omega), if_neg (by omega)]]
    have n0 : op ≠ 0 := by omega
    have n1 : op ≠ 1 := by omega
    have n2 : op ≠ 2 := by omega
    have n3 : op ≠ 3 := by omega
    have n4 : op ≠ 4 := by omega
    have n5 : op ≠ 5 := by omega
    have n6 : op ≠ 6 := by omega
    have n7 : op ≠ 7 := by omega
    have n8 : op ≠ 8 := by omega
    have n9 : op ≠ 9 := by omega
    have n10 : op ≠ 10 := by omega
    have n11 : op ≠ 11 := by omega
    have n12 : op ≠ 12 := by omega
    have n13 : op ≠ 13 := by omega
    have n14 : op ≠ 14 := by omega
    have n15 : op ≠ 15 := by omega
    have n16 : op ≠ 16 := by omega
    have n17 : op ≠ 17 := by omega
    have n18 : op ≠ 18 := by omega
    have n19 : op ≠ 19 := by omega
    have n20 : op ≠ 20 := by omega
    have n21 : op ≠ 21 := by omega
    have n22 : op ≠ 22 := by omega
    have n23 : op ≠ 23 := by omega
    have n24 : op ≠ 24 := by omega
    have n25 : op ≠ 25 := by omega
    clear h
    go_enter Try.func18, Try.ntmps18
    go_wp2
    go_ret
    exact ⟨rfl, rfl⟩
  all_goals
    subst h
    go_enter Try.func18, Try.ntmps18
    go_wp2
    go_ret
    exact ⟨rfl, rfl⟩

/-- Whether an instruction with these numbers is one. -/
def insOkZ (op a b c : Int) : Bool :=
  if manyZ op < 0 ∨ (manyZ op < 1 ∧ a ≠ 0) ∨ (manyZ op < 2 ∧ b ≠ 0) ∨ (manyZ op < 3 ∧ c ≠ 0) then false
  else if op = 1 then decide (-2147483648 ≤ a ∧ a ≤ 2147483647)
  else if op = 2 then decide (a = 0 ∨ a = 1)
  else if op = 14 then decide (11 ≤ a ∧ a ≤ 15)
  else if op = 21 ∧ b ≠ 0 ∧ b ≠ 1 then false
  else decide (0 ≤ a ∧ a ≤ 65535 ∧ 0 ≤ b ∧ b ≤ 65535 ∧ 0 ≤ c ∧ c ≤ 65535)

end Go.Proofs.Ytnbmhopoiijhoaa

/- A copy of a list of instructions; two that hold the same compare as alike; marks that are put into one are held by it. -/
namespace Go.Proofs.Ytnbmhopoiijhoaa
open Go.RowKit

/-- The cells of a list of instructions, told by place. -/
def insCells (ns : List In) (i : Nat) : Value := (ns.getD (i / 4) default).cell (i % 4)

theorem insCells_at (ns : List In) (k c : Nat) (hc : c < 4) : insCells ns (k * 4 + c) = (ns.getD k default).cell c := by
  unfold insCells
  rw [show (k * 4 + c) / 4 = k by omega, show (k * 4 + c) % 4 = c by omega]

theorem CellRow.insAt {w : World} {g : Nat} {ns : List In} (h : CellRow 37 w g (ns.length * 4) (insCells ns)) : InsAt w g 0 ns := by
  intro k hk c hc
  have := h.cell (i := k * 4 + c) (by omega)
  rw [insCells_at ns k c hc] at this
  simpa using this

theorem info_ins : (Try.prog.info? 37).map (fun i => (i.zero, i.size, i.bytes)) = some (some (.agg #[.int .i64 0, .int .i64 0, .int .i64 0, .int .i64 0]), 4, 32) := by kernel_rfl

theorem made_ins (len : Nat) (hl : len ≤ 1048576) (w : World) : ∃ c : Array Value, c.size = len * 4 ∧
    (Instr.makeSlice 23 (.int .i64 (len : Int)) (.int .i64 (len : Int))).run Try.prog w = .ok (.slice (some ⟨w.heap.size, 0, none⟩) len len) (w.alloc (.cells c 37)) := by
  obtain ⟨i0, hi, hz0, hz1, hz2⟩ := info_parts info_ins
  have h := run_make (P := Try.prog) w 23 37 i0 _ Try.underlying23 hi hz0 .i64 .i64 len len (by omega) (Int.le_refl _) (by rw [hz2]; omega) (by omega)
  rw [hz1] at h
  simp only [Int.toNat_natCast] at h
  exact ⟨_, size_madeCells _ _, h⟩

/-- One instruction more is stored. -/
theorem ins_step {w1 : World} {B t N k : Nat} {f : Nat → Value} {n : Nat} (a b c d : Value) (h : Rw w1 B t N f n) :
    ∃ f', Rw ((((w1.setCell ⟨B, k * 4, none⟩ a).setCell ⟨B, k * 4 + 1, none⟩ b).setCell ⟨B, k * 4 + 2, none⟩ c).setCell ⟨B, k * 4 + 3, none⟩ d) B t N f' n ∧
      f' (k * 4) = a ∧ f' (k * 4 + 1) = b ∧ f' (k * 4 + 2) = c ∧ f' (k * 4 + 3) = d ∧ ∀ i, i < k * 4 → f' i = f i := by
  refine ⟨_, (((h.set _ _).set _ _).set _ _).set _ _, ?_, ?_, ?_, ?_, fun i hi => ?_⟩
  · rw [if_neg (by omega), if_neg (by omega), if_neg (by omega), if_pos (by omega)]
  · rw [if_neg (by omega), if_neg (by omega), if_pos (by omega)]
  · rw [if_neg (by omega), if_pos (by omega)]
  · rw [if_pos (by omega)]
  · rw [if_neg (by omega), if_neg (by omega), if_neg (by omega), if_neg (by omega)]

theorem ins_more {k : Nat} {f f' F : Nat → Value} (hf : ∀ i, i < k * 4 → f i = F i) (ho : ∀ i, i < k * 4 → f' i = f i)
    (h0 : f' (k * 4) = F (k * 4)) (h1 : f' (k * 4 + 1) = F (k * 4 + 1)) (h2 : f' (k * 4 + 2) = F (k * 4 + 2)) (h3 : f' (k * 4 + 3) = F (k * 4 + 3)) : ∀ i, i < (k + 1) * 4 → f' i = F i := by
  intro i hi
  by_cases h : i < k * 4
  · rw [ho i h, hf i h]
  · have : i = k * 4 ∨ i = k * 4 + 1 ∨ i = k * 4 + 2 ∨ i = k * 4 + 3 := by omega
    rcases this with rfl | rfl | rfl | rfl
    · exact h0
    · exact h1
    · exact h2
    · exact h3

theorem SliceR.insSlice {B : Nat} {w : World} {v : Value} {ns : List In} (h : SliceR 37 4 B w v ns.length (insCells ns)) : InsSlice w v ns := by
  obtain ⟨ad, cap, rfl, h⟩ := h
  refine ⟨ad, cap, rfl, ?_⟩
  by_cases h0 : ns = []
  · exact Or.inl h0
  · obtain ⟨g, rfl, _, hr⟩ := h.resolve_left (fun e => h0 (List.length_eq_zero_iff.1 e))
    exact Or.inr ⟨g, 0, rfl, hr.lt, hr.insAt⟩

end Go.Proofs.Ytnbmhopoiijhoaa

/- The bytes of code, as plain numbers. -/
namespace Go.Proofs.Ytnbmhopoiijhoaa
open Go.RowKit

/-- A number in four bytes, the highest first. -/
def four (n : Int) : List Int := [n / 16777216 % 256, n / 65536 % 256, n / 256 % 256, n % 256]

def In.nums (i : In) : List Int := [i.a, i.b, i.c].take (manyZ i.op).toNat

def In.bytes (i : In) : List Int := (i.op % 256) :: i.nums.flatMap four

def In.ok (i : In) : Bool := insOkZ i.op i.a i.b i.c

def headBytes : List Int := [104, 114, 49]

def codeOkZ (cs : List In) : Bool := decide (cs.length ≤ 1500) && cs.all In.ok

def codeBytesZ (cs : List In) : List Int := headBytes ++ cs.flatMap In.bytes

theorem four_length (n : Int) : (four n).length = 4 := rfl

theorem nums_length (i : In) : i.nums.length ≤ 3 := by
  unfold In.nums
  simp
  omega

theorem flat_length : ∀ ns : List Int, (ns.flatMap four).length = ns.length * 4
  | [] => rfl
  | n :: r => by rw [List.flatMap_cons, List.length_append, flat_length r, List.length_cons, four_length]; omega

theorem bytes_length (i : In) : i.bytes.length ≤ 13 := by
  have := nums_length i
  rw [In.bytes, List.length_cons, flat_length]
  omega

theorem code_length : ∀ cs : List In, (cs.flatMap In.bytes).length ≤ cs.length * 13
  | [] => by simp
  | i :: r => by
    have := bytes_length i
    have := code_length r
    rw [List.flatMap_cons, List.length_append, List.length_cons]
    omega

/-- These bytes lie in a row of the slice's own, from block B on. -/
def OwnsB (B : Nat) (w : World) (v : Value) (bs : List Int) : Prop := w.ownsRow B 5 1 v bs.length (bs.map (fun b => .int .u8 b))

theorem OwnsB.more {B k : Nat} {w : World} {v : Value} {bs ns : List Int} {news : List Value} (h : w.ownsRow B 5 1 v (bs.length + k) (bs.map (fun b => .int .u8 b) ++ news)) (e : news = ns.map (fun b => .int .u8 b)) (hk : k = ns.length) : OwnsB B w v (bs ++ ns) := by
  subst e hk
  unfold OwnsB
  rw [List.length_append, List.map_append]
  exact h

theorem OwnsB.mono {B B' : Nat} {w : World} {v : Value} {bs : List Int} (h : OwnsB B w v bs) (hB : B' ≤ B) : OwnsB B' w v bs := by
  refine ⟨h.1, h.2.imp id ?_⟩
  rintro ⟨g, cap, cur, e, hg, r⟩
  exact ⟨g, cap, cur, e, Nat.le_trans hB hg, r⟩

theorem owns_ne {w : World} {base b : Nat} {e t : TypeId} {size : Nat} {v : Value} {n : Nat} {xs : List Value} {c : Array Value} (h : w.ownsRow base e size v n xs) (hb : w.heap[b]? = some (.cells c t)) (hne : e ≠ t) : some b ≠ v.ownBlock := by
  intro hv
  rcases h.2 with ⟨rfl, hn⟩ | ⟨g, cap, cur, rfl, hB, hg, _⟩
  · cases hv
  · simp [Value.ownBlock] at hv
    subst hv
    rw [hb] at hg
    simp at hg
    exact hne hg.2.symm

theorem info_byte : (Try.prog.info? 5).map (fun i => (i.zero, i.size, i.bytes)) = some (some (.int .u8 0), 1, 1) := by kernel_rfl

theorem cell_oneC (w : World) (n : Nat) (hn : n = w.heap.size) (a : Value) (t : TypeId) : ∀ j u, [a][j]? = some u → (w.alloc (.cells #[a] t)).cell? ((⟨n, 0, none⟩ : Addr).add j) = some u := by
  subst hn
  intro j u hj
  match j, hj with
  | 0, hj => simp at hj; subst hj; simp [Addr.add]
  | j + 1, hj => simp at hj

theorem cell_four_new (w : World) (n : Nat) (hn : n = w.heap.size) (a b c d : Value) (t : TypeId) : ∀ j u, [a, b, c, d][j]? = some u → (w.alloc (.cells #[a, b, c, d] t)).cell? ((⟨n, 0, none⟩ : Addr).add j) = some u := by
  subst hn
  intro j u hj
  match j, hj with
  | 0, hj => simp at hj; subst hj; simp [Addr.add]
  | 1, hj => simp at hj; subst hj; simp [Addr.add]
  | 2, hj => simp at hj; subst hj; simp [Addr.add]
  | 3, hj => simp at hj; subst hj; simp [Addr.add]
  | j + 4, hj => simp at hj

theorem head_owns (w : World) : OwnsB w.heap.size (w.alloc (.cells #[.int .u8 104, .int .u8 114, .int .u8 49] 5)) (.slice (some ⟨w.heap.size, 0, none⟩) 3 3) headBytes := by
  refine ⟨rfl, Or.inr ⟨w.heap.size, 3, _, rfl, Nat.le_refl _, (MapKept.heap_alloc w _).1, Nat.le_refl _, by decide, rfl, rfl⟩⟩

theorem ins_drop {cs : List In} {k : Nat} (hk : k < cs.length) : cs.take (k + 1) = cs.take k ++ [cs.getD k default] := by
  rw [List.take_succ_eq_append_getElem hk]
  simp [List.getD, List.getElem?_eq_getElem hk]
end Go.Proofs.Ytnbmhopoiijhoaa

/- A number of four bytes. -/
namespace Go.Proofs.Ytnbmhopoiijhoaa
open Go.RowKit

/-- A byte's range. -/
def IsB (x : Int) : Prop := 0 ≤ x ∧ x < 256

/-- The number of 32 bits that four bytes are, the highest first. -/
def num4 (x0 x1 x2 x3 : Int) : Int := wrap32 (x0 * 16777216 + x1 * 65536 + x2 * 256 + x3)

theorem or_step (i m a b : Nat) (hm : m = 2 ^ i) (hb : b < m) : (a * m) ||| b = a * m + b := by
  subst hm
  rw [Nat.mul_comm, Nat.two_pow_add_eq_or_of_lt hb]

theorem bits4 (x0 x1 x2 x3 : Int) (h0 : IsB x0) (h1 : IsB x1) (h2 : IsB x2) (h3 : IsB x3) :
    bits BinOp.or IntKind.u32 (bits BinOp.or IntKind.u32 (bits BinOp.or IntKind.u32 (x0 % 4294967296 * 16777216 % 4294967296) (x1 % 4294967296 * 65536 % 4294967296)) (x2 % 4294967296 * 256 % 4294967296)) (x3 % 4294967296) = x0 * 16777216 + x1 * 65536 + x2 * 256 + x3 := by
  obtain ⟨a, rfl⟩ : ∃ a : Nat, x0 = (a : Int) := ⟨x0.toNat, by unfold IsB at h0; omega⟩
  obtain ⟨b, rfl⟩ : ∃ b : Nat, x1 = (b : Int) := ⟨x1.toNat, by unfold IsB at h1; omega⟩
  obtain ⟨c, rfl⟩ : ∃ c : Nat, x2 = (c : Int) := ⟨x2.toNat, by unfold IsB at h2; omega⟩
  obtain ⟨d, rfl⟩ : ∃ d : Nat, x3 = (d : Int) := ⟨x3.toNat, by unfold IsB at h3; omega⟩
  unfold IsB at *
  have e0 : (a : Int) % 4294967296 * 16777216 % 4294967296 = ((a * 16777216 : Nat) : Int) := by omega
  have e1 : (b : Int) % 4294967296 * 65536 % 4294967296 = ((b * 65536 : Nat) : Int) := by omega
  have e2 : (c : Int) % 4294967296 * 256 % 4294967296 = ((c * 256 : Nat) : Int) := by omega
  have e3 : (d : Int) % 4294967296 = ((d : Nat) : Int) := by omega
  rw [e0, e1, e2, e3]
  have f1 : (a * 16777216) ||| (b * 65536) = (a * 256 + b) * 65536 := by
    rw [or_step 24 16777216 a (b * 65536) (by decide) (by omega)]
    omega
  rw [u32_or_nat _ _ (by omega) (by omega), f1]
  have f2 : ((a * 256 + b) * 65536) ||| (c * 256) = ((a * 256 + b) * 256 + c) * 256 := by
    rw [or_step 16 65536 (a * 256 + b) (c * 256) (by decide) (by omega)]
    omega
  rw [u32_or_nat _ _ (by omega) (by omega), f2]
  have f3 : (((a * 256 + b) * 256 + c) * 256) ||| d = ((a * 256 + b) * 256 + c) * 256 + d := or_step 8 256 ((a * 256 + b) * 256 + c) d (by decide) (by omega)
  rw [u32_or_nat _ _ (by omega) (by omega), f3]
  omega

theorem wrap_wrap (n : Int) : wrap64 (wrap32 n) = wrap32 n := by
  unfold wrap64 wrap32
  omega

theorem four_num (x0 x1 x2 x3 : Int) (h0 : IsB x0) (h1 : IsB x1) (h2 : IsB x2) (h3 : IsB x3) : four (num4 x0 x1 x2 x3) = [x0, x1, x2, x3] := by
  unfold IsB at *
  unfold four num4 wrap32
  have e0 : ((x0 * 16777216 + x1 * 65536 + x2 * 256 + x3 + 2147483648) % 4294967296 - 2147483648) / 16777216 % 256 = x0 := by omega
  have e1 : ((x0 * 16777216 + x1 * 65536 + x2 * 256 + x3 + 2147483648) % 4294967296 - 2147483648) / 65536 % 256 = x1 := by omega
  have e2 : ((x0 * 16777216 + x1 * 65536 + x2 * 256 + x3 + 2147483648) % 4294967296 - 2147483648) / 256 % 256 = x2 := by omega
  have e3 : ((x0 * 16777216 + x1 * 65536 + x2 * 256 + x3 + 2147483648) % 4294967296 - 2147483648) % 256 = x3 := by omega
  rw [e0, e1, e2, e3]

set_option maxHeartbeats 1000000 in
set_option maxRecDepth 100000 in
theorem l5Number_calls (b off len cap : Nat) (x0 x1 x2 x3 : Int) (w : World) (hl : 4 ≤ len) (b0 : IsB x0) (b1 : IsB x1) (b2 : IsB x2) (b3 : IsB x3)
    (h0 : w.cell? ⟨b, off, none⟩ = some (.int .u8 x0)) (h1 : w.cell? ⟨b, off + 1, none⟩ = some (.int .u8 x1)) (h2 : w.cell? ⟨b, off + 2, none⟩ = some (.int .u8 x2)) (h3 : w.cell? ⟨b, off + 3, none⟩ = some (.int .u8 x3)) :
    Calls Try.prog 22 #[.slice (some ⟨b, off, none⟩) len cap] w fun e w' => e = .returned (.int .i64 (num4 x0 x1 x2 x3)) ∧ Below w.heap.size w w' := by
  have HB := hid (bits4 x0 x1 x2 x3 b0 b1 b2 b3)
  have g0 : (0 : Int) < (len : Int) := by omega
  have g1 : (1 : Int) < (len : Int) := by omega
  have g2 : (2 : Int) < (len : Int) := by omega
  have g3 : (3 : Int) < (len : Int) := by omega
  obtain ⟨R, hR⟩ : ∃ R, num4 x0 x1 x2 x3 = R := ⟨_, rfl⟩
  have HR := hid hR
  rw [hR]
  clear hR b0 b1 b2 b3
  go_enter Try.func22, Try.ntmps22
  go_wp2
  go_quiet (fail)
  go_wp2
  go_ret
  rw [HB.out, wrap_wrap]
  exact ⟨by rw [← HR.out]; rfl, below_drewN (Below.refl _ _) _⟩
end Go.Proofs.Ytnbmhopoiijhoaa

/- The program's test of an instruction answers by the table. -/
namespace Go.Proofs.Ytnbmhopoiijhoaa
open Go.RowKit

/-- How many numbers an instruction has; 0 of what is none. -/
def numsZ (op : Int) : Int :=
  if op = 1 ∨ op = 2 ∨ op = 5 ∨ op = 6 ∨ op = 7 ∨ op = 10 ∨ op = 11 ∨ op = 14 ∨ op = 19 ∨ op = 22 then 1
  else if op = 24 ∨ op = 25 then 2
  else if op = 21 then 3
  else 0

theorem numsZ_many (op : Int) : numsZ op = if manyZ op < 0 then 0 else manyZ op := by
  unfold numsZ manyZ
  repeat' split
  all_goals omega

set_option maxHeartbeats 1000000 in
set_option maxRecDepth 100000 in
theorem insNumbers_calls (op : Int) (w : World) :
    Calls Try.prog 28 #[.int .i64 op] w fun e w' => e = .returned (.int .i64 (numsZ op)) ∧ w = w' := by
  go_enter Try.func28, Try.ntmps28
  go_wp2
  all_goals
    go_ret
    refine ⟨?_, rfl⟩
    simp_all [numsZ]

def insLeast (op place : Int) : Int :=
  if numsZ op ≤ place then 0 else if op = 1 then -2147483648 else if op = 14 then 11 else 0

def insMost (op place : Int) : Int :=
  if numsZ op ≤ place then 0 else if op = 1 then 2147483647 else if op = 14 then 15 else if op = 2 ∨ (op = 21 ∧ place = 1) then 1 else 65535

set_option maxHeartbeats 1000000 in
set_option maxRecDepth 100000 in
theorem insRange_calls (op place : Int) (w : World) :
    Calls Try.prog 41 #[.int .i64 op, .int .i64 place] w fun e w' => e = .returned (.tuple #[.int .i64 (insLeast op place), .int .i64 (insMost op place)]) ∧ w = w' := by
  go_enter Try.func41, Try.ntmps41
  go_wp2_with fail
  refine (insNumbers_calls _ _).mono ?_
  rintro e w1 ⟨rfl, rfl⟩
  go_wp2_with fail
  all_goals
    go_ret2
    refine ⟨?_, rfl⟩
    simp_all [insLeast, insMost]

theorem insOkZ_out {op : Int} (a b c : Int) (h : op < 0 ∨ 25 < op) : insOkZ op a b c = false := by
  have : manyZ op = -1 := by
    unfold manyZ
    rw [if_neg (by omega), if_neg (by omega), if_neg (by omega), if_neg (by omega)]
  unfold insOkZ
  rw [this]
  simp

theorem insOkZ_in {op : Int} (a b c : Int) (h0 : 0 ≤ op) (h1 : op ≤ 25) :
    insOkZ op a b c = decide ((insLeast op 0 ≤ a ∧ a ≤ insMost op 0) ∧ (insLeast op 1 ≤ b ∧ b ≤ insMost op 1) ∧ (insLeast op 2 ≤ c ∧ c ≤ insMost op 2)) := by
  rcases ops_cases op with h | h | h | h | h | h | h | h | h | h | h | h | h | h | h | h | h | h | h | h | h | h | h | h | h | h | h
  case inl => omega
  all_goals
    subst h
    simp only [insOkZ, manyZ, insLeast, insMost, numsZ]
    apply Bool.eq_iff_iff.mpr
    simp
    try omega

set_option maxHeartbeats 1000000 in
set_option maxRecDepth 100000 in
theorem implInsOk_calls (op a b c : Int) (w : World) :
    Calls Try.prog 27 #[.agg #[.int .i64 op, .int .i64 a, .int .i64 b, .int .i64 c]] w fun e w' => e = .returned (.bool (insOkZ op a b c)) ∧ Below w.heap.size w w' := by
  have hop : op < 0 ∨ (0 ≤ op ∧ 25 < op) ∨ (0 ≤ op ∧ op ≤ 25) := by omega
  rcases hop with h | ⟨h, h'⟩ | ⟨h, h'⟩
  · rw [insOkZ_out a b c (Or.inl h)]
    go_enter Try.func27, Try.ntmps27
    go_wp2_with fail
    go_ret
    exact ⟨rfl, (Below.refl _ _).alloc (Nat.le_refl _) _⟩
  · rw [insOkZ_out a b c (Or.inr h')]
    go_enter Try.func27, Try.ntmps27
    go_wp2_with fail
    go_ret
    exact ⟨rfl, (Below.refl _ _).alloc (Nat.le_refl _) _⟩
  · have H0 : Hid (∀ w, _) := fun w => insRange_calls op 0 w
    have H1 : Hid (∀ w, _) := fun w => insRange_calls op 1 w
    have H2 : Hid (∀ w, _) := fun w => insRange_calls op 2 w
    rw [insOkZ_in a b c h h']
    generalize insLeast op 0 = l0 at *
    generalize insLeast op 1 = l1 at *
    generalize insLeast op 2 = l2 at *
    generalize insMost op 0 = m0 at *
    generalize insMost op 1 = m1 at *
    generalize insMost op 2 = m2 at *
    have i0 : ∀ w, (Instr.index 83 (.agg #[.int .i64 a, .int .i64 b, .int .i64 c]) (.int .i64 0)).run Try.prog w = .ok (.int .i64 a) w := fun _ => by kernel_rfl
    have i1 : ∀ w, (Instr.index 83 (.agg #[.int .i64 a, .int .i64 b, .int .i64 c]) (.int .i64 1)).run Try.prog w = .ok (.int .i64 b) w := fun _ => by kernel_rfl
    have i2 : ∀ w, (Instr.index 83 (.agg #[.int .i64 a, .int .i64 b, .int .i64 c]) (.int .i64 2)).run Try.prog w = .ok (.int .i64 c) w := fun _ => by kernel_rfl
    generalize hr : decide ((l0 ≤ a ∧ a ≤ m0) ∧ (l1 ≤ b ∧ b ≤ m1) ∧ (l2 ≤ c ∧ c ≤ m2)) = r
    have HF : Hid (¬ ((l0 ≤ a ∧ a ≤ m0) ∧ (l1 ≤ b ∧ b ≤ m1) ∧ (l2 ≤ c ∧ c ≤ m2)) → r = false) := fun hn => by rw [← hr]; exact decide_eq_false hn
    have HT : Hid (((l0 ≤ a ∧ a ≤ m0) ∧ (l1 ≤ b ∧ b ≤ m1) ∧ (l2 ≤ c ∧ c ≤ m2)) → r = true) := fun hn => by rw [← hr]; exact decide_eq_true hn
    clear hr
    go_enter Try.func27, Try.ntmps27
    go_wp2_with fail
    refine wp_loop_rounds 4 ?_
    rw [rounds_succ]
    go_wp2_with fail
    refine (H0.out _).mono ?_
    rintro e w1 ⟨rfl, rfl⟩
    have ha : a < l0 ∨ (l0 ≤ a ∧ m0 < a) ∨ (l0 ≤ a ∧ a ≤ m0) := by omega
    rcases ha with ha | ⟨ha, ha'⟩ | ⟨ha, ha'⟩
    · go_wp2_with fail
      go_ret
      exact ⟨by rw [HF.out (by omega)]; rfl, (Below.refl _ _).alloc (Nat.le_refl _) _⟩
    · go_wp2_with fail
      go_ret
      exact ⟨by rw [HF.out (by omega)]; rfl, (Below.refl _ _).alloc (Nat.le_refl _) _⟩
    go_wp2_with fail
    rw [rounds_succ]
    go_wp2_with fail
    refine (H1.out _).mono ?_
    rintro e w1 ⟨rfl, rfl⟩
    have hb : b < l1 ∨ (l1 ≤ b ∧ m1 < b) ∨ (l1 ≤ b ∧ b ≤ m1) := by omega
    rcases hb with hb | ⟨hb, hb'⟩ | ⟨hb, hb'⟩
    · go_wp2_with fail
      go_ret
      exact ⟨by rw [HF.out (by omega)]; rfl, (Below.refl _ _).alloc (Nat.le_refl _) _⟩
    · go_wp2_with fail
      go_ret
      exact ⟨by rw [HF.out (by omega)]; rfl, (Below.refl _ _).alloc (Nat.le_refl _) _⟩
    go_wp2_with fail
    rw [rounds_succ]
    go_wp2_with fail
    refine (H2.out _).mono ?_
    rintro e w1 ⟨rfl, rfl⟩
    have hc : c < l2 ∨ (l2 ≤ c ∧ m2 < c) ∨ (l2 ≤ c ∧ c ≤ m2) := by omega
    rcases hc with hc | ⟨hc, hc'⟩ | ⟨hc, hc'⟩
    · go_wp2_with fail
      go_ret
      exact ⟨by rw [HF.out (by omega)]; rfl, (Below.refl _ _).alloc (Nat.le_refl _) _⟩
    · go_wp2_with fail
      go_ret
      exact ⟨by rw [HF.out (by omega)]; rfl, (Below.refl _ _).alloc (Nat.le_refl _) _⟩
    go_wp2_with fail
    rw [rounds_succ]
    go_wp2_with fail
    go_ret
    exact ⟨by rw [HT.out (by omega)]; rfl, (Below.refl _ _).alloc (Nat.le_refl _) _⟩
end Go.Proofs.Ytnbmhopoiijhoaa

/- Reading code from bytes, as plain lists. -/
namespace Go.Proofs.Ytnbmhopoiijhoaa
open Go.RowKit

def insMany (op : Int) : Nat := (numsZ op).toNat

theorem insMany_le (op : Int) : insMany op ≤ 3 := by
  unfold insMany numsZ
  repeat' split
  all_goals omega

theorem many_eq (op : Int) : (manyZ op).toNat = insMany op := by
  unfold insMany
  rw [numsZ_many]
  split <;> omega

/-- Four of these bytes from there on, as a number. -/
def numAt (r : List Int) (k : Nat) : Int := num4 (r.getD k 0) (r.getD (k + 1) 0) (r.getD (k + 2) 0) (r.getD (k + 3) 0)

/-- The instruction that begins with op, its numbers in r. -/
def insOf (op : Int) (r : List Int) : In :=
  ⟨op, if 0 < insMany op then numAt r 0 else 0, if 1 < insMany op then numAt r 4 else 0, if 2 < insMany op then numAt r 8 else 0⟩

def parseGo : Nat → List Int → Option (List In)
  | _, [] => some []
  | 0, _ :: _ => none
  | f + 1, op :: r => if 4 * insMany op ≤ r.length then (parseGo f (r.drop (4 * insMany op))).map (insOf op r :: ·) else none

theorem parse_fuel : ∀ (f g : Nat) (l : List Int), l.length ≤ f → l.length ≤ g → parseGo f l = parseGo g l
  | _, _, [], _, _ => by simp [parseGo]
  | 0, _, _ :: _, h, _ => by simp at h
  | _, 0, _ :: _, _, h => by simp at h
  | f + 1, g + 1, op :: r, h, h' => by
    simp only [List.length_cons] at h h'
    rw [parseGo, parseGo, parse_fuel f g (r.drop (4 * insMany op)) (by simp; omega) (by simp; omega)]

def parse (l : List Int) : Option (List In) := parseGo l.length l

theorem parse_nil : parse [] = some [] := rfl

theorem parse_cons (op : Int) (r : List Int) : parse (op :: r) = if 4 * insMany op ≤ r.length then (parse (r.drop (4 * insMany op))).map (insOf op r :: ·) else none := by
  unfold parse
  rw [List.length_cons, parseGo, parse_fuel r.length (r.drop (4 * insMany op)).length (r.drop (4 * insMany op)) (by simp) (Nat.le_refl _)]

theorem take_four (r : List Int) (h : 4 ≤ r.length) (hb : ∀ x ∈ r, IsB x) : four (numAt r 0) = r.take 4 := by
  match r, h with
  | a :: b :: c :: d :: t, _ =>
    unfold numAt
    simp only [List.getD, List.getElem?_cons_zero, List.getElem?_cons_succ, Option.getD_some]
    rw [four_num a b c d (hb a (by simp)) (hb b (by simp)) (hb c (by simp)) (hb d (by simp))]
    rfl

theorem numAt_drop (r : List Int) (j k : Nat) : numAt (r.drop j) k = numAt r (j + k) := by
  unfold numAt
  simp only [List.getD, List.getElem?_drop, Nat.add_assoc]

theorem ins_enc (op : Int) (r : List Int) (ho : IsB op) (hb : ∀ x ∈ r, IsB x) (hl : 4 * insMany op ≤ r.length) : (insOf op r).bytes = op :: r.take (4 * insMany op) := by
  have hm := insMany_le op
  have e0 : op % 256 = op := by unfold IsB at ho; omega
  have hd : ∀ j, ∀ x ∈ r.drop j, IsB x := fun j x hx => hb x (List.mem_of_mem_drop hx)
  simp only [In.bytes, In.nums, insOf, many_eq, e0]
  generalize insMany op = m at *
  match m, hm with
  | 0, _ => simp
  | 1, _ =>
    simp [take_four r (by omega) hb]
  | 2, _ =>
    have h1 := take_four (r.drop 4) (by simp; omega) (hd 4)
    rw [numAt_drop] at h1
    simp only [Nat.add_zero] at h1
    simp [take_four r (by omega) hb, h1]
    rw [← List.take_add]
  | 3, _ =>
    have h1 := take_four (r.drop 4) (by simp; omega) (hd 4)
    have h2 := take_four (r.drop 8) (by simp; omega) (hd 8)
    rw [numAt_drop] at h1 h2
    simp only [Nat.add_zero] at h1 h2
    simp [take_four r (by omega) hb, h1, h2]
    rw [show List.take 12 r = List.take (8 + 4) r from rfl, List.take_add, show List.take 8 r = List.take (4 + 4) r from rfl, List.take_add, List.append_assoc]

theorem parse_enc : ∀ (n : Nat) (l : List Int) (c : List In), l.length ≤ n → (∀ x ∈ l, IsB x) → parse l = some c → c.flatMap In.bytes = l
  | _, [], c, _, _, h => by
    rw [parse_nil] at h
    cases h
    rfl
  | 0, _ :: _, _, hn, _, _ => by simp at hn
  | n + 1, op :: r, c, hn, hb, h => by
    rw [parse_cons] at h
    split at h
    · rename_i hl
      obtain ⟨c', hc', rfl⟩ := Option.map_eq_some_iff.1 h
      have hbr : ∀ x ∈ r, IsB x := fun x hx => hb x (by simp [hx])
      have := parse_enc n (r.drop (4 * insMany op)) c' (by simp at hn; simp; omega) (fun x hx => hbr x (List.mem_of_mem_drop hx)) hc'
      rw [List.flatMap_cons, this, ins_enc op r (hb op (by simp)) hbr hl]
      simp
    · cases h

/-- What is read from bytes, if anything is. -/
def readZ (bs : List Int) : Option (List In) :=
  if 20000 < bs.length ∨ bs.take 3 ≠ headBytes then none else
    match parse (bs.drop 3) with
    | none => none
    | some c => if codeOkZ c then some c else none

/-- The specification's way: write it again and hold it against the bytes. -/
theorem read_spec (bs : List Int) (hb : ∀ x ∈ bs, IsB x) (h3 : 3 ≤ bs.length) (hl : bs.length ≤ 20000) {c : List In} (hc : parse (bs.drop 3) = some c) :
    readZ bs = if codeOkZ c = true ∧ codeBytesZ c = bs then some c else none := by
  have he := parse_enc _ _ c (Nat.le_refl _) (fun x hx => hb x (List.mem_of_mem_drop hx)) hc
  have e1 : codeBytesZ c = bs ↔ bs.take 3 = headBytes := by
    unfold codeBytesZ
    rw [he]
    constructor
    · intro h
      rw [← h]
      rfl
    · intro h
      rw [← h]
      exact List.take_append_drop 3 bs
  unfold readZ
  by_cases hh : bs.take 3 = headBytes
  · rw [if_neg (by rw [not_or]; exact ⟨by omega, by simp [hh]⟩), hc]
    by_cases ho : codeOkZ c = true
    · rw [if_pos ⟨ho, e1.2 hh⟩]
      simp [ho]
    · rw [if_neg (fun h => ho h.1)]
      simp [ho]
  · rw [if_pos (Or.inr hh), if_neg (fun h => hh (e1.1 h.2))]

theorem read_none (bs : List Int) (h : parse (bs.drop 3) = none) : readZ bs = none := by
  unfold readZ
  rw [h]
  split <;> rfl

/-- A byte that begins no instruction. -/
theorem read_bad (bs : List Int) {c : List In} {op : Int} {r : List Int} (hp : parse (bs.drop 3) = (parse (op :: r)).map (c ++ ·)) (ho : manyZ op < 0) : readZ bs = none := by
  cases hr : parse (op :: r) with
  | none =>
    rw [hr] at hp
    exact read_none bs hp
  | some c' =>
    rw [hr] at hp
    rw [parse_cons] at hr
    split at hr
    · obtain ⟨c2, _, rfl⟩ := Option.map_eq_some_iff.1 hr
      have hno : codeOkZ (c ++ insOf op r :: c2) = false := by
        have : In.ok (insOf op r) = false := by
          show insOkZ op _ _ _ = false
          unfold insOkZ
          rw [if_pos (Or.inl ho)]
        unfold codeOkZ
        rw [List.all_append, List.all_cons, this]
        simp
      unfold readZ
      simp only [Option.map_some] at hp
      rw [hp]
      split
      · rfl
      · simp [hno]
    · cases hr
end Go.Proofs.Ytnbmhopoiijhoaa

/- The specification's test of an instruction answers by the table. -/
namespace Go.Proofs.Ytnbmhopoiijhoaa
open Go.RowKit

set_option maxHeartbeats 1000000 in
set_option maxRecDepth 100000 in
theorem specInsOk_calls (op a b c : Int) (w : World) :
    Calls Try.prog 17 #[.agg #[.int .i64 op, .int .i64 a, .int .i64 b, .int .i64 c]] w fun e w' => e = .returned (.bool (insOkZ op a b c)) ∧ Below w.heap.size w w' := by
  go_enter Try.func17, Try.ntmps17
  go_wp2_with fail
  refine (l5Many_calls _ _).mono ?_
  rintro e w1 ⟨rfl, rfl⟩
  go_wp2_with fail
  all_goals
    go_ret
    refine ⟨congrArg (fun b => Ending.returned (Value.bool b)) ?_, (Below.refl _ _).alloc (Nat.le_refl _) _⟩
    first | (simp_all [insOkZ]; done) | (simp_all [insOkZ]; omega) | (rw [show (a == 0 || a == 1) = decide (a = 0 ∨ a = 1) by apply Bool.eq_iff_iff.mpr; simp]; simp_all [insOkZ]; done)
end Go.Proofs.Ytnbmhopoiijhoaa

/- The specification's bytes of code are the plain ones. -/
namespace Go.Proofs.Ytnbmhopoiijhoaa
open Go.RowKit

set_option maxRecDepth 100000 in
theorem l5Four_calls (n : Int) (w : World) :
    Calls Try.prog 19 #[.int .i64 n] w fun e w' => e = .returned (.slice (some ⟨w.heap.size, 0, none⟩) 4 4) ∧ w' = w.alloc (.cells #[.int .u8 (n / 16777216 % 256), .int .u8 (n / 65536 % 256), .int .u8 (n / 256 % 256), .int .u8 (n % 256)] 5) := by
  go_enter Try.func19, Try.ntmps19
  go_wp2
  go_ret
  refine ⟨rfl, ?_⟩
  rw [show IntKind.u64.wrap n / 16777216 % 256 = n / 16777216 % 256 by rw [IntKind.wrap_u64]; omega, show IntKind.u64.wrap n / 65536 % 256 = n / 65536 % 256 by rw [IntKind.wrap_u64]; omega,
    show IntKind.u64.wrap n / 256 % 256 = n / 256 % 256 by rw [IntKind.wrap_u64]; omega, show IntKind.u64.wrap n % 256 = n % 256 by rw [IntKind.wrap_u64]; omega]

set_option maxHeartbeats 4000000 in
set_option maxRecDepth 100000 in
theorem specBytes_calls (b off cap : Nat) (cs : List In) (w : World) (hb : b < w.heap.size) (hn : InsAt w b off cs) :
    Calls Try.prog 6 #[.slice (some ⟨b, off, none⟩) cs.length cap] w fun e w' => (∃ v, e = .returned (.tuple #[v, .bool (codeOkZ cs)]) ∧ OwnsB w.heap.size w' v (if codeOkZ cs then codeBytesZ cs else [])) ∧ Below w.heap.size w w' := by
  obtain ⟨len, hlen⟩ : ∃ len, cs.length = len := ⟨_, rfl⟩
  have Hlen : Hid (cs.length = len) := hlen
  have HN : Hid (InsAt w b off cs) := hn
  clear hn
  by_cases hbig : (1500 : Int) < (len : Int)
  · rw [show codeOkZ cs = false by unfold codeOkZ; rw [decide_eq_false (by omega)]; rfl, hlen]
    go_enter Try.func6, Try.ntmps6
    go_wp2_with fail
    go_ret2
    exact ⟨⟨_, rfl, World.ownsRow_nil _ _ _ _⟩, Below.refl _ _⟩
  obtain ⟨okR, hokR⟩ : ∃ okR, codeOkZ cs = okR := ⟨_, rfl⟩
  obtain ⟨ansR, hansR⟩ : ∃ ansR, (if codeOkZ cs then codeBytesZ cs else []) = ansR := ⟨_, rfl⟩
  have HOK : Hid (codeOkZ cs = okR) := hokR
  have HAN : Hid ((if codeOkZ cs then codeBytesZ cs else []) = ansR) := hansR
  rw [hansR, hokR, hlen]
  clear hlen hokR hansR
  have HM : Hid (len ≤ 1500) := by show _ ≤ _; omega
  obtain ⟨i0, hi, hz0, hz1, hz2⟩ := info_parts info_byte
  go_enter Try.func6, Try.ntmps6
  go_wp2_with fail
  go_loopw [4, 5] (fun o i wr => ∃ k : Nat, i = .int .i64 k ∧ k ≤ len ∧ OwnsB w.heap.size wr o (codeBytesZ (cs.take k)) ∧ Hid ((cs.take k).all In.ok = true) ∧ Below w.heap.size w wr) (fun _ i _ => len - (intOf i).toNat)
  case atStart => exact ⟨0, rfl, Nat.zero_le _, by simpa [codeBytesZ] using head_owns w, by simp [Hid], (Below.refl _ _).alloc (Nat.le_refl _) _⟩
  case round =>
    obtain ⟨k, rfl, hk, hown, HA, hnx⟩ := hrel
    by_cases hkl : (k : Int) < (len : Int)
    · have hkn : k < cs.length := by rw [Hlen.out]; omega
      have hcell := fun c (hc : c < 4) => (hnx.cell (p := ⟨b, off + k * 4 + c, none⟩) hb).trans (HN.out k hkn c hc)
      have HD : Hid (cs.take (k + 1) = cs.take k ++ [cs.getD k default]) := ins_drop hkn
      generalize cs.getD k default = n at hcell HD
      obtain ⟨op, x, y, z⟩ := n
      have c0 := hcell 0 (by omega)
      have c1 := hcell 1 (by omega)
      have c2 := hcell 2 (by omega)
      have c3 := hcell 3 (by omega)
      simp only [In.cell, Nat.add_zero] at c0 c1 c2 c3
      clear hcell hkn
      have hsz := hnx.size
      go_wp2_with fail
      refine (specInsOk_calls op x y z _).mono ?_
      rintro e W1 ⟨rfl, hb1⟩
      have h6 := (hb1.block wr.heap.size (by simp)).trans (MapKept.heap_alloc wr _).1
      have hown1 : OwnsB w.heap.size W1 u4 (codeBytesZ (cs.take k)) := kept_owns (hown.alloc _) hb1
      have hnx1 : Below w.heap.size w W1 := (hnx.alloc hsz _).trans (hb1.mono (by simp; omega))
      have hsz1 : w.heap.size ≤ W1.heap.size := hnx1.size
      have hlt6 : wr.heap.size < W1.heap.size := (Array.getElem?_eq_some_iff.1 h6).1
      clear hown hnx hb1 c0 c1 c2 c3
      cases hok : insOkZ op x y z with
      | false =>
        have HZ : Hid (codeOkZ cs = false) := by
          show _ = _
          unfold codeOkZ
          rw [Bool.and_eq_false_iff]
          refine Or.inr ?_
          have h1 : (cs.take (k + 1)).all In.ok = false := by
            rw [HD.out, List.all_append]
            simp [In.ok, hok]
          rw [← List.take_append_drop (k + 1) cs, List.all_append, h1, Bool.false_and]
        clear hown1 h6 HD HA HN
        go_wp2_with fail
        go_ret2
        have e1 : okR = false := HOK.out.symm.trans HZ.out
        have e2 : ansR = [] := by rw [← HAN.out, HZ.out]; rfl
        subst e1 e2
        exact ⟨⟨.slice none 0 0, rfl, World.ownsRow_nil _ _ _ _⟩, hnx1⟩
      | true =>
        have hlb : (codeBytesZ (cs.take k)).length ≤ 20000 := by
          have h1 := code_length (cs.take k)
          have h2 : (cs.take k).length ≤ k := by simp; omega
          have := HM.out
          unfold codeBytesZ headBytes
          simp only [List.length_append, List.length_cons, List.length_nil]
          omega
        have HB : Hid (codeBytesZ (cs.take (k + 1)) = codeBytesZ (cs.take k) ++ In.bytes ⟨op, x, y, z⟩) := by
          show _ = _
          rw [HD.out]
          simp [codeBytesZ]
        have HA1 : Hid ((cs.take (k + 1)).all In.ok = true) := by
          show _ = _
          rw [HD.out, List.all_append, HA.out]
          simp [In.ok, hok]
        have hmany : ∃ mm : Nat, manyZ op = (mm : Int) ∧ mm ≤ 3 := by
          have h0 : ¬ manyZ op < 0 := fun h => by
            unfold insOkZ at hok
            rw [if_pos (Or.inl h)] at hok
            cases hok
          refine ⟨(manyZ op).toNat, by omega, ?_⟩
          have : manyZ op ≤ 3 := by
            unfold manyZ
            repeat' split
            all_goals omega
          omega
        obtain ⟨mm, hmm, hm3⟩ := hmany
        have HMM : Hid (manyZ op = (mm : Int)) := hmm
        have Hlb : Hid ((codeBytesZ (cs.take k)).length ≤ 20000) := hlb
        have HBy : Hid (In.bytes ⟨op, x, y, z⟩ = [op % 256] ++ ([x, y, z].take mm).flatMap four) := by
          show _ = _
          simp only [In.bytes, In.nums, hmm, Int.toNat_natCast]
          rfl
        clear hlb HA HD hok hmm
        generalize codeBytesZ (cs.take k) = bs at *
        have q0 := cell_of_heap h6 0
        have q1 := cell_of_heap h6 1
        have q2 := cell_of_heap h6 2
        have q3 := cell_of_heap h6 3
        simp at q0 q1 q2 q3
        have H6 : Hid (W1.heap[wr.heap.size]? = some (.cells #[.int .i64 op, .int .i64 x, .int .i64 y, .int .i64 z] 37)) := h6
        clear h6
        go_wp2_with (first
          | (at_builtin; refine wpList_append_own _ rfl _ _ 22 rfl w.heap.size 5 i0 (.int .u8 0) 1 1 Try.underlying22 hi hz0 hz1 hz2 rfl (by decide) _ _ _ rfl (hown1.alloc _) ⟨W1.heap.size, 0, none⟩ 1 1 [.int .u8 (op % 256)] rfl rfl (cell_oneC _ _ rfl _ _) (fun u hu => by simp at hu; subst hu; rfl) (by have := Hlb.out; unfold maxLen; omega) (by have := Hlb.out; omega) (by simp; omega) ?_
             intro v' w3 hown' hgrow3 hnil3
             have h63 : w3.heap[wr.heap.size]? = some (.cells #[.int .i64 op, .int .i64 x, .int .i64 y, .int .i64 z] 37) := by
               have e1 : (W1.alloc (.cells #[.int .u8 (op % 256)] 5)).heap[wr.heap.size]? = some (.cells #[.int .i64 op, .int .i64 x, .int .i64 y, .int .i64 z] 37) := by
                 rw [Below.heap_alloc _ _ _ hlt6]; exact H6.out
               rw [hgrow3.block wr.heap.size (by simp; omega) (owns_ne (hown1.alloc _) e1 (by decide))]
               exact e1
             have hbw3 : Below w.heap.size w w3 := Below.grown (hnx1.alloc (by omega) _) hgrow3 (by simp; omega) (fun j hj => by have := (hown1.lt _ hj).1; omega)
             have hown3 : OwnsB w.heap.size w3 v' (bs ++ [op % 256]) := OwnsB.more hown' rfl rfl
             have hsz3 := hbw3.size
             have hlt63 : wr.heap.size < w3.heap.size := (Array.getElem?_eq_some_iff.1 h63).1
             have q0 := cell_of_heap h63 0
             have q1 := cell_of_heap h63 1
             have q2 := cell_of_heap h63 2
             have q3 := cell_of_heap h63 3
             simp at q0 q1 q2 q3
             have H63 : Hid _ := h63
             clear hgrow3 hnil3 hown' hown1 hnx1 h63 hsz1 hlt6 H6))
        have h7 : (w3.alloc (.cells #[.int .i64 x, .int .i64 y, .int .i64 z] 3)).heap[w3.heap.size]? = some (.cells #[.int .i64 x, .int .i64 y, .int .i64 z] 3) := (MapKept.heap_alloc w3 _).1
        have h6a : (w3.alloc (.cells #[.int .i64 x, .int .i64 y, .int .i64 z] 3)).heap[wr.heap.size]? = some (.cells #[.int .i64 op, .int .i64 x, .int .i64 y, .int .i64 z] 37) := by
          rw [Below.heap_alloc _ _ _ hlt63]; exact H63.out
        have hnx4 : Below w.heap.size w (w3.alloc (.cells #[.int .i64 x, .int .i64 y, .int .i64 z] 3)) := hbw3.alloc hsz3 _
        have hown4 : OwnsB w.heap.size (w3.alloc (.cells #[.int .i64 x, .int .i64 y, .int .i64 z] 3)) v' (bs ++ [op % 256]) := hown3.alloc _
        clear hown3 hbw3 H63 q0 q1 q2 q3 hlt63
        generalize w3.alloc (.cells #[.int .i64 x, .int .i64 y, .int .i64 z] 3) = W4 at *
        generalize w3.heap.size = B7 at *
        generalize wr.heap.size = B6 at *
        clear hsz hsz3
        go_loopw [4, 8] (fun o j wi => ∃ q : Nat, j = .int .i64 q ∧ q ≤ mm ∧ OwnsB w.heap.size wi o ((bs ++ [op % 256]) ++ ([x, y, z].take q).flatMap four) ∧ wi.heap[B6]? = some (.cells #[.int .i64 op, .int .i64 x, .int .i64 y, .int .i64 z] 37) ∧
            wi.heap[B7]? = some (.cells #[.int .i64 x, .int .i64 y, .int .i64 z] 3) ∧ Below w.heap.size w wi) (fun _ j _ => mm - (intOf j).toNat)
        case atStart => exact ⟨0, rfl, Nat.zero_le _, by simpa using hown4, h6a, h7, hnx4⟩
        case round =>
          obtain ⟨q, rfl, hqm, hownq, h6q, h7q, hnxq⟩ := hrel
          clear hown4 h6a h7 hnx4
          have r0 := cell_of_heap h6q 0
          simp at r0
          have hlt6 := heap_lt h6q
          have hlt7 := heap_lt h7q
          have hszq := hnxq.size
          go_wp2_with fail
          refine (l5Many_calls _ _).mono ?_
          rintro e W5 ⟨rfl, rfl⟩
          rw [HMM.out]
          by_cases hq : (q : Int) < (mm : Int)
          · have hq3 : q < 3 := by omega
            have r7 := cell_of_heap h7q q
            have HT : Hid (([x, y, z].take (q + 1)).flatMap four = ([x, y, z].take q).flatMap four ++ four ([x, y, z].getD q 0)) := by
              show _ = _
              rw [List.take_succ_eq_append_getElem (by simpa using hq3), List.flatMap_append]
              simp [List.getD, hq3]
            rw [show (#[.int .i64 x, .int .i64 y, .int .i64 z] : Array Value)[q]? = some (.int .i64 ([x, y, z].getD q 0)) by
              match q, hq3 with
              | 0, _ => rfl
              | 1, _ => rfl
              | 2, _ => rfl] at r7
            have HLQ : Hid (((bs ++ [op % 256]) ++ ([x, y, z].take q).flatMap four).length ≤ 20020) := by
              show _ ≤ _
              have := Hlb.out
              simp only [List.length_append, flat_length, List.length_take, List.length_cons, List.length_nil]
              omega
            generalize [x, y, z].getD q 0 = nq at *
            obtain ⟨cur, hcur⟩ : ∃ cur, (bs ++ [op % 256]) ++ ([x, y, z].take q).flatMap four = cur := ⟨_, rfl⟩
            have Hcur : Hid ((bs ++ [op % 256]) ++ ([x, y, z].take q).flatMap four = cur) := hcur
            rw [hcur] at hownq HLQ
            clear hcur
            have hi3 : (q : Int) < 3 := by omega
            go_wp2_with fail
            refine (l5Four_calls _ _).mono ?_
            rintro e W6 ⟨rfl, rfl⟩
            clear r0 r7
            go_wp2_with (first
              | (at_builtin; refine wpList_append_own _ rfl _ _ 22 rfl w.heap.size 5 i0 (.int .u8 0) 1 1 Try.underlying22 hi hz0 hz1 hz2 rfl (by decide) _ _ _ rfl (hownq.alloc _) ⟨wr.heap.size, 0, none⟩ 4 4 [.int .u8 (nq / 16777216 % 256), .int .u8 (nq / 65536 % 256), .int .u8 (nq / 256 % 256), .int .u8 (nq % 256)] rfl rfl (cell_four_new _ _ rfl _ _ _ _ _) (fun u hu => by simp at hu; rcases hu with rfl | rfl | rfl | rfl <;> rfl) (by have := HLQ.out; unfold maxLen; omega) (by have := HLQ.out; omega) (by simp; omega) ?_
                 intro v7 w7 hown7' hgrow7 hnil7
                 have k6 : w7.heap[B6]? = some (.cells #[.int .i64 op, .int .i64 x, .int .i64 y, .int .i64 z] 37) := by
                   have e1 : (wr.alloc (.cells #[.int .u8 (nq / 16777216 % 256), .int .u8 (nq / 65536 % 256), .int .u8 (nq / 256 % 256), .int .u8 (nq % 256)] 5)).heap[B6]? = some (.cells #[.int .i64 op, .int .i64 x, .int .i64 y, .int .i64 z] 37) := by
                     rw [Below.heap_alloc _ _ _ hlt6]; exact h6q
                   rw [hgrow7.block B6 (by simp; omega) (owns_ne (hownq.alloc _) e1 (by decide))]
                   exact e1
                 have k7 : w7.heap[B7]? = some (.cells #[.int .i64 x, .int .i64 y, .int .i64 z] 3) := by
                   have e1 : (wr.alloc (.cells #[.int .u8 (nq / 16777216 % 256), .int .u8 (nq / 65536 % 256), .int .u8 (nq / 256 % 256), .int .u8 (nq % 256)] 5)).heap[B7]? = some (.cells #[.int .i64 x, .int .i64 y, .int .i64 z] 3) := by
                     rw [Below.heap_alloc _ _ _ hlt7]; exact h7q
                   rw [hgrow7.block B7 (by simp; omega) (owns_ne (hownq.alloc _) e1 (by decide))]
                   exact e1
                 have hbw7 : Below w.heap.size w w7 := Below.grown (hnxq.alloc (by omega) _) hgrow7 (by simp; omega) (fun j hj => by have := (hownq.lt _ hj).1; omega)
                 have hown7 : OwnsB w.heap.size w7 v7 (cur ++ four nq) := OwnsB.more hown7' rfl rfl
                 have K6 : Hid _ := k6
                 have K7 : Hid _ := k7
                 clear hgrow7 hnil7 hown7' hownq hnxq k6 k7 h6q h7q))
            have hs : mm - (intOf (.int .i64 ((q + 1 : Nat) : Int))).toNat < mm - (intOf (.int .i64 (q : Int))).toNat := by simp only [intOf, Int.toNat_natCast]; omega
            try rw [wrap_one (k := q) (len := mm) (by omega) (by omega)]
            refine ⟨⟨q + 1, rfl, by omega, ?_, K6.out, K7.out, hbw7⟩, hs⟩
            rw [HT.out, ← List.append_assoc, Hcur.out]
            exact hown7
          · have hqm' : q = mm := by omega
            subst hqm'
            have HX : Hid (OwnsB w.heap.size wr u4 (codeBytesZ (cs.take (k + 1)))) := by
              show OwnsB _ _ _ _
              rw [HB.out, HBy.out, ← List.append_assoc]
              exact hownq
            clear hownq r0 h6q h7q
            go_wp2_with fail
            have hs : len - (intOf (.int .i64 ((k + 1 : Nat) : Int))).toNat < len - (intOf (.int .i64 (k : Int))).toNat := by simp only [intOf, Int.toNat_natCast]; omega
            try rw [wrap_one (k := k) (len := len) (by omega) (by have := HM.out; omega)]
            exact ⟨⟨k + 1, rfl, by omega, HX.out, HA1, hnxq⟩, hs⟩
    · have hkn : k = len := by omega
      have e1 : cs.take k = cs := List.take_of_length_le (by rw [Hlen.out]; omega)
      have HZ : Hid (codeOkZ cs = true) := by
        show _ = _
        unfold codeOkZ
        rw [decide_eq_true (by rw [Hlen.out]; exact HM.out), Bool.true_and, ← e1]
        exact HA.out
      rw [e1] at hown
      clear HA e1
      go_wp2_with fail
      go_ret2
      have e1 : okR = true := HOK.out.symm.trans HZ.out
      have e2 : ansR = codeBytesZ cs := by rw [← HAN.out, HZ.out]; rfl
      subst e1 e2
      exact ⟨⟨u4, rfl, hown⟩, hnx⟩
end Go.Proofs.Ytnbmhopoiijhoaa

/- The specification's reading of code is the plain one. -/
namespace Go.Proofs.Ytnbmhopoiijhoaa
open Go.RowKit

/-- These instructions lie in a row of the slice's own, from block B on. -/
def insRow (cs : List In) : List Value := cs.flatMap fun i => [.int .i64 i.op, .int .i64 i.a, .int .i64 i.b, .int .i64 i.c]

def OwnsI (B : Nat) (w : World) (v : Value) (cs : List In) : Prop := w.ownsRow B 37 4 v cs.length (insRow cs)

def BytesIs (w : World) (b off : Nat) (bs : List Int) : Prop := ∀ k, k < bs.length → w.cell? ⟨b, off + k, none⟩ = some (.int .u8 (bs.getD k 0))

theorem BytesIs.below {w w' : World} {b off B : Nat} {bs : List Int} (h : BytesIs w b off bs) (hb : Below B w w') (hB : b < B) : BytesIs w' b off bs :=
  fun k hk => (hb.cell (p := ⟨b, off + k, none⟩) hB).trans (h k hk)

theorem bytes_isB {bs : List Int} (hB : ∀ x ∈ bs, IsB x) (k : Nat) (hk : k < bs.length) : IsB (bs.getD k 0) := hB _ (by simp [List.getD, List.getElem?_eq_getElem hk])

theorem l5Num_at (b off : Nat) (bs : List Int) (k n c : Nat) (w : World) (hn : BytesIs w b off bs) (hB : ∀ x ∈ bs, IsB x) (hk : k + 3 < bs.length) (h4 : 4 ≤ n) :
    Calls Try.prog 22 #[.slice (some ⟨b, off + k, none⟩) n c] w fun e w' => e = .returned (.int .i64 (numAt bs k)) ∧ Below w.heap.size w w' :=
  l5Number_calls b (off + k) n c _ _ _ _ w h4 (bytes_isB hB k (by omega)) (bytes_isB hB (k + 1) (by omega)) (bytes_isB hB (k + 2) (by omega)) (bytes_isB hB (k + 3) hk)
    (hn k (by omega)) (hn (k + 1) (by omega)) (hn (k + 2) (by omega)) (hn (k + 3) hk)

theorem ins_set1 {w : World} {g : Nat} {a b c d : Value} {t : TypeId} (h : w.heap[g]? = some (.cells #[a, b, c, d] t)) (v : Value) : (w.setCell ⟨g, 1, none⟩ v).heap[g]? = some (.cells #[a, v, c, d] t) := by
  simp [World.setCell, Array.getElem?_modify, h]
theorem ins_set2 {w : World} {g : Nat} {a b c d : Value} {t : TypeId} (h : w.heap[g]? = some (.cells #[a, b, c, d] t)) (v : Value) : (w.setCell ⟨g, 2, none⟩ v).heap[g]? = some (.cells #[a, b, v, d] t) := by
  simp [World.setCell, Array.getElem?_modify, h]
theorem ins_set3 {w : World} {g : Nat} {a b c d : Value} {t : TypeId} (h : w.heap[g]? = some (.cells #[a, b, c, d] t)) (v : Value) : (w.setCell ⟨g, 3, none⟩ v).heap[g]? = some (.cells #[a, b, c, v] t) := by
  simp [World.setCell, Array.getElem?_modify, h]

theorem owns_set {w : World} {B g off : Nat} {v u : Value} {cs : List In} (h : OwnsI B w v cs) (hne : some g ≠ v.ownBlock) : OwnsI B (w.setCell ⟨g, off, none⟩ u) v cs := by
  refine World.ownsRow.kept h (row := some g) ?_ (Or.inr fun e => hne e.symm)
  refine ⟨rfl, rfl, rfl, by simp [World.setCell], fun k hk hkg => ?_⟩
  exact Below.heap_setCell _ _ _ _ (fun e => hkg (congrArg some e))


set_option maxRecDepth 100000 in
theorem specBytes_none (ad : Option Addr) (cap : Nat) (w : World) :
    Calls Try.prog 6 #[.slice ad 0 cap] w fun e w' => (∃ v, e = .returned (.tuple #[v, .bool true]) ∧ OwnsB w.heap.size w' v headBytes) ∧ Below w.heap.size w w' := by
  go_enter Try.func6, Try.ntmps6
  go_wp2
  refine wp_loop_rounds 1 ?_
  rw [rounds_succ]
  go_wp2
  go_ret2
  exact ⟨⟨_, rfl, head_owns w⟩, (Below.refl _ _).alloc (Nat.le_refl _) _⟩

theorem specBytes_any {v : Value} {cs : List In} (w : World) (h : InsSlice w v cs) :
    Calls Try.prog 6 #[v] w fun e w' => (∃ v', e = .returned (.tuple #[v', .bool (codeOkZ cs)]) ∧ OwnsB w.heap.size w' v' (if codeOkZ cs then codeBytesZ cs else [])) ∧ Below w.heap.size w w' := by
  obtain ⟨ad, cap, rfl, h⟩ := h
  by_cases h0 : cs = []
  · subst h0
    exact specBytes_none ad cap w
  · obtain ⟨g, o, rfl, hb, hr⟩ := h.resolve_left h0
    exact specBytes_calls g o cap cs w hb hr

theorem insRow_length : ∀ cs : List In, (insRow cs).length = cs.length * 4
  | [] => rfl
  | i :: r => by
    show ([_, _, _, _] ++ insRow r).length = _
    rw [List.length_append, insRow_length r]
    simp
    omega

theorem insRow_at : ∀ (cs : List In) (i : Nat), i < cs.length * 4 → (insRow cs).getD i undef = insCells cs i
  | [], i, h => by simp at h
  | x :: r, i, h => by
    show ([Value.int .i64 x.op, .int .i64 x.a, .int .i64 x.b, .int .i64 x.c] ++ insRow r).getD i undef = _
    match i, h with
    | 0, _ => rfl
    | 1, _ => rfl
    | 2, _ => rfl
    | 3, _ => rfl
    | j + 4, h =>
      have h1 := insRow_at r j (by simp at h; omega)
      rw [show ([Value.int .i64 x.op, .int .i64 x.a, .int .i64 x.b, .int .i64 x.c] ++ insRow r).getD (j + 4) undef = (insRow r).getD j undef by simp [List.getD], h1]
      unfold insCells
      rw [show (j + 4) / 4 = j / 4 + 1 by omega, show (j + 4) % 4 = j % 4 by omega]
      rfl

theorem OwnsI.sliceR {B : Nat} {w : World} {v : Value} {cs : List In} (h : OwnsI B w v cs) : SliceR 37 4 B w v cs.length (insCells cs) := by
  obtain ⟨ad, cap, rfl, h'⟩ := sliceR_of_owns h
  refine ⟨ad, cap, rfl, h'.imp id ?_⟩
  rintro ⟨g, rfl, hB, hr⟩
  exact ⟨g, rfl, hB, hr.congr (fun i hi => insRow_at cs i hi)⟩

/-- Bytes as a text. -/
def byteStr (bs : List Int) : ByteArray := ⟨(bs.map fun x => UInt8.ofNat x.toNat).toArray⟩

theorem byteStr_inj {xs bs : List Int} (ha : ∀ x ∈ xs, IsB x) (hb : ∀ x ∈ bs, IsB x) (h : byteStr xs = byteStr bs) : xs = bs := by
  have h1 : (xs.map fun x => UInt8.ofNat x.toNat) = bs.map fun x => UInt8.ofNat x.toNat := by
    have := congrArg (fun b => b.data.toList) h
    simpa [byteStr] using this
  induction xs generalizing bs with
  | nil => cases bs with
    | nil => rfl
    | cons y r => simp at h1
  | cons x r ih => cases bs with
    | nil => simp at h1
    | cons y t =>
      simp only [List.map_cons, List.cons.injEq] at h1
      have hx := ha x (by simp)
      have hy := hb y (by simp)
      unfold IsB at hx hy
      have e : x = y := by
        have := congrArg UInt8.toNat h1.1
        simp at this
        omega
      rw [e, ih (fun z hz => ha z (by simp [hz])) (fun z hz => hb z (by simp [hz])) (by unfold byteStr; rw [h1.2]) h1.2]

theorem bytes_string (w : World) (b off cap : Nat) (bs : List Int) (hB : ∀ x ∈ bs, IsB x) (h : BytesIs w b off bs) :
    (convert 22 9 (.slice (some ⟨b, off, none⟩) bs.length cap)).run Try.prog w = .ok (.string (byteStr bs)) w := by
  have h1 := run_convert_bytes_back (P := Try.prog) w 22 9 5 ⟨b, off, none⟩ cap (bs.map fun x => UInt8.ofNat x.toNat) Try.underlying22 Try.underlying5 Try.underlying9 (fun i hi => by
    have hi' : i < bs.length := by simpa using hi
    have hx := bytes_isB hB i hi'
    have := h i hi'
    simp only [Addr.add, List.getElem_map]
    rw [show (if i = 0 then (⟨b, off, none⟩ : Addr) else ⟨b, off + i, none⟩) = ⟨b, off + i, none⟩ by split <;> simp_all, this]
    unfold IsB at hx
    simp only [List.getD, List.getElem?_eq_getElem hi', Option.getD_some] at hx ⊢
    simp
    omega)
  simpa [byteStr] using h1

theorem enc_isB (cs : List In) : ∀ x ∈ codeBytesZ cs, IsB x := by
  have h4 : ∀ n : Int, ∀ x ∈ four n, IsB x := by
    intro n x hx
    unfold four at hx
    unfold IsB
    simp at hx
    omega
  intro x hx
  unfold codeBytesZ at hx
  rcases List.mem_append.1 hx with h | h
  · unfold headBytes at h
    unfold IsB
    simp at h
    omega
  · obtain ⟨i, _, hi⟩ := List.mem_flatMap.1 h
    rcases List.mem_cons.1 hi with rfl | hi
    · unfold IsB
      omega
    · obtain ⟨n, _, hn⟩ := List.mem_flatMap.1 hi
      exact h4 n x hn
end Go.Proofs.Ytnbmhopoiijhoaa
