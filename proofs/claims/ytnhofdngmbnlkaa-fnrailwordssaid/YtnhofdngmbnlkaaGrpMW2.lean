/- The drawer keeps its contract. -/
import Derived.Test.YtnhofdngmbnlkaaGrpMW1
import Derived.Test.YtnhofdngmbnlkaaSpecProgC
import Derived.Test.YtnhofdngmbnlkaaSpecTree
import Derived.Test.YtnhofdngmbnlkaaPartsPure
import Derived.Test.YtnhofdngmbnlkaaGrpMW0
namespace Go.Proofs.Ytnhofdngmbnlkaa
open Go.RowKit Go.Deep

/-- The contract of what draws handlers. -/
def HanC (d : Dr) (ve : Value) (es : List Ef) (D : Nat) : Prop :=
  ∀ (ty deep : Int) (v vm : Value) (ks : List Kn) (ms : List Bool) (X : World) (s : Cn), deep ≤ D → -90 ≤ deep → Gen d ve X s → Fit s 250 → Env d ve es X v ks vm ms (D + 1) →
    Calls Try.prog 63 #[.pointer (some ⟨d.G, 0, none⟩), .int .i64 ty, v, vm, .int .i64 deep] X (NodesPost d ve X s 250)

/-- What is spent within, the count taken off first. -/
theorem of_post {d : Dr} {ve : Value} {W X : World} {s s1 : Cn} {e : Ending} {Y : World} {c : Nat} (hg : Grew d W X) (e1 : s1.p = s.p) (e2 : s1.next = s.next) (e3 : s1.left = s.left - 1) (h : NodesPost d ve X s1 c e Y) (hc : c ≤ 9 ∨ (0 < s.left ∧ c ≤ 300)) : NodesPost d ve W s 10 e Y := by
  obtain ⟨v, ns, s', t, h1, h2, h3, h4, h5, h6⟩ := h
  refine ⟨v, ns, s', t + 1, h1, h2, by omega, h4, hg.trans h5, ?_⟩
  unfold Spent at h6 ⊢
  omega

theorem of_fit {s s1 : Cn} (hf : Fit s 10) (e1 : s1.p = s.p) (e2 : s1.next = s.next) (e3 : s1.left = s.left - 1) : Fit s1 9 ∧ (0 < s.left → Fit s1 300) := by
  unfold Fit at hf ⊢
  omega

set_option maxHeartbeats 4000000 in
set_option maxRecDepth 100000 in
/-- A function, small. -/
theorem leaf5n {d : Dr} {ve v : Value} {W : World} {s : Cn} {ks : List Kn} (ty : Int) (h1 : ty ≠ 1) (h2 : ty ≠ 2) (h3 : ty ≠ 3) (h4 : ty ≠ 4) (h : Gen d ve W s) (hf : Fit s 9) (hk : KnowsD d W v ks) (hl : ks.length ≤ 998) :
    Calls Try.prog 59 #[.pointer (some ⟨d.G, 0, none⟩), .int .i64 ty, v] W (NodesPost d ve W s 9) := by
  have HF := hid hf
  have A0 := hid (At.start h)
  have HKn := hid hk
  have HKl := hid hl
  have HK := hid (A0.out.nodes0 (gknown_calls ty h (by unfold Fit at hf; omega) hk (by omega)))
  obtain ⟨ad, cp, rfl⟩ := hk.is
  clear hk hl h hf
  have e1 : (ty == 1) = false := by simp [h1]
  have e2 : (ty == 2) = false := by simp [h2]
  have e3 : (ty == 3) = false := by simp [h3]
  have e4 : (ty == 4) = false := by simp [h4]
  clear h1 h2 h3 h4
  go_enter Try.func59, Try.ntmps59
  go_wp2_with fail
  refine HK.out.mono ?_
  rintro e X1 ⟨v1, n1, s1, t1, rfl, hn1, hl1, ha1, hg1⟩
  have A1 := hid ha1
  have N1 := hid (And.intro hn1 hl1)
  have G1 := hid hg1
  obtain ⟨ad1, cp1, rfl⟩ := hn1.is
  obtain ⟨l1, hl1e⟩ : ∃ l, n1.length = l := ⟨_, rfl⟩
  have HL1 := hid hl1e
  rw [hl1e] at N1 ⊢
  clear hn1 hl1 ha1 hg1 HK hl1e A0
  by_cases hz : l1 = 0
  · subst hz
    go_wp2_with fail
    refine (A1.out.name HF.out (by omega)).mono ?_
    rintro e X2 ⟨x2, s2, rfl, hb2, ha, hg⟩
    have A2 := hid ha
    have G2 := hid hg
    clear ha hg
    have B2 := hid hb2
    clear hb2
    go_wp2_with fail
    refine (A2.out.add x2 1 0 (HKn.out.grew (G1.out.trans G2.out)) B2.out (by have := HKl.out; omega)).mono ?_
    rintro e X3 ⟨u3, ks3, rfl, hk3, hkl3, ha, hg⟩
    have A3 := hid ha
    have G3 := hid hg
    clear ha hg
    have K3 := hid (And.intro hk3 hkl3)
    clear hk3 hkl3
    go_wp2_with fail
    refine (A3.out.nodes (leaf1 1 rfl A3.out.1 (A3.out.fit HF.out 4 (by omega)) K3.out.1 (by have := K3.out.2; have := HKl.out; omega))).mono ?_
    rintro e X4 ⟨v4, n4, s4, t4, rfl, hn4, hl4, ha, hg⟩
    have A4 := hid ha
    have G4 := hid hg
    clear ha hg
    have N4 := hid (And.intro hn4 hl4)
    obtain ⟨ad4, cp4, rfl⟩ := hn4.is
    clear hn4 hl4
    go_wp2_with fail
    refine (A4.out.put1 6 0 0 x2 ByteArray.empty ByteArray.empty N4.out.1 ⟨B2.out, brief_none, brief_none⟩ (by have := A4.out.bound HF.out (by omega) (by decide); have := N4.out.2; omega)).mono ?_
    rintro e X5 ⟨v5, n5, rfl, hn5, hl5, ha, hg⟩
    have A5 := hid ha
    have G5 := hid hg
    clear ha hg
    have N5 := hid (And.intro hn5 hl5)
    obtain ⟨ad5, cp5, rfl⟩ := hn5.is
    clear hn5 hl5
    go_wp2_with fail
    go_ret
    exact A5.out.done 1 N5.out.1 (by have := N5.out.2; have := N4.out.2; omega) (by omega)
  · have hz' : (0 : Int) < (l1 : Int) := by omega
    have g0 := A1.out.1.c0
    go_wp2_with fail
    refine (A1.out.pick HF.out (by omega) 3 (by decide)).mono ?_
    rintro e X2 ⟨m2, s2, rfl, hm2, hM2, ha, hg⟩
    have A2 := hid ha
    have G2 := hid hg
    clear ha hg
    clear g0
    by_cases hm : 0 < m2
    · go_wp2_with fail
      go_ret
      exact A2.out.done 0 (N1.out.1.grew G2.out) (by have := N1.out.2; have := HL1.out; omega) (by omega)
    · have hm0 : m2 = 0 := by omega
      subst hm0
      go_wp2_with fail
      refine (A2.out.name HF.out (by omega)).mono ?_
      rintro e X3 ⟨x3, s3, rfl, hb3, ha, hg⟩
      have A3 := hid ha
      have G3 := hid hg
      clear ha hg
      have B3 := hid hb3
      clear hb3
      go_wp2_with fail
      refine (A3.out.add x3 1 0 (HKn.out.grew (G1.out.trans (G2.out.trans G3.out))) B3.out (by have := HKl.out; omega)).mono ?_
      rintro e X4 ⟨u4, ks4, rfl, hk4, hkl4, ha, hg⟩
      have A4 := hid ha
      have G4 := hid hg
      clear ha hg
      have K4 := hid (And.intro hk4 hkl4)
      clear hk4 hkl4
      go_wp2_with fail
      refine (A4.out.nodes (leaf1 1 rfl A4.out.1 (A4.out.fit HF.out 4 (by omega)) K4.out.1 (by have := K4.out.2; have := HKl.out; omega))).mono ?_
      rintro e X5 ⟨v5, n5, s5, t5, rfl, hn5, hl5, ha, hg⟩
      have A5 := hid ha
      have G5 := hid hg
      clear ha hg
      have N5 := hid (And.intro hn5 hl5)
      obtain ⟨ad5, cp5, rfl⟩ := hn5.is
      clear hn5 hl5
      go_wp2_with fail
      refine (A5.out.put1 6 0 0 x3 ByteArray.empty ByteArray.empty N5.out.1 ⟨B3.out, brief_none, brief_none⟩ (by have := A5.out.bound HF.out (by omega) (by decide); have := N5.out.2; omega)).mono ?_
      rintro e X6 ⟨v6, n6, rfl, hn6, hl6, ha, hg⟩
      have A6 := hid ha
      have G6 := hid hg
      clear ha hg
      have N6 := hid (And.intro hn6 hl6)
      obtain ⟨ad6, cp6, rfl⟩ := hn6.is
      clear hn6 hl6
      go_wp2_with fail
      go_ret
      exact A6.out.done 1 N6.out.1 (by have := N6.out.2; have := N5.out.2; omega) (by omega)

theorem leaf_nine {d : Dr} {ve v : Value} {W : World} {s : Cn} {ks : List Kn} (ty : Int) (h : Gen d ve W s) (hf : Fit s 9) (hk : KnowsD d W v ks) (hl : ks.length ≤ 998) :
    Calls Try.prog 59 #[.pointer (some ⟨d.G, 0, none⟩), .int .i64 ty, v] W (NodesPost d ve W s 9) := by
  by_cases h1 : ty = 1
  · exact (leaf1 ty h1 h (hf.mono (by omega)) hk (by omega)).mono fun e W' h => h.mono (by omega)
  by_cases h2 : ty = 2
  · exact (leaf2 ty h2 h (hf.mono (by omega)) hk (by omega)).mono fun e W' h => h.mono (by omega)
  by_cases h3 : ty = 3
  · exact (leaf3 ty h3 h (hf.mono (by omega)) hk (by omega)).mono fun e W' h => h.mono (by omega)
  by_cases h4 : ty = 4
  · exact (leaf4 ty h4 h (hf.mono (by omega)) hk (by omega)).mono fun e W' h => h.mono (by omega)
  exact leaf5n ty h1 h2 h3 h4 h hf hk hl

set_option maxHeartbeats 8000000 in
set_option maxRecDepth 100000 in
theorem of_step {d : Dr} {ve : Value} {es : List Ef} {D : Nat} (hD : D ≤ 90) (hO : OfC d ve es D) (hH : HanC d ve es D) : OfC d ve es (D + 1) := by
  intro deep ty v vm ks ms W s h1 h2 hf h hE
  have HO := hid hO
  have HH := hid hH
  have hl := h.setLeft (s.left - 1)
  have f2 := h.f2
  have c2 := h.c2
  have HF0 := hid hf
  have HW : Hid (wrap64 (s.left - 1) = s.left - 1) := by show _ = _; unfold Fit at hf; unfold wrap64; omega
  have HD0 := hid (And.intro h1 (And.intro h2 hD))
  obtain ⟨ad, cp, rfl⟩ := hE.know.is
  obtain ⟨adm, cpm, rfl⟩ := hE.may.is
  obtain ⟨X, hX⟩ : ∃ X, W.setCell ⟨d.G, 2, none⟩ (.int .i64 (s.left - 1)) = X := ⟨_, rfl⟩
  rw [hX] at hl
  have HX := hid hX
  obtain ⟨s1, hs1⟩ : ∃ s1 : Cn, { s with left := s.left - 1 } = s1 := ⟨_, rfl⟩
  rw [hs1] at hl
  have e1 : s1.p = s.p := by rw [← hs1]
  have e2 : s1.next = s.next := by rw [← hs1]
  have e3 : s1.left = s.left - 1 := by rw [← hs1]
  have HFF := hid (of_fit hf e1 e2 e3)
  have HP := hid (fun (c : Nat) (e : Ending) (Y : World) (h : NodesPost d ve X s1 c e Y) (hc : c ≤ 9 ∨ (0 < s.left ∧ c ≤ 300)) => of_post hl.2 e1 e2 e3 h hc)
  have A0 := hid (At.start hl.1)
  have HE := hid (hE.grew hl.2)
  have g2 := hl.1.c2
  have g0 := hl.1.c0
  rw [e3] at g2
  obtain ⟨L, hL⟩ : ∃ L : Int, s.left - 1 = L := ⟨_, rfl⟩
  have HLe := hid hL
  rw [hL] at g2
  clear hO hH hl hf h hE hX hs1 e1 e2 e3 hL
  go_enter Try.func46, Try.ntmps46
  go_upto_region 2 with fail
  try rw [HW.out]
  rw [HX.out]
  clear c2 f2 HW HX
  have HLF := hid (leaf_nine ty A0.out.1 HFF.out.1 HE.out.know (by have := HE.out.room; omega))
  by_cases hd : deep ≤ 1
  · go_wp2_with fail
    refine HLF.out.mono ?_
    rintro e Xl ⟨vl, nl, sl, tl, rfl, hnl, hll, hgl, hgrl, hspl⟩
    have NL := hid (And.intro hnl (And.intro hll (And.intro hgl (And.intro hgrl hspl))))
    clear hnl hll hgl hgrl hspl
    go_wp2_with fail
    go_ret
    exact HP.out 9 _ _ ⟨vl, nl, sl, tl, rfl, NL.out.1, NL.out.2.1, NL.out.2.2.1, NL.out.2.2.2.1, NL.out.2.2.2.2⟩ (Or.inl (by omega))
  · by_cases hl0 : L ≤ 0
    · go_wp2_with fail
      refine HLF.out.mono ?_
      rintro e Xl ⟨vl, nl, sl, tl, rfl, hnl, hll, hgl, hgrl, hspl⟩
      have NL := hid (And.intro hnl (And.intro hll (And.intro hgl (And.intro hgrl hspl))))
      clear hnl hll hgl hgrl hspl
      go_wp2_with fail
      go_ret
      exact HP.out 9 _ _ ⟨vl, nl, sl, tl, rfl, NL.out.1, NL.out.2.1, NL.out.2.2.1, NL.out.2.2.2.1, NL.out.2.2.2.2⟩ (Or.inl (by omega))
    · have HPos : Hid (0 < s.left) := by show _ < _; have := HLe.out; omega
      have HF := hid (HFF.out.2 HPos.out)
      have HD := hid (And.intro (show deep - 1 ≤ (D : Int) by have := HD0.out.1; omega) (And.intro (show -90 ≤ deep - 1 by omega) (show D ≤ 100 by omega)))
      have hdu : deep ≤ 1000 := by have := HD0.out; omega
      go_wp2_with fail
      refine (A0.out.pick HF.out (by omega) 9 (by decide)).mono ?_
      rintro e X1 ⟨m1, s51, rfl, hm1, hM1, ha, hg⟩
      have A1 := hid ha
      have G1 := hid hg
      clear ha hg
      by_cases h9 : m1 = 0
      · subst h9
        have HL3 := hid (A1.out.nodes (leaf_calls ty A1.out.1 (A1.out.fit HF.out 10 (by omega)) (HE.out.grew G1.out).know (by have := HE.out.room; omega)))
        go_wp2_with fail
        refine HL3.out.mono ?_
        rintro e X2 ⟨v2, n2, s2, t2, rfl, hn2, hl2, ha, hg⟩
        have A2 := hid ha
        have G2 := hid hg
        clear ha hg
        have N2 := hid (And.intro hn2 hl2)
        clear hn2 hl2
        go_wp2_with fail
        go_ret
        exact HP.out 300 _ _ (A2.out.done 0 N2.out.1 (by have := N2.out.2; omega) (by omega)) (Or.inr ⟨HPos.out, by omega⟩)
      · have z9 : (m1 == 0) = false := by simp [h9]
        have g0 := A1.out.1.c0
        go_wp2_with fail
        refine (A1.out.pick HF.out (by omega) 11 (by decide)).mono ?_
        rintro e X2 ⟨m2, s2, rfl, hm2, hM2, ha, hg⟩
        have A2 := hid ha
        have G2 := hid hg
        clear ha hg
        clear g0
        have hcs : m2 = 0 ∨ m2 = 1 ∨ m2 = 2 ∨ m2 = 3 ∨ m2 = 4 ∨ m2 = 5 ∨ m2 = 6 ∨ m2 = 7 ∨ m2 = 8 ∨ m2 = 9 ∨ m2 = 10 := by omega
        rcases hcs with rfl | rfl | rfl | rfl | rfl | rfl | rfl | rfl | rfl | rfl | rfl
        · go_wp2_with fail
          refine (A2.out.nodes (HO.out (deep - 1) 2 _ _ _ _ _ _ (by have := HD.out; omega) (by have := HD.out; omega) (A2.out.fit HF.out 10 (by omega)) A2.out.1 (HE.out.grew (G1.out.trans G2.out)).down)).mono ?_
          rintro e X3 ⟨v3, n3, s3, t3, rfl, hn3, hl3, ha, hg⟩
          have A3 := hid ha
          have G3 := hid hg
          clear ha hg
          have N3 := hid (And.intro hn3 hl3)
          obtain ⟨ad3, cp3, rfl⟩ := hn3.is
          clear hn3 hl3
          go_wp2_with fail
          refine (A3.out.nodes (HO.out (deep - 1) ty _ _ _ _ _ _ (by have := HD.out; omega) (by have := HD.out; omega) (A3.out.fit HF.out 10 (by omega)) A3.out.1 (HE.out.grew (G1.out.trans (G2.out.trans G3.out))).down)).mono ?_
          rintro e X4 ⟨v4, n4, s4, t4, rfl, hn4, hl4, ha, hg⟩
          have A4 := hid ha
          have G4 := hid hg
          clear ha hg
          have N4 := hid (And.intro hn4 hl4)
          obtain ⟨ad4, cp4, rfl⟩ := hn4.is
          clear hn4 hl4
          go_wp2_with fail
          refine (A4.out.nodes (HO.out (deep - 1) ty _ _ _ _ _ _ (by have := HD.out; omega) (by have := HD.out; omega) (A4.out.fit HF.out 10 (by omega)) A4.out.1 (HE.out.grew (G1.out.trans (G2.out.trans (G3.out.trans G4.out)))).down)).mono ?_
          rintro e X5 ⟨v5, n5, s5, t5, rfl, hn5, hl5, ha, hg⟩
          have A5 := hid ha
          have G5 := hid hg
          clear ha hg
          have N5 := hid (And.intro hn5 hl5)
          obtain ⟨ad5, cp5, rfl⟩ := hn5.is
          clear hn5 hl5
          go_wp2_with fail
          refine (A5.out.put3 10 0 0 ByteArray.empty ByteArray.empty ByteArray.empty (N3.out.1.grew (G4.out.trans G5.out)) (N4.out.1.grew G5.out) N5.out.1 ⟨brief_none, brief_none, brief_none⟩ (by have := A5.out.bound HF.out (by omega) (by decide); have := N3.out.2; have := N4.out.2; have := N5.out.2; omega)).mono ?_
          rintro e X6 ⟨v6, n6, rfl, hn6, hl6, ha, hg⟩
          have A6 := hid ha
          have G6 := hid hg
          clear ha hg
          have N6 := hid (And.intro hn6 hl6)
          obtain ⟨ad6, cp6, rfl⟩ := hn6.is
          clear hn6 hl6
          go_wp2_with fail
          go_ret
          exact HP.out 300 _ _ (A6.out.done 1 N6.out.1 (by have := N6.out.2; have := N3.out.2; have := N4.out.2; have := N5.out.2; omega) (by omega)) (Or.inr ⟨HPos.out, by omega⟩)
        · go_wp2_with fail
          refine (A2.out.name HF.out (by omega)).mono ?_
          rintro e X3 ⟨x3, s3, rfl, hb3, ha, hg⟩
          have A3 := hid ha
          have G3 := hid hg
          clear ha hg
          have B3 := hid hb3
          clear hb3
          have g0 := A3.out.1.c0
          go_wp2_with fail
          refine (A3.out.pick HF.out (by omega) 5 (by decide)).mono ?_
          rintro e X4 ⟨m4, s4, rfl, hm4, hM4, ha, hg⟩
          have A4 := hid ha
          have G4 := hid hg
          clear ha hg
          clear g0
          go_wp2_with fail
          refine (A4.out.nodes (HO.out (deep - 1) (1 + m4) _ _ _ _ _ _ (by have := HD.out; omega) (by have := HD.out; omega) (A4.out.fit HF.out 10 (by omega)) A4.out.1 (HE.out.grew (G1.out.trans (G2.out.trans (G3.out.trans G4.out)))).down)).mono ?_
          rintro e X5 ⟨v5, n5, s5, t5, rfl, hn5, hl5, ha, hg⟩
          have A5 := hid ha
          have G5 := hid hg
          clear ha hg
          have N5 := hid (And.intro hn5 hl5)
          obtain ⟨ad5, cp5, rfl⟩ := hn5.is
          clear hn5 hl5
          go_wp2_with fail
          refine (A5.out.add x3 (1 + m4) 0 (HE.out.grew (G1.out.trans (G2.out.trans (G3.out.trans (G4.out.trans G5.out))))).know B3.out (by have := HE.out.room; omega)).mono ?_
          rintro e X6 ⟨u6, ks6, rfl, hk6, hkl6, ha, hg⟩
          have A6 := hid ha
          have G6 := hid hg
          clear ha hg
          have K6 := hid (And.intro hk6 hkl6)
          obtain ⟨ad6, cp6, rfl⟩ := hk6.is
          clear hk6 hkl6
          go_wp2_with fail
          refine (A6.out.nodes (HO.out (deep - 1) ty _ _ _ _ _ _ (by have := HD.out; omega) (by have := HD.out; omega) (A6.out.fit HF.out 10 (by omega)) A6.out.1 ((HE.out.grew (G1.out.trans (G2.out.trans (G3.out.trans (G4.out.trans (G5.out.trans G6.out)))))).with K6.out.1 (by have := K6.out.2; omega)))).mono ?_
          rintro e X7 ⟨v7, n7, s7, t7, rfl, hn7, hl7, ha, hg⟩
          have A7 := hid ha
          have G7 := hid hg
          clear ha hg
          have N7 := hid (And.intro hn7 hl7)
          obtain ⟨ad7, cp7, rfl⟩ := hn7.is
          clear hn7 hl7
          go_wp2_with fail
          refine (A7.out.put2 8 0 0 x3 ByteArray.empty ByteArray.empty (N5.out.1.grew (G6.out.trans G7.out)) N7.out.1 ⟨B3.out, brief_none, brief_none⟩ (by have := A7.out.bound HF.out (by omega) (by decide); have := N5.out.2; have := N7.out.2; omega)).mono ?_
          rintro e X8 ⟨v8, n8, rfl, hn8, hl8, ha, hg⟩
          have A8 := hid ha
          have G8 := hid hg
          clear ha hg
          have N8 := hid (And.intro hn8 hl8)
          obtain ⟨ad8, cp8, rfl⟩ := hn8.is
          clear hn8 hl8
          go_wp2_with fail
          go_ret
          exact HP.out 300 _ _ (A8.out.done 1 N8.out.1 (by have := N8.out.2; have := N5.out.2; have := N7.out.2; omega) (by omega)) (Or.inr ⟨HPos.out, by omega⟩)
        · go_wp2_with fail
          refine (A2.out.name HF.out (by omega)).mono ?_
          rintro e X3 ⟨x3, s3, rfl, hb3, ha, hg⟩
          have A3 := hid ha
          have G3 := hid hg
          clear ha hg
          have B3 := hid hb3
          clear hb3
          go_wp2_with fail
          refine (A3.out.name HF.out (by omega)).mono ?_
          rintro e X4 ⟨x4, s4, rfl, hb4, ha, hg⟩
          have A4 := hid ha
          have G4 := hid hg
          clear ha hg
          have B4 := hid hb4
          clear hb4
          go_wp2_with fail
          refine (A4.out.nodes (HO.out (deep - 1) 4 _ _ _ _ _ _ (by have := HD.out; omega) (by have := HD.out; omega) (A4.out.fit HF.out 10 (by omega)) A4.out.1 (HE.out.grew (G1.out.trans (G2.out.trans (G3.out.trans G4.out)))).down)).mono ?_
          rintro e X5 ⟨v5, n5, s5, t5, rfl, hn5, hl5, ha, hg⟩
          have A5 := hid ha
          have G5 := hid hg
          clear ha hg
          have N5 := hid (And.intro hn5 hl5)
          obtain ⟨ad5, cp5, rfl⟩ := hn5.is
          clear hn5 hl5
          go_wp2_with fail
          refine (A5.out.nodes (HO.out (deep - 1) ty _ _ _ _ _ _ (by have := HD.out; omega) (by have := HD.out; omega) (A5.out.fit HF.out 10 (by omega)) A5.out.1 (HE.out.grew (G1.out.trans (G2.out.trans (G3.out.trans (G4.out.trans G5.out))))).down)).mono ?_
          rintro e X6 ⟨v6, n6, s6, t6, rfl, hn6, hl6, ha, hg⟩
          have A6 := hid ha
          have G6 := hid hg
          clear ha hg
          have N6 := hid (And.intro hn6 hl6)
          obtain ⟨ad6, cp6, rfl⟩ := hn6.is
          clear hn6 hl6
          go_wp2_with fail
          refine (A6.out.add x3 1 0 (HE.out.grew (G1.out.trans (G2.out.trans (G3.out.trans (G4.out.trans (G5.out.trans G6.out)))))).know B3.out (by have := HE.out.room; omega)).mono ?_
          rintro e X7 ⟨u7, ks7, rfl, hk7, hkl7, ha, hg⟩
          have A7 := hid ha
          have G7 := hid hg
          clear ha hg
          have K7 := hid (And.intro hk7 hkl7)
          obtain ⟨ad7, cp7, rfl⟩ := hk7.is
          clear hk7 hkl7
          go_wp2_with fail
          refine (A7.out.add x4 4 0 K7.out.1 B4.out (by have := HE.out.room; have := K7.out.2; omega)).mono ?_
          rintro e X8 ⟨u8, ks8, rfl, hk8, hkl8, ha, hg⟩
          have A8 := hid ha
          have G8 := hid hg
          clear ha hg
          have K8 := hid (And.intro hk8 hkl8)
          obtain ⟨ad8, cp8, rfl⟩ := hk8.is
          clear hk8 hkl8
          go_wp2_with fail
          refine (A8.out.nodes (HO.out (deep - 1) ty _ _ _ _ _ _ (by have := HD.out; omega) (by have := HD.out; omega) (A8.out.fit HF.out 10 (by omega)) A8.out.1 ((HE.out.grew (G1.out.trans (G2.out.trans (G3.out.trans (G4.out.trans (G5.out.trans (G6.out.trans (G7.out.trans G8.out)))))))).with K8.out.1 (by have := K7.out.2; have := K8.out.2; omega)))).mono ?_
          rintro e X9 ⟨v9, n9, s9, t9, rfl, hn9, hl9, ha, hg⟩
          have A9 := hid ha
          have G9 := hid hg
          clear ha hg
          have N9 := hid (And.intro hn9 hl9)
          obtain ⟨ad9, cp9, rfl⟩ := hn9.is
          clear hn9 hl9
          go_wp2_with fail
          refine (A9.out.put3 20 0 0 x3 x4 ByteArray.empty (N5.out.1.grew (G6.out.trans (G7.out.trans (G8.out.trans G9.out)))) (N6.out.1.grew (G7.out.trans (G8.out.trans G9.out))) N9.out.1 ⟨B3.out, B4.out, brief_none⟩ (by have := A9.out.bound HF.out (by omega) (by decide); have := N5.out.2; have := N6.out.2; have := N9.out.2; omega)).mono ?_
          rintro e X10 ⟨v10, n10, rfl, hn10, hl10, ha, hg⟩
          have A10 := hid ha
          have G10 := hid hg
          clear ha hg
          have N10 := hid (And.intro hn10 hl10)
          obtain ⟨ad10, cp10, rfl⟩ := hn10.is
          clear hn10 hl10
          go_wp2_with fail
          go_ret
          exact HP.out 300 _ _ (A10.out.done 1 N10.out.1 (by have := N10.out.2; have := N5.out.2; have := N6.out.2; have := N9.out.2; omega) (by omega)) (Or.inr ⟨HPos.out, by omega⟩)
        · go_wp2_with fail
          refine (A2.out.nodes (HH.out ty (deep - 1) _ _ _ _ _ _ (by have := HD.out; omega) (by have := HD.out; omega) A2.out.1 (A2.out.fit HF.out 250 (by omega)) (HE.out.grew (G1.out.trans G2.out)))).mono ?_
          rintro e X3 ⟨v3, n3, s3, t3, rfl, hn3, hl3, ha, hg⟩
          have A3 := hid ha
          have G3 := hid hg
          clear ha hg
          have N3 := hid (And.intro hn3 hl3)
          obtain ⟨ad3, cp3, rfl⟩ := hn3.is
          clear hn3 hl3
          go_wp2_with fail
          go_ret
          exact HP.out 300 _ _ (A3.out.done 0 N3.out.1 (by have := N3.out.2; omega) (by omega)) (Or.inr ⟨HPos.out, by omega⟩)
        · go_wp2_with fail
          refine (A2.out.nodes (HH.out ty (deep - 1) _ _ _ _ _ _ (by have := HD.out; omega) (by have := HD.out; omega) A2.out.1 (A2.out.fit HF.out 250 (by omega)) (HE.out.grew (G1.out.trans G2.out)))).mono ?_
          rintro e X3 ⟨v3, n3, s3, t3, rfl, hn3, hl3, ha, hg⟩
          have A3 := hid ha
          have G3 := hid hg
          clear ha hg
          have N3 := hid (And.intro hn3 hl3)
          obtain ⟨ad3, cp3, rfl⟩ := hn3.is
          clear hn3 hl3
          go_wp2_with fail
          go_ret
          exact HP.out 300 _ _ (A3.out.done 0 N3.out.1 (by have := N3.out.2; omega) (by omega)) (Or.inr ⟨HPos.out, by omega⟩)
        · go_wp2_with fail
          refine (A2.out.nodes0 (cont_calls ty (deep - 1) HO.out (by have := HD.out; omega) (by have := HD.out; omega) (by have := HD.out; omega) A2.out.1 (A2.out.fit HF.out 30 (by omega)) (HE.out.grew (G1.out.trans G2.out)))).mono ?_
          rintro e X3 ⟨v3, n3, s3, t3, rfl, hn3, hl3, ha, hg⟩
          have A3 := hid ha
          have G3 := hid hg
          clear ha hg
          have N3 := hid (And.intro hn3 hl3)
          obtain ⟨ad3, cp3, rfl⟩ := hn3.is
          clear hn3 hl3
          by_cases hz : n3.length = 0
          · rw [hz]
            go_wp2_with fail
            refine (A3.out.nodes (gown_calls ty (deep - 1) HO.out (by have := HD.out; omega) (by have := HD.out; omega) (by have := HD.out; omega) A3.out.1 (A3.out.fit HF.out 100 (by omega)) (HE.out.grew (G1.out.trans (G2.out.trans G3.out))))).mono ?_
            rintro e X4 ⟨v4, n4, s4, t4, rfl, hn4, hl4, ha, hg⟩
            have A4 := hid ha
            have G4 := hid hg
            clear ha hg
            have N4 := hid (And.intro hn4 hl4)
            obtain ⟨ad4, cp4, rfl⟩ := hn4.is
            clear hn4 hl4
            go_wp2_with fail
            go_ret
            exact HP.out 300 _ _ (A4.out.done 0 N4.out.1 (by have := N4.out.2; omega) (by omega)) (Or.inr ⟨HPos.out, by omega⟩)
          · have hz' : (0 : Int) < (n3.length : Int) := by omega
            go_wp2_with fail
            go_ret
            exact HP.out 300 _ _ (A3.out.done 0 N3.out.1 (by have := N3.out.2; omega) (by omega)) (Or.inr ⟨HPos.out, by omega⟩)
        · go_wp2_with fail
          refine (A2.out.nodes0 (perform_calls ty (deep - 1) HO.out (by have := HD.out; omega) (by have := HD.out; omega) (by have := HD.out; omega) A2.out.1 (A2.out.fit HF.out 30 (by omega)) (HE.out.grew (G1.out.trans G2.out)))).mono ?_
          rintro e X3 ⟨v3, n3, s3, t3, rfl, hn3, hl3, ha, hg⟩
          have A3 := hid ha
          have G3 := hid hg
          clear ha hg
          have N3 := hid (And.intro hn3 hl3)
          obtain ⟨ad3, cp3, rfl⟩ := hn3.is
          clear hn3 hl3
          by_cases hz : n3.length = 0
          · rw [hz]
            go_wp2_with fail
            refine (A3.out.nodes (gown_calls ty (deep - 1) HO.out (by have := HD.out; omega) (by have := HD.out; omega) (by have := HD.out; omega) A3.out.1 (A3.out.fit HF.out 100 (by omega)) (HE.out.grew (G1.out.trans (G2.out.trans G3.out))))).mono ?_
            rintro e X4 ⟨v4, n4, s4, t4, rfl, hn4, hl4, ha, hg⟩
            have A4 := hid ha
            have G4 := hid hg
            clear ha hg
            have N4 := hid (And.intro hn4 hl4)
            obtain ⟨ad4, cp4, rfl⟩ := hn4.is
            clear hn4 hl4
            go_wp2_with fail
            go_ret
            exact HP.out 300 _ _ (A4.out.done 0 N4.out.1 (by have := N4.out.2; omega) (by omega)) (Or.inr ⟨HPos.out, by omega⟩)
          · have hz' : (0 : Int) < (n3.length : Int) := by omega
            go_wp2_with fail
            go_ret
            exact HP.out 300 _ _ (A3.out.done 0 N3.out.1 (by have := N3.out.2; omega) (by omega)) (Or.inr ⟨HPos.out, by omega⟩)
        · have g0 := A2.out.1.c0
          go_wp2_with fail
          refine (A2.out.pick HF.out (by omega) 2 (by decide)).mono ?_
          rintro e X3 ⟨m3, s3, rfl, hm3, hM3, ha, hg⟩
          have A3 := hid ha
          have G3 := hid hg
          clear ha hg
          clear g0
          by_cases h7 : m3 = 0
          · subst h7
            go_upto_region 29 with fail
            refine pick_begin (S := fun w' => w'.cell? ⟨d.G, 0, none⟩ = some (.pointer (some ⟨d.B, 0, none⟩))) (by kernel_rfl) rfl rfl ?_
            have A4 := hid A3.out.drew
            have G4 := hid (Grew.refl d X3).drew
            generalize X3.drew = X4 at *
            refine pick_op (i := 0) (v := .agg #[.int .i64 17, .int .i64 0, .string ⟨#[]⟩, .string ⟨#[]⟩, .string ⟨#[]⟩, .int .i64 0]) (by kernel_rfl) rfl (by kernel_rfl) (by kernel_rfl) rfl rfl (fun w' hw => by simp [go_sem]) (A4.out.1.c0) (by simp [go_sem]; exact rfl) ?_
            refine pick_op (i := 1) (v := .agg #[.int .i64 16, .int .i64 0, .string ⟨#[]⟩, .string ⟨#[]⟩, .string ⟨#[]⟩, .int .i64 0]) (by kernel_rfl) rfl (by kernel_rfl) (by kernel_rfl) rfl rfl (fun w' hw => by simp [go_sem]) (A4.out.1.c0) (by simp [go_sem]; exact rfl) ?_
            refine pick_op (i := 2) (v := .pointer (some ⟨d.G, 0, none⟩)) (by kernel_rfl) rfl (by kernel_rfl) (by kernel_rfl) rfl rfl (fun w' hw => by simp [go_sem]) (A4.out.1.c0) (by simp [go_sem]; exact rfl) ?_
            refine pick_op (i := 3) (v := .int .i64 ty) (by kernel_rfl) rfl (by kernel_rfl) (by kernel_rfl) rfl rfl (fun w' hw => by simp [go_sem]) (A4.out.1.c0) (by simp [go_sem]; exact rfl) ?_
            refine pick_op (i := 4) (v := .slice ad ks.length cp) (by kernel_rfl) rfl (by kernel_rfl) (by kernel_rfl) rfl rfl (fun w' hw => by simp [go_sem]) (A4.out.1.c0) (by simp [go_sem]; exact rfl) ?_
            refine pick_op (i := 5) (v := .slice adm ms.length cpm) (by kernel_rfl) rfl (by kernel_rfl) (by kernel_rfl) rfl rfl (fun w' hw => by simp [go_sem]) (A4.out.1.c0) (by simp [go_sem]; exact rfl) ?_
            refine pick_op (i := 6) (v := .int .i64 (deep - 1)) (by kernel_rfl) rfl (by kernel_rfl) (by kernel_rfl) rfl rfl (fun w' hw => by simp [go_sem]) (A4.out.1.c0) (by simp [go_sem]; exact rfl) ?_
            refine pick_op (i := 8) (v := .pointer (some ⟨d.G, 0, none⟩)) (by kernel_rfl) rfl (by kernel_rfl) (by kernel_rfl) rfl rfl (fun w' hw => by simp [go_sem]) (A4.out.1.c0) (by simp [go_sem]; exact rfl) ?_
            refine pick_op (i := 9) (v := .pointer (some ⟨d.G, 0, none⟩)) (by kernel_rfl) rfl (by kernel_rfl) (by kernel_rfl) rfl rfl (fun w' hw => by simp [go_sem]) (A4.out.1.c0) (by simp [go_sem]; exact rfl) ?_
            refine pick_op (i := 10) (v := .pointer (some ⟨d.G, 0, none⟩)) (by kernel_rfl) rfl (by kernel_rfl) (by kernel_rfl) rfl rfl (fun w' hw => by simp [go_sem]) (A4.out.1.c0) (by simp [go_sem]; exact rfl) ?_
            refine pick_op (i := 11) (v := .pointer (some ⟨d.G, 0, none⟩)) (by kernel_rfl) rfl (by kernel_rfl) (by kernel_rfl) rfl rfl (fun w' hw => by simp [go_sem]) (A4.out.1.c0) (by simp [go_sem]; exact rfl) ?_
            refine pick_op (i := 12) (v := .pointer (some ⟨d.B, 0, none⟩)) (by kernel_rfl) rfl (by kernel_rfl) (by kernel_rfl) rfl rfl (fun w' hw => by simp [go_sem, hw]) (A4.out.1.c0) (by simp [go_sem]; exact rfl) ?_
            refine pick_op (i := 15) (v := .slice ad ks.length cp) (by kernel_rfl) rfl (by kernel_rfl) (by kernel_rfl) rfl rfl (fun w' hw => by simp [go_sem]) (A4.out.1.c0) (by simp [go_sem]; exact rfl) ?_
            refine pick_enter (i := 7) (f := 46) (args := #[.pointer (some ⟨d.G, 0, none⟩), .int .i64 ty, .slice ad ks.length cp, .slice adm ms.length cpm, .int .i64 (deep - 1)]) rfl (by kernel_rfl) rfl rfl (by simp [go_sem]) ?_
            refine (A4.out.nodes (HO.out (deep - 1) ty _ _ _ _ _ _ (by have := HD.out; omega) (by have := HD.out; omega) (A4.out.fit HF.out 10 (by omega)) A4.out.1 (HE.out.grew (G1.out.trans (G2.out.trans (G3.out.trans G4.out)))).down)).mono ?_
            rintro e X5 ⟨v5, n5, s5, t5, rfl, hn5, hl5, ha, hg⟩
            have A5 := hid ha
            have G5 := hid hg
            clear ha hg
            have N5 := hid (And.intro hn5 hl5)
            obtain ⟨ad5, cp5, rfl⟩ := hn5.is
            clear hn5 hl5
            refine ⟨_, rfl, (A5.out.1.c0), ?_⟩
            refine pick_frame (by simp [go_sem]; exact rfl) ?_
            refine pick_enter (i := 13) (f := 13) (args := #[.pointer (some ⟨d.B, 0, none⟩), .int .i64 4]) rfl (by kernel_rfl) rfl rfl (by simp [go_sem]) ?_
            refine (A5.out.pick HF.out (by omega) 4 (by decide)).mono ?_
            rintro e X6 ⟨m6, s6, rfl, hm6, hM6, ha, hg⟩
            have A6 := hid ha
            have G6 := hid hg
            clear ha hg
            refine ⟨_, rfl, (A6.out.1.c0), ?_⟩
            refine pick_frame (by simp [go_sem]; exact rfl) ?_
            have hwr : IntKind.i64.wrap (1 + m6) = 1 + m6 := by rw [IntKind.wrap_i64]; omega
            refine pick_op (i := 14) (v := .int .i64 (1 + m6)) (by kernel_rfl) rfl (by kernel_rfl) (by kernel_rfl) rfl rfl (fun w' hw => by simp [go_sem, hwr]) (A6.out.1.c0) (by simp [go_sem]; exact rfl) ?_
            clear hwr
            refine pick_enter (i := 16) (f := 59) (args := #[.pointer (some ⟨d.G, 0, none⟩), .int .i64 (1 + m6), .slice ad ks.length cp]) rfl (by kernel_rfl) rfl rfl (by simp [go_sem]) ?_
            refine (A6.out.nodes (leaf_calls (1 + m6) A6.out.1 (A6.out.fit HF.out 10 (by omega)) (HE.out.grew (G1.out.trans (G2.out.trans (G3.out.trans (G4.out.trans (G5.out.trans G6.out)))))).know (by have := HE.out.room; omega))).mono ?_
            rintro e X7 ⟨v7, n7, s7, t7, rfl, hn7, hl7, ha, hg⟩
            have A7 := hid ha
            have G7 := hid hg
            clear ha hg
            have N7 := hid (And.intro hn7 hl7)
            obtain ⟨ad7, cp7, rfl⟩ := hn7.is
            clear hn7 hl7
            refine ⟨_, rfl, (A7.out.1.c0), ?_⟩
            refine pick_frame (by simp [go_sem]; exact rfl) ?_
            have KV : Hid (KidsV d (X7.alloc (.cells #[.slice ad5 n5.length cp5, .slice ad7 n7.length cp7] 43)) (.slice (some ⟨X7.heap.size, 0, none⟩) 2 2) [(.slice ad5 n5.length cp5, n5), (.slice ad7 n7.length cp7, n7)]) := (kids_lit [(.slice ad5 n5.length cp5, n5), (.slice ad7 n7.length cp7, n7)] _ rfl A7.out.1.ltB A7.out.1.ltG (fun x hx => by simp at hx; rcases hx with rfl | rfl; exact (N5.out.1.grew (G6.out.trans G7.out)); exact N7.out.1))
            have A8 := hid (A7.out.alloc (.cells #[.slice ad5 n5.length cp5, .slice ad7 n7.length cp7] 43))
            have G8 := hid ((Grew.refl d X7).alloc (.cells #[.slice ad5 n5.length cp5, .slice ad7 n7.length cp7] 43))
            refine pick_make (i := 17) (v := .slice (some ⟨X7.heap.size, 0, none⟩) 2 2) (w1 := X7.alloc (.cells #[.slice ad5 n5.length cp5, .slice ad7 n7.length cp7] 43)) rfl (by kernel_rfl) rfl rfl (by simp [go_sem]) (A8.out.1.c0) (by simp [go_sem]; exact rfl) ?_
            generalize X7.alloc (.cells #[.slice ad5 n5.length cp5, .slice ad7 n7.length cp7] 43) = X8 at *
            refine pick_enter (i := 18) (f := 60) (args := #[.agg #[.int .i64 16, .int .i64 0, .string ⟨#[]⟩, .string ⟨#[]⟩, .string ⟨#[]⟩, .int .i64 0], .slice (some ⟨X7.heap.size, 0, none⟩) 2 2]) rfl (by kernel_rfl) rfl rfl (by simp [go_sem]) ?_
            refine (A8.out.put_kids 16 0 0 ⟨#[]⟩ ⟨#[]⟩ ⟨#[]⟩ KV.out ⟨brief_none, brief_none, brief_none⟩ (by simp) (by have := A8.out.bound HF.out (by omega) (by decide); have := N5.out.2; have := N7.out.2; simp [flatL]; omega)).mono ?_
            rintro e X9 ⟨v9, n9, rfl, hn9, hl9, ha, hg⟩
            have A9 := hid ha
            have G9 := hid hg
            clear ha hg
            have N9 := hid (And.intro hn9 hl9)
            obtain ⟨ad9, cp9, rfl⟩ := hn9.is
            clear hn9 hl9
            refine ⟨_, rfl, (A9.out.1.c0), ?_⟩
            refine pick_frame (by simp [go_sem]; exact rfl) ?_
            have KW : Hid (KidsV d (X9.alloc (.cells #[.slice ad9 n9.length cp9] 43)) (.slice (some ⟨X9.heap.size, 0, none⟩) 1 1) [(.slice ad9 n9.length cp9, n9)]) := (kids_lit [(.slice ad9 n9.length cp9, n9)] _ rfl A9.out.1.ltB A9.out.1.ltG (fun x hx => by simp at hx; rcases hx with rfl; exact N9.out.1))
            have A10 := hid (A9.out.alloc (.cells #[.slice ad9 n9.length cp9] 43))
            have G10 := hid ((Grew.refl d X9).alloc (.cells #[.slice ad9 n9.length cp9] 43))
            refine pick_make (i := 19) (v := .slice (some ⟨X9.heap.size, 0, none⟩) 1 1) (w1 := X9.alloc (.cells #[.slice ad9 n9.length cp9] 43)) rfl (by kernel_rfl) rfl rfl (by simp [go_sem]) (A10.out.1.c0) (by simp [go_sem]; exact rfl) ?_
            generalize X9.alloc (.cells #[.slice ad9 n9.length cp9] 43) = X10 at *
            refine pick_enter (i := 20) (f := 60) (args := #[.agg #[.int .i64 17, .int .i64 0, .string ⟨#[]⟩, .string ⟨#[]⟩, .string ⟨#[]⟩, .int .i64 0], .slice (some ⟨X9.heap.size, 0, none⟩) 1 1]) rfl (by kernel_rfl) rfl rfl (by simp [go_sem]) ?_
            refine (A10.out.put_kids 17 0 0 ⟨#[]⟩ ⟨#[]⟩ ⟨#[]⟩ KW.out ⟨brief_none, brief_none, brief_none⟩ (by simp) (by have := A10.out.bound HF.out (by omega) (by decide); have q1 := N9.out.2; have := N5.out.2; have := N7.out.2; simp [flatL] at q1; simp [flatL]; omega)).mono ?_
            rintro e X11 ⟨v11, n11, rfl, hn11, hl11, ha, hg⟩
            have A11 := hid ha
            have G11 := hid hg
            clear ha hg
            have N11 := hid (And.intro hn11 hl11)
            obtain ⟨ad11, cp11, rfl⟩ := hn11.is
            clear hn11 hl11
            refine ⟨_, rfl, (A11.out.1.c0), ?_⟩
            refine pick_frame (by simp [go_sem]; exact rfl) ?_
            refine pick_op (i := 21) (v := .slice ad11 n11.length cp11) (by kernel_rfl) rfl (by kernel_rfl) (by kernel_rfl) rfl rfl (fun w' hw => by simp [go_sem]) (A11.out.1.c0) (by simp [go_sem]; exact rfl) ?_
            refine pick_end (by kernel_rfl) ?_
            go_wp2_with fail
            go_ret
            exact HP.out 300 _ _ (A11.out.done 5 N11.out.1 (by have := N11.out.2; have := N9.out.2; have := N5.out.2; have := N7.out.2; simp [flatL] at *; omega) (by omega)) (Or.inr ⟨HPos.out, by omega⟩)
          · have z7 : (m3 == 0) = false := by simp [h7]
            have g0 := A3.out.1.c0
            go_wp2_with fail
            refine (A3.out.pick HF.out (by omega) 4 (by decide)).mono ?_
            rintro e X4 ⟨m4, s4, rfl, hm4, hM4, ha, hg⟩
            have A4 := hid ha
            have G4 := hid hg
            clear ha hg
            clear g0
            go_wp2_with fail
            refine (A4.out.nodes (leaf_calls (1 + m4) A4.out.1 (A4.out.fit HF.out 10 (by omega)) (HE.out.grew (G1.out.trans (G2.out.trans (G3.out.trans G4.out)))).know (by have := HE.out.room; omega))).mono ?_
            rintro e X5 ⟨v5, n5, s5, t5, rfl, hn5, hl5, ha, hg⟩
            have A5 := hid ha
            have G5 := hid hg
            clear ha hg
            have N5 := hid (And.intro hn5 hl5)
            obtain ⟨ad5, cp5, rfl⟩ := hn5.is
            clear hn5 hl5
            go_wp2_with fail
            refine (A5.out.nodes (HO.out (deep - 1) ty _ _ _ _ _ _ (by have := HD.out; omega) (by have := HD.out; omega) (A5.out.fit HF.out 10 (by omega)) A5.out.1 (HE.out.grew (G1.out.trans (G2.out.trans (G3.out.trans (G4.out.trans G5.out))))).down)).mono ?_
            rintro e X6 ⟨v6, n6, s6, t6, rfl, hn6, hl6, ha, hg⟩
            have A6 := hid ha
            have G6 := hid hg
            clear ha hg
            have N6 := hid (And.intro hn6 hl6)
            obtain ⟨ad6, cp6, rfl⟩ := hn6.is
            clear hn6 hl6
            go_wp2_with fail
            refine (A6.out.put2 16 0 0 ByteArray.empty ByteArray.empty ByteArray.empty (N5.out.1.grew G6.out) N6.out.1 ⟨brief_none, brief_none, brief_none⟩ (by have := A6.out.bound HF.out (by omega) (by decide); have := N5.out.2; have := N6.out.2; omega)).mono ?_
            rintro e X7 ⟨v7, n7, rfl, hn7, hl7, ha, hg⟩
            have A7 := hid ha
            have G7 := hid hg
            clear ha hg
            have N7 := hid (And.intro hn7 hl7)
            obtain ⟨ad7, cp7, rfl⟩ := hn7.is
            clear hn7 hl7
            go_wp2_with fail
            refine (A7.out.put1 18 0 0 ByteArray.empty ByteArray.empty ByteArray.empty N7.out.1 ⟨brief_none, brief_none, brief_none⟩ (by have := A7.out.bound HF.out (by omega) (by decide); have := N7.out.2; have := N5.out.2; have := N6.out.2; omega)).mono ?_
            rintro e X8 ⟨v8, n8, rfl, hn8, hl8, ha, hg⟩
            have A8 := hid ha
            have G8 := hid hg
            clear ha hg
            have N8 := hid (And.intro hn8 hl8)
            obtain ⟨ad8, cp8, rfl⟩ := hn8.is
            clear hn8 hl8
            go_wp2_with fail
            go_ret
            exact HP.out 300 _ _ (A8.out.done 2 N8.out.1 (by have := N8.out.2; have := N7.out.2; have := N5.out.2; have := N6.out.2; omega) (by omega)) (Or.inr ⟨HPos.out, by omega⟩)
        · go_wp2_with fail
          refine (A2.out.nodes (gown_calls ty (deep - 1) HO.out (by have := HD.out; omega) (by have := HD.out; omega) (by have := HD.out; omega) A2.out.1 (A2.out.fit HF.out 100 (by omega)) (HE.out.grew (G1.out.trans G2.out)))).mono ?_
          rintro e X3 ⟨v3, n3, s3, t3, rfl, hn3, hl3, ha, hg⟩
          have A3 := hid ha
          have G3 := hid hg
          clear ha hg
          have N3 := hid (And.intro hn3 hl3)
          obtain ⟨ad3, cp3, rfl⟩ := hn3.is
          clear hn3 hl3
          go_wp2_with fail
          go_ret
          exact HP.out 300 _ _ (A3.out.done 0 N3.out.1 (by have := N3.out.2; omega) (by omega)) (Or.inr ⟨HPos.out, by omega⟩)
        · go_wp2_with fail
          refine (A2.out.nodes (gown_calls ty (deep - 1) HO.out (by have := HD.out; omega) (by have := HD.out; omega) (by have := HD.out; omega) A2.out.1 (A2.out.fit HF.out 100 (by omega)) (HE.out.grew (G1.out.trans G2.out)))).mono ?_
          rintro e X3 ⟨v3, n3, s3, t3, rfl, hn3, hl3, ha, hg⟩
          have A3 := hid ha
          have G3 := hid hg
          clear ha hg
          have N3 := hid (And.intro hn3 hl3)
          obtain ⟨ad3, cp3, rfl⟩ := hn3.is
          clear hn3 hl3
          go_wp2_with fail
          go_ret
          exact HP.out 300 _ _ (A3.out.done 0 N3.out.1 (by have := N3.out.2; omega) (by omega)) (Or.inr ⟨HPos.out, by omega⟩)
        · go_wp2_with fail
          refine (A2.out.nodes (gown_calls ty (deep - 1) HO.out (by have := HD.out; omega) (by have := HD.out; omega) (by have := HD.out; omega) A2.out.1 (A2.out.fit HF.out 100 (by omega)) (HE.out.grew (G1.out.trans G2.out)))).mono ?_
          rintro e X3 ⟨v3, n3, s3, t3, rfl, hn3, hl3, ha, hg⟩
          have A3 := hid ha
          have G3 := hid hg
          clear ha hg
          have N3 := hid (And.intro hn3 hl3)
          obtain ⟨ad3, cp3, rfl⟩ := hn3.is
          clear hn3 hl3
          go_wp2_with fail
          go_ret
          exact HP.out 300 _ _ (A3.out.done 0 N3.out.1 (by have := N3.out.2; omega) (by omega)) (Or.inr ⟨HPos.out, by omega⟩)
end Go.Proofs.Ytnhofdngmbnlkaa

/- The drawer keeps its contract at all depths. -/
namespace Go.Proofs.Ytnhofdngmbnlkaa
open Go.RowKit Go.Deep

set_option maxHeartbeats 8000000 in
set_option maxRecDepth 100000 in
theorem of_zero {d : Dr} {ve : Value} {es : List Ef} : OfC d ve es 0 := by
  intro deep ty v vm ks ms W s h1 h2 hf h hE
  have hl := h.setLeft (s.left - 1)
  have f2 := h.f2
  have c2 := h.c2
  have HW : Hid (wrap64 (s.left - 1) = s.left - 1) := by show _ = _; unfold Fit at hf; unfold wrap64; omega
  have hd : deep ≤ 1 := by omega
  obtain ⟨ad, cp, rfl⟩ := hE.know.is
  obtain ⟨adm, cpm, rfl⟩ := hE.may.is
  obtain ⟨X, hX⟩ : ∃ X, W.setCell ⟨d.G, 2, none⟩ (.int .i64 (s.left - 1)) = X := ⟨_, rfl⟩
  rw [hX] at hl
  have HX := hid hX
  obtain ⟨s1, hs1⟩ : ∃ s1 : Cn, { s with left := s.left - 1 } = s1 := ⟨_, rfl⟩
  rw [hs1] at hl
  have e1 : s1.p = s.p := by rw [← hs1]
  have e2 : s1.next = s.next := by rw [← hs1]
  have e3 : s1.left = s.left - 1 := by rw [← hs1]
  have HFF := hid (of_fit hf e1 e2 e3)
  have HP := hid (fun (c : Nat) (e : Ending) (Y : World) (h : NodesPost d ve X s1 c e Y) (hc : c ≤ 9 ∨ (0 < s.left ∧ c ≤ 300)) => of_post hl.2 e1 e2 e3 h hc)
  have A0 := hid (At.start hl.1)
  have HE := hid (hE.grew hl.2)
  have g2 := hl.1.c2
  have g0 := hl.1.c0
  rw [e3] at g2
  obtain ⟨L, hL⟩ : ∃ L : Int, s.left - 1 = L := ⟨_, rfl⟩
  have HLe := hid hL
  rw [hL] at g2
  clear hl hf h hE hX hs1 e1 e2 e3 hL
  go_enter Try.func46, Try.ntmps46
  go_upto_region 2 with fail
  try rw [HW.out]
  rw [HX.out]
  clear c2 f2 HW HX
  have HLF := hid (leaf_nine ty A0.out.1 HFF.out.1 HE.out.know (by have := HE.out.room; omega))
  go_wp2_with fail
  refine HLF.out.mono ?_
  rintro e Xl ⟨vl, nl, sl, tl, rfl, hnl, hll, hgl, hgrl, hspl⟩
  have NL := hid (And.intro hnl (And.intro hll (And.intro hgl (And.intro hgrl hspl))))
  clear hnl hll hgl hgrl hspl
  go_wp2_with fail
  go_ret
  exact HP.out 9 _ _ ⟨vl, nl, sl, tl, rfl, NL.out.1, NL.out.2.1, NL.out.2.2.1, NL.out.2.2.2.1, NL.out.2.2.2.2⟩ (Or.inl (by omega))

theorem of_all {d : Dr} {ve : Value} {es : List Ef} : ∀ D : Nat, D ≤ 90 → OfC d ve es D
  | 0, _ => of_zero
  | D + 1, h => of_step (by omega) (of_all D (by omega)) (fun ty deep v vm ks ms X s h1 h2 hG hF hE => handler_calls ty deep (of_all D (by omega)) h1 h2 (by omega) hG hF hE)
end Go.Proofs.Ytnhofdngmbnlkaa

/- The operations of a drawn program; a reader without a drawer, and with one. -/
namespace Go.Proofs.Ytnhofdngmbnlkaa
open Go.RowKit Go.Deep

/-- The reader with a drawer beside it. -/
def Dr.on (d : Dr) (G : Nat) : Dr := ⟨d.B, G, d.a0, d.len, d.cap⟩

theorem free_on {d : Dr} {W W' : World} {q : Nat} (h : d.free W q) (hs : W.heap.size ≤ W'.heap.size) {G : Nat} (hg : W.heap.size ≤ G) : (d.on G).free W' q :=
  ⟨Nat.lt_of_lt_of_le h.1 hs, h.2.1, by have := h.1; show q ≠ G; omega⟩

theorem free_off {d : Dr} {W : World} {q G : Nat} (hG : d.G = d.B) (h : (d.on G).free W q) : d.free W q := ⟨h.1, h.2.1, by rw [hG]; exact h.2.1⟩

theorem Lies.on {d : Dr} {W W' : World} {v : Value} {n sz G : Nat} {F : Nat → Value} (h : Lies d W v n sz F) (hb : Below W.heap.size W W') (hg : W.heap.size ≤ G) : Lies (d.on G) W' v n sz F := by
  rcases h with h | ⟨b, off, cap, h1, h2, h3, h4, h5⟩
  · exact Or.inl h
  · exact Or.inr ⟨b, off, cap, h1, h2, h3, free_on h4 hb.size hg, fun i hi => (hb.cell (p := ⟨b, off + i, none⟩) h4.1).trans (h5 i hi)⟩

theorem Lies.off {d : Dr} {W : World} {v : Value} {n sz G : Nat} {F : Nat → Value} (hG : d.G = d.B) (h : Lies (d.on G) W v n sz F) : Lies d W v n sz F := by
  rcases h with h | ⟨b, off, cap, h1, h2, h3, h4, h5⟩
  · exact Or.inl h
  · exact Or.inr ⟨b, off, cap, h1, h2, h3, free_off hG h4, h5⟩

theorem Rdr.on {d : Dr} {W W' : World} {p G : Nat} (h : Rdr d W p) (hb : Below W.heap.size W W') (hg : W.heap.size ≤ G) : Rdr (d.on G) W' p := by
  refine ⟨(hb.block _ (heap_lt h.blk)).trans h.blk, fun hl => ?_⟩
  obtain ⟨b, off, ea, hq, hz⟩ := h.bytes hl
  refine ⟨b, off, ea, free_on hq hb.size hg, fun i hi => ?_⟩
  obtain ⟨z, hz, h2⟩ := hz i hi
  exact ⟨z, (hb.cell (p := ⟨b, off + i, none⟩) hq.1).trans hz, h2⟩

theorem Rdr.off {d : Dr} {W : World} {p G : Nat} (hG : d.G = d.B) (h : Rdr (d.on G) W p) : Rdr d W p := by
  refine ⟨h.blk, fun hl => ?_⟩
  obtain ⟨b, off, ea, hq, hz⟩ := h.bytes hl
  exact ⟨b, off, ea, free_off hG hq, hz⟩

theorem Grew.off {d : Dr} {W X Y : World} {G : Nat} (h : Grew d W X) (g : Grew (d.on G) X Y) (hg : W.heap.size ≤ G) : Grew d W Y :=
  ⟨g.os.trans h.os, g.tape.trans h.tape, g.output.trans h.output, Nat.le_trans h.size g.size, fun q hq => (g.block q ⟨Nat.lt_of_lt_of_le hq.1 h.size, hq.2.1, by have := hq.1; show q ≠ G; omega⟩).trans (h.block q hq)⟩

theorem lies_take {α : Type} [Inhabited α] {f : α → Nat → Value} {sz : Nat} {d : Dr} {W : World} {b cap n k : Nat} {l : List α} (h : Lies d W (.slice (some ⟨b, 0, none⟩) n cap) l.length sz (fun i => f (l.getD (i / sz) default) (i % sz))) (hk : k ≤ n) (hn : 0 < n) (hl : l.length = n) : Lies d W (.slice (some ⟨b, 0, none⟩) k cap) (l.take k).length sz (fun i => f ((l.take k).getD (i / sz) default) (i % sz)) := by
  obtain ⟨-, hc, b', off, e, hq, h5⟩ := h.at hn
  cases e
  have hlk : (l.take k).length = k := by rw [List.length_take]; omega
  rw [hlk]
  refine Or.inr ⟨b, 0, cap, rfl, by omega, rfl, hq, fun i hi => ?_⟩
  have hi' : i / sz < k := Nat.div_lt_of_lt_mul (by rw [Nat.mul_comm]; exact hi)
  rw [h5 i (Nat.lt_of_lt_of_le hi (Nat.mul_le_mul_right _ hk))]
  have e : (l.take k).getD (i / sz) default = l.getD (i / sz) default := by simp [List.getD, List.getElem?_take_of_lt hi']
  show _ = some (f ((l.take k).getD (i / sz) default) (i % sz))
  rw [e]

def all4 : List Ef := [⟨⟨#[97, 115, 107]⟩, 3, 1⟩, ⟨⟨#[116, 101, 108, 108]⟩, 1, 3⟩, ⟨⟨#[102, 108, 105, 112]⟩, 3, 2⟩, ⟨⟨#[112, 97, 115, 115]⟩, 4, 1⟩]

theorem all4_brief : ∀ e ∈ all4, Brief e.name := by
  intro e he
  unfold all4 at he
  simp only [List.mem_cons, List.not_mem_nil, or_false] at he
  rcases he with rfl | rfl | rfl | rfl <;> (unfold Brief; decide)

def EffsPost (d : Dr) (W : World) (p : Nat) (e : Ending) (W' : World) : Prop :=
  ∃ v es, e = .returned v ∧ EffsD d W' v es ∧ 1 ≤ es.length ∧ es.length ≤ 4 ∧ Rdr d W' (p + 1) ∧ Grew d W W'

set_option maxHeartbeats 4000000 in
set_option maxRecDepth 100000 in
theorem effs_calls {d : Dr} {W : World} {p : Nat} (hG : d.G = d.B) (h : Rdr d W p) (hp : p ≤ 1000000) : Calls Try.prog 45 #[.pointer (some ⟨d.B, 0, none⟩)] W (EffsPost d W p) := by
  have hB := heap_lt h.blk
  have HL := hid (lies_lit (f := Ef.cell) (sz := 3) (d := d) (by decide) W 60 all4 _ rfl hB (by rw [hG]; exact hB))
  have hbl : Below W.heap.size W (W.alloc (.cells (rowZ Ef.cell 3 all4).toArray 60)) := (Below.refl _ _).alloc (Nat.le_refl _) _
  have HB := hid hbl
  have HP := hid (rdr_pick (h.below hbl) hp 4 (by decide))
  clear hbl h hp
  go_enter Try.func45, Try.ntmps45
  go_wp2_with fail
  refine HP.out.mono ?_
  rintro e X ⟨m, rfl, hm0, hm1, hr, hg, -, -⟩
  have HR := hid (And.intro hr hg)
  have HX := hid (HL.out.grew hg)
  clear hr hg HP HL
  have hcs : m = 0 ∨ m = 1 ∨ m = 2 ∨ m = 3 := by omega
  rcases hcs with rfl | rfl | rfl | rfl
  · go_wp2_with fail
    go_ret
    exact ⟨_, all4.take 1, rfl, ⟨lies_take HX.out (by decide) (by decide) rfl, fun e he => all4_brief e (List.mem_of_mem_take he)⟩, by decide, by decide, HR.out.1, (Grew.of_below HB.out).trans HR.out.2⟩
  · go_wp2_with fail
    go_ret
    exact ⟨_, all4.take 2, rfl, ⟨lies_take HX.out (by decide) (by decide) rfl, fun e he => all4_brief e (List.mem_of_mem_take he)⟩, by decide, by decide, HR.out.1, (Grew.of_below HB.out).trans HR.out.2⟩
  · go_wp2_with fail
    go_ret
    exact ⟨_, all4.take 3, rfl, ⟨lies_take HX.out (by decide) (by decide) rfl, fun e he => all4_brief e (List.mem_of_mem_take he)⟩, by decide, by decide, HR.out.1, (Grew.of_below HB.out).trans HR.out.2⟩
  · go_wp2_with fail
    go_ret
    exact ⟨_, all4.take 4, rfl, ⟨lies_take HX.out (by decide) (by decide) rfl, fun e he => all4_brief e (List.mem_of_mem_take he)⟩, by decide, by decide, HR.out.1, (Grew.of_below HB.out).trans HR.out.2⟩
end Go.Proofs.Ytnhofdngmbnlkaa

/- A drawn program: mostly one that has a type, and always one whose tree is a tree. -/
namespace Go.Proofs.Ytnhofdngmbnlkaa
open Go.RowKit Go.Deep

/-- These nodes are a tree, within the sizes. -/
def Tr (ns : List Nd) : Prop := ∃ (n : Nd) (k : Fo), ns = n :: k.flat ∧ n.kids = k.count ∧ k.wf ∧ ns.length ≤ 300

theorem tr_of_ans {ns : List Nd} (h : SpecAns ns true) : Tr ns := by
  rcases h with ⟨-, h⟩ | ⟨-, -, -, h⟩ | ⟨h1, h2, n, k, e1, e2, e3, -⟩
  · cases h
  · cases h
  · exact ⟨n, k, e1, e2, e3, h2⟩

theorem prog_true {es : List Ef} {ns : List Nd} {T : Bool} (h : progZ es ns T = true) : T = true := by
  unfold progZ at h
  cases T
  · simp at h
  · rfl

def ProgPost (d : Dr) (W : World) (p : Nat) (e : Ending) (W' : World) : Prop :=
  ∃ ad n cp vt es ns p', e = .returned (.agg #[.slice ad n cp, vt]) ∧ EffsD d W' (.slice ad n cp) es ∧ es.length ≤ 4 ∧ NodesD d W' vt ns ∧ Tr ns ∧ Rdr d W' p' ∧ p' ≤ p + 200000 ∧ Grew d W W'

/-- What lies there when the program is drawn. -/
structure Pg (d : Dr) (W X : World) (p p' : Nat) (rb : Nat) : Prop where
  rd : Rdr d X p'
  gr : Grew d W X
  res : X.heap[rb]? = some (.cells #[.slice none 0 0, .slice none 0 0] 45)
  low : W.heap.size ≤ rb

/-- A call, or one that makes something: whichever comes up. -/
theorem pick_either2 {P : Program} {l0 : List Oper} {Q : Exit → Act → World → Prop} {S : World → Prop} {i j n : Nat} {ls : Array Bool} {a : Act} {w : World} (hr : (Region.ready .any l0.toArray ls == [i, j]) = true) (h1 : PickCl P l0 Q S n ls a w i) (h2 : PickMk P l0 Q S n ls a w j) : wpAnyH P .any l0.toArray (NoPanic Q) S (n + 1) ls a w := by
  refine wpAnyH_all (rs := [i, j]) (by simpa using hr) (by simp) (fun k hk => ?_)
  simp only [List.mem_cons, List.not_mem_nil, or_false] at hk
  rcases hk with rfl | rfl
  · exact h1.op
  · exact h2.op

theorem made_bools (n : Nat) (hn : n ≤ 1000) (w : World) : ∃ c : Array Value, c = madeCells #[.bool false] n ∧ (Instr.makeSlice 79 (.int .i64 (n : Int)) (.int .i64 (n : Int))).run Try.prog w = .ok (.slice (some ⟨w.heap.size, 0, none⟩) n n) (w.alloc (.cells c 4)) := by
  obtain ⟨i0, hi, hz0, hz1, hz2⟩ := info_parts info_bool
  have h := run_make (P := Try.prog) w 79 4 i0 _ Try.underlying79 hi hz0 .i64 .i64 n n (by omega) (Int.le_refl _) (by rw [hz2]; omega) (by omega)
  rw [hz1] at h
  simp only [Int.toNat_natCast, Nat.mul_one] at h
  exact ⟨_, rfl, h⟩

theorem bools_made {d : Dr} {X : World} {n : Nat} {c : Array Value} (hc : c = madeCells #[.bool false] n) (h1 : d.B < X.heap.size) (h2 : d.G < X.heap.size) : BoolsD d (X.alloc (.cells c 4)) (.slice (some ⟨X.heap.size, 0, none⟩) n n) (List.replicate n false) := by
  subst hc
  have hh := (MapKept.heap_alloc X (.cells (madeCells #[.bool false] n) 4)).1
  unfold BoolsD
  rw [List.length_replicate]
  refine Or.inr ⟨_, 0, _, rfl, Nat.le_refl _, rfl, ⟨heap_lt hh, by omega, by omega⟩, fun i hi => ?_⟩
  rw [Nat.mul_one] at hi
  rw [Nat.zero_add, cell_of_heap hh i]
  have e : (madeCells #[.bool false] n)[i]? = some (.bool false) := by simp [madeCells, hi, Nat.mod_one]
  rw [e]
  simp [List.getD, hi]

/-- When the tree is drawn and stored. -/
structure Fi (d : Dr) (W : World) (p i rb bp : Nat) (ve vt : Value) (es : List Ef) (ns : List Nd) (Z : World) (q : Nat) : Prop where
  rd : Rdr d Z q
  cost : q ≤ p + 30000 * (i + 1)
  gr : Grew d W Z
  res : Z.heap[rb]? = some (.cells #[.slice none 0 0, .slice none 0 0] 45)
  low : W.heap.size ≤ rb
  box : Z.heap[bp]? = some (.cells #[ve, vt] 45)
  effs : EffsD d Z ve es
  some_ : 1 ≤ es.length
  nodes : NodesD d Z vt ns
  any : 1 ≤ ns.length ∧ ns.length ≤ 100000

theorem Fi.below {d : Dr} {W : World} {p i rb bp : Nat} {ve vt : Value} {es : List Ef} {ns : List Nd} {Z Z' : World} {q : Nat} (h : Fi d W p i rb bp ve vt es ns Z q) (hb : Below Z.heap.size Z Z') : Fi d W p i rb bp ve vt es ns Z' q :=
  ⟨h.rd.below hb, h.cost, h.gr.trans (Grew.of_below hb), (hb.block _ (heap_lt h.res)).trans h.res, h.low, (hb.block _ (heap_lt h.box)).trans h.box, h.effs.grew (Grew.of_below hb), h.some_, h.nodes.grew (Grew.of_below hb), h.any⟩

theorem Fi.lies {d : Dr} {W : World} {p i rb bp : Nat} {ve vt : Value} {es : List Ef} {ns : List Nd} {Z : World} {q : Nat} (h : Fi d W p i rb bp ve vt es ns Z q) :
    ∃ be ce bt ct, ve = .slice (some ⟨be, 0, none⟩) es.length ce ∧ vt = .slice (some ⟨bt, 0, none⟩) ns.length ct ∧ be < Z.heap.size ∧ bt < Z.heap.size ∧ EffsAt Z be 0 es ∧ NodesAt Z bt 0 ns ∧ ns.length ≤ 1048576 := by
  have h1 := h.some_
  have h2 := h.any
  obtain ⟨⟨-, h0⟩ | ⟨be, off, ce, e1, -, rfl, hq, hc⟩, -⟩ := h.effs
  · omega
  obtain ⟨⟨-, h0⟩ | ⟨bt, off, ct, e2, -, rfl, hq', hc'⟩, -⟩ := h.nodes
  · omega
  refine ⟨be, ce, bt, ct, e1, e2, hq.1, hq'.1, fun k hk c hc2 => ?_, fun k hk c hc2 => ?_, by omega⟩
  · rw [Nat.add_assoc, hc (k * 3 + c) (by omega)]
    exact congrArg some (cell_div es Ef.cell 3 k c hc2)
  · rw [Nat.add_assoc, hc' (k * 6 + c) (by omega)]
    exact congrArg some (cell_div ns Nd.cell 6 k c hc2)

/-- What lies in a block of a program is neither names nor numbers. -/
theorem lies_not {d : Dr} {W : World} {v : Value} {n sz : Nat} {F : Nat → Value} {bp : Nat} {u0 u1 : Value} {t : TypeId} (h : Lies d W v n sz F) (hn : 0 < n * sz) (hb : W.heap[bp]? = some (.cells #[u0, u1] t)) (hne : F 0 ≠ u0) {X : World} (hX : ∀ q, q ≠ bp → X.heap[q]? = W.heap[q]?) (hs : X.heap.size = W.heap.size) : Lies d X v n sz F := by
  rcases h with h | ⟨b, off, cap, h1, h2, rfl, h4, h5⟩
  · exact Or.inl h
  · refine Or.inr ⟨b, 0, cap, h1, h2, rfl, ⟨by rw [hs]; exact h4.1, h4.2⟩, fun i hi => ?_⟩
    have hbb : b ≠ bp := fun e => by
      subst e
      have e1 := h5 0 hn
      rw [Nat.zero_add, cell_of_heap hb 0] at e1
      simp at e1
      exact hne e1.symm
    exact (World.cell?_of_block (a := ⟨b, 0 + i, none⟩) (hX b hbb)).trans (h5 i hi)

theorem rdr_not {d : Dr} {W : World} {p bp : Nat} {a1 c1 a2 c2 : Option Addr × Nat × Nat} {u0 u1 : Value} (hu0 : u0 = .slice a1.1 a1.2.1 a1.2.2) (hu1 : u1 = .slice a2.1 a2.2.1 a2.2.2) (h : Rdr d W p) (hb : W.heap[bp]? = some (.cells #[u0, u1] 45)) {X : World} (hX : ∀ q, q ≠ bp → X.heap[q]? = W.heap[q]?) (hs : X.heap.size = W.heap.size) (_ : c1 = c2) : Rdr d X p := by
  subst hu0
  subst hu1
  have hne : d.B ≠ bp := fun e => by
    have := h.blk
    rw [e, hb] at this
    simp at this
  refine ⟨(hX _ hne).trans h.blk, fun hl => ?_⟩
  obtain ⟨b, off, ea, hq, hz⟩ := h.bytes hl
  have hbb : b ≠ bp := fun e => by
    subst e
    obtain ⟨z, hz, -⟩ := hz 0 hl
    rw [cell_of_heap hb] at hz
    match off, hz with
    | 0, hz => simp at hz
    | 1, hz => simp at hz
    | _ + 2, hz => simp at hz
  refine ⟨b, off, ea, ⟨by rw [hs]; exact hq.1, hq.2⟩, fun i hi => ?_⟩
  obtain ⟨z, hz, h2⟩ := hz i hi
  exact ⟨z, (World.cell?_of_block (a := ⟨b, off + i, none⟩) (hX b hbb)).trans hz, h2⟩

theorem prog_rest {d : Dr} {W Y X1 X2 X4 X : World} {p p' i rb : Nat} {ade : Option Addr} {cpe : Nat} {es : List Ef} {s s' : Cn} {t0 t' c : Nat} {adt : Option Addr} {cpt : Nat} {ns : List Nd} (hG : d.G = d.B) (hP : Pg d W Y p p' rb) (hc : p' ≤ p + 30000 * i) (hg1 : Grew d Y X1) (hg2 : Grew d X1 X2) (he : EffsD d X1 (.slice ade es.length cpe) es) (h1 : 1 ≤ es.length) (hb24 : Below X2.heap.size X2 X4) (hs : s.p = p' + 1 + 1) (hleft : s.left ≤ 89) (hcC : c ≤ 20)
    (ha : At (d.on X2.heap.size) (.slice ade es.length cpe) X4 s X s' (t0 + t') c) (hb : X.heap[X2.heap.size + 1]? = some (.cells #[.slice ade es.length cpe, .slice none 0 0] 45)) (hn : NodesD (d.on X2.heap.size) X (.slice adt ns.length cpt) ns) (hl : 1 ≤ ns.length ∧ ns.length ≤ t') :
    Fi d W p i rb (X2.heap.size + 1) (.slice ade es.length cpe) (.slice adt ns.length cpt) es ns (X.setCell ⟨X2.heap.size + 1, 1, none⟩ (.slice adt ns.length cpt)) s'.p := by
  have hX : ∀ q, q ≠ X2.heap.size + 1 → (X.setCell ⟨X2.heap.size + 1, 1, none⟩ (.slice adt ns.length cpt)).heap[q]? = X.heap[q]? := fun q hq => Below.heap_setCell X ⟨X2.heap.size + 1, 1, none⟩ _ q hq
  have hs' : (X.setCell ⟨X2.heap.size + 1, 1, none⟩ (.slice adt ns.length cpt)).heap.size = X.heap.size := by simp [World.setCell]
  have hYX : Grew d Y X2 := hg1.trans hg2
  have hlow := hP.low
  have hrb := heap_lt hP.res
  have hYs := hYX.size
  have hWX : Grew d W X := ((hP.gr.trans hYX).trans (Grew.of_below hb24)).off ha.2.1 (by have := hP.gr.size; omega)
  have hsp := ha.2.2
  unfold Spent at hsp
  have hrbB : rb ≠ d.B := fun e => by
    have := hP.rd.blk
    rw [← e, hP.res] at this
    simp at this
  have hrX : X.heap[rb]? = some (.cells #[.slice none 0 0, .slice none 0 0] 45) := by
    rw [ha.2.1.block rb ⟨by have := hb24.size; omega, hrbB, by show rb ≠ X2.heap.size; omega⟩, hb24.block rb (by omega), hYX.block rb ⟨hrb, hrbB, by rw [hG]; exact hrbB⟩]
    exact hP.res
  refine ⟨rdr_not (a1 := (ade, es.length, cpe)) (a2 := (none, 0, 0)) (c1 := (none, 0, 0)) rfl rfl (ha.1.rd.off hG) hb hX hs' rfl, by omega, ⟨hWX.os, hWX.tape, hWX.output, by rw [hs']; exact hWX.size, fun q hq => (hX q (by have := hq.1; have := hP.gr.size; omega)).trans (hWX.block q hq)⟩, (hX rb (by omega)).trans hrX, hlow, set_heap hb, ?_, h1, ?_, by omega⟩
  · refine ⟨lies_not ((he.1.grew hg2).on hb24 (Nat.le_refl _) |>.grew ha.2.1 |>.off hG) (by omega) hb (fun e => ?_) hX hs', he.2⟩
    simp only [Nat.zero_div, Nat.zero_mod] at e
    cases e
  · refine ⟨lies_not (hn.1.off hG) (by omega) hb (fun e => ?_) hX hs', hn.2⟩
    simp only [Nat.zero_div, Nat.zero_mod] at e
    cases e

/-- The program is stored where it is told. -/
theorem Fi.stored {d : Dr} {W : World} {p i rb bp : Nat} {ve vt : Value} {es : List Ef} {ns : List Nd} {Z : World} {q : Nat} (h : Fi d W p i rb bp ve vt es ns Z q) (u0 u1 : Value) :
    EffsD d ((Z.setCell ⟨rb, 0, none⟩ u0).setCell ⟨rb, 1, none⟩ u1) ve es ∧ NodesD d ((Z.setCell ⟨rb, 0, none⟩ u0).setCell ⟨rb, 1, none⟩ u1) vt ns ∧ Rdr d ((Z.setCell ⟨rb, 0, none⟩ u0).setCell ⟨rb, 1, none⟩ u1) q ∧ Grew d W ((Z.setCell ⟨rb, 0, none⟩ u0).setCell ⟨rb, 1, none⟩ u1) := by
  have hX : ∀ k, k ≠ rb → ((Z.setCell ⟨rb, 0, none⟩ u0).setCell ⟨rb, 1, none⟩ u1).heap[k]? = Z.heap[k]? := fun k hk => (Below.heap_setCell _ ⟨rb, 1, none⟩ _ k hk).trans (Below.heap_setCell Z ⟨rb, 0, none⟩ _ k hk)
  have hs' : ((Z.setCell ⟨rb, 0, none⟩ u0).setCell ⟨rb, 1, none⟩ u1).heap.size = Z.heap.size := by simp [World.setCell]
  have h1 := h.some_
  have h2 := h.any
  have hlow := h.low
  refine ⟨⟨lies_not h.effs.1 (by omega) h.res (fun e => ?_) hX hs', h.effs.2⟩, ⟨lies_not h.nodes.1 (by omega) h.res (fun e => ?_) hX hs', h.nodes.2⟩, rdr_not (a1 := (none, 0, 0)) (a2 := (none, 0, 0)) (c1 := (none, 0, 0)) rfl rfl h.rd h.res hX hs' rfl, ⟨h.gr.os, h.gr.tape, h.gr.output, by rw [hs']; exact h.gr.size, fun k hk => (hX k (by have := hk.1; omega)).trans (h.gr.block k hk)⟩⟩
  · simp only [Nat.zero_div, Nat.zero_mod] at e
    cases e
  · simp only [Nat.zero_div, Nat.zero_mod] at e
    cases e

/-- The last resort is stored where it is told. -/
theorem fall_back {d : Dr} {W Y Z : World} {p p' rb : Nat} {v : Value} {n : Nd} (hP : Pg d W Y p p' rb) (hb : Below Y.heap.size Y Z) (hn : NodesD d Z v [n]) (u0 u1 : Value) :
    NodesD d ((Z.setCell ⟨rb, 0, none⟩ u0).setCell ⟨rb, 1, none⟩ u1) v [n] ∧ Rdr d ((Z.setCell ⟨rb, 0, none⟩ u0).setCell ⟨rb, 1, none⟩ u1) p' ∧ Grew d W ((Z.setCell ⟨rb, 0, none⟩ u0).setCell ⟨rb, 1, none⟩ u1) := by
  have hX : ∀ k, k ≠ rb → ((Z.setCell ⟨rb, 0, none⟩ u0).setCell ⟨rb, 1, none⟩ u1).heap[k]? = Z.heap[k]? := fun k hk => (Below.heap_setCell _ ⟨rb, 1, none⟩ _ k hk).trans (Below.heap_setCell Z ⟨rb, 0, none⟩ _ k hk)
  have hs' : ((Z.setCell ⟨rb, 0, none⟩ u0).setCell ⟨rb, 1, none⟩ u1).heap.size = Z.heap.size := by simp [World.setCell]
  have hres := (hb.block _ (heap_lt hP.res)).trans hP.res
  have hlow := hP.low
  have hg := hP.gr.trans (Grew.of_below hb)
  refine ⟨⟨lies_not hn.1 (by simp) hres (fun e => ?_) hX hs', hn.2⟩, rdr_not (a1 := (none, 0, 0)) (a2 := (none, 0, 0)) (c1 := (none, 0, 0)) rfl rfl (hP.rd.below hb) hres hX hs' rfl, ⟨hg.os, hg.tape, hg.output, by rw [hs']; exact hg.size, fun k hk => (hX k (by have := hk.1; omega)).trans (hg.block k hk)⟩⟩
  simp only [Nat.zero_div, Nat.zero_mod] at e
  cases e

set_option maxHeartbeats 8000000 in
set_option maxRecDepth 100000 in
theorem prog_calls {d : Dr} {W : World} {p : Nat} (hG : d.G = d.B) (h : Rdr d W p) (hp : p ≤ 500000) : Calls Try.prog 29 #[.pointer (some ⟨d.B, 0, none⟩)] W (ProgPost d W p) := by
  have hB := heap_lt h.blk
  have HG := hid hG
  have HPl := hid hp
  have P0 : Hid (Pg d W (W.alloc (.cells #[.slice none 0 0, .slice none 0 0] 45)) p p W.heap.size) := ⟨h.below ((Below.refl _ _).alloc (Nat.le_refl _) _), (Grew.refl d W).alloc _, (MapKept.heap_alloc W _).1, Nat.le_refl _⟩
  clear hG h hp
  go_enter Try.func29, Try.ntmps29
  go_wp2_with fail
  obtain ⟨rb, hrb⟩ : ∃ rb, W.heap.size = rb := ⟨_, rfl⟩
  have HRb := hid hrb
  rw [hrb] at P0 ⊢
  clear hrb
  go_loopw [3] (fun i wr => ∃ (i' p' : Nat), i = .int .i64 i' ∧ i' ≤ 6 ∧ Hid (Pg d W wr p p' rb ∧ p' ≤ p + 30000 * i')) (fun i _ => 6 - (intOf i).toNat)
  case atStart => exact ⟨0, p, rfl, Nat.zero_le _, P0.out, by omega⟩
  case round =>
    obtain ⟨i', p', rfl, hle, HP⟩ := hrel
    rename World => Y
    by_cases hi : (i' : Int) < 6
    · have hstep : 6 - (intOf (.int .i64 ((i' + 1 : Nat) : Int))).toNat < 6 - (intOf (.int .i64 (i' : Int))).toNat := by simp [intOf]; omega
      have HE0 := hid (effs_calls HG.out HP.out.1.rd (by have := HP.out.2; have := HPl.out; omega))
      go_wp2_with fail
      refine HE0.out.mono ?_
      rintro e X1 ⟨ve, es, rfl, hes, hes1, hes4, hr1, hg1⟩
      obtain ⟨ade, cpe, rfl⟩ := hes.is
      have E1 := hid (And.intro hes (And.intro hes1 hes4))
      have R1 := hid (And.intro hr1 hg1)
      clear hes hes1 hes4 hr1 hg1 HE0
      go_wp2_with fail
      refine (rdr_pick R1.out.1 (by have := HP.out.2; have := HPl.out; omega) 60 (by decide)).mono ?_
      rintro e X2 ⟨m2, rfl, hm0, hm1, hr2, hg2, -, -⟩
      have R2 := hid (And.intro hr2 hg2)
      clear hr2 hg2
      go_upto_region 6 with fail
      have hB2 : Below X2.heap.size X2 ((X2.alloc (.cells #[.pointer (some ⟨d.B, 0, none⟩), .slice ade es.length cpe, .int .i64 (30 + m2), .int .i64 0] 77)).alloc (.cells #[.slice ade es.length cpe, .slice none 0 0] 45)) := ((Below.refl _ _).alloc (Nat.le_refl _) _).alloc (by simp) _
      have hG2 := (MapKept.heap_alloc X2 (.cells #[.pointer (some ⟨d.B, 0, none⟩), .slice ade es.length cpe, .int .i64 (30 + m2), .int .i64 0] 77)).1
      have hb3 : Below (X2.alloc (.cells #[.pointer (some ⟨d.B, 0, none⟩), .slice ade es.length cpe, .int .i64 (30 + m2), .int .i64 0] 77)).heap.size (X2.alloc (.cells #[.pointer (some ⟨d.B, 0, none⟩), .slice ade es.length cpe, .int .i64 (30 + m2), .int .i64 0] 77)) ((X2.alloc (.cells #[.pointer (some ⟨d.B, 0, none⟩), .slice ade es.length cpe, .int .i64 (30 + m2), .int .i64 0] 77)).alloc (.cells #[.slice ade es.length cpe, .slice none 0 0] 45)) := (Below.refl _ _).alloc (Nat.le_refl _) _
      have hG4 := (hb3.block X2.heap.size (by simp)).trans hG2
      have hP4 := (MapKept.heap_alloc (X2.alloc (.cells #[.pointer (some ⟨d.B, 0, none⟩), .slice ade es.length cpe, .int .i64 (30 + m2), .int .i64 0] 77)) (.cells #[.slice ade es.length cpe, .slice none 0 0] 45)).1
      rw [show (X2.alloc (.cells #[.pointer (some ⟨d.B, 0, none⟩), .slice ade es.length cpe, .int .i64 (30 + m2), .int .i64 0] 77)).heap.size = X2.heap.size + 1 by simp] at hP4
      clear hb3 hG2
      generalize (X2.alloc (.cells #[.pointer (some ⟨d.B, 0, none⟩), .slice ade es.length cpe, .int .i64 (30 + m2), .int .i64 0] 77)).alloc (.cells #[.slice ade es.length cpe, .slice none 0 0] 45) = X4 at *
      have HB2 := hid hB2
      have A0 : Hid (At (d.on X2.heap.size) (.slice ade es.length cpe) X4 ⟨p' + 1 + 1, 30 + m2, 0⟩ X4 ⟨p' + 1 + 1, 30 + m2, 0⟩ 0 0) := At.start ⟨R2.out.1.on HB2.out (Nat.le_refl _), hG4, by have := heap_lt R2.out.1.blk; show d.B ≠ X2.heap.size; omega⟩
      have EF : Hid (EffsD (d.on X2.heap.size) X4 (.slice ade es.length cpe) es) := ⟨(E1.out.1.1.grew R2.out.2).on HB2.out (Nat.le_refl _), E1.out.1.2⟩
      have HF : Hid (Fit ⟨p' + 1 + 1, 30 + m2, 0⟩ 20) := by
        have := HP.out.2
        have := HPl.out
        unfold Hid Fit
        dsimp only
        omega
      have BP := hid hP4
      have HQp : Hid ((d.on X2.heap.size).free X4 (X2.heap.size + 1)) := ⟨heap_lt hP4, by have := heap_lt R2.out.1.blk; show X2.heap.size + 1 ≠ d.B; omega, by show X2.heap.size + 1 ≠ X2.heap.size; omega⟩
      clear hB2 hG4 hP4
      refine pick_begin (S := fun w' => w'.cell? ⟨X2.heap.size, 1, none⟩ = some (.slice ade es.length cpe)) (by kernel_rfl) rfl rfl ?_
      have A1 := hid A0.out.drew
      have G1 := hid (Grew.refl (d.on X2.heap.size) X4).drew
      generalize X4.drew = X11 at *
      refine pick_op (i := 0) (v := .pointer (some ⟨X2.heap.size, 0, none⟩)) (by kernel_rfl) rfl (by kernel_rfl) (by kernel_rfl) rfl rfl (fun w' hw => by simp [go_sem]) (A1.out.1.c1) (by simp [go_sem]; exact rfl) ?_
      refine pick_op (i := 1) (v := .pointer (some ⟨d.B, 0, none⟩)) (by kernel_rfl) rfl (by kernel_rfl) (by kernel_rfl) rfl rfl (fun w' hw => by simp [go_sem]) (A1.out.1.c1) (by simp [go_sem]; exact rfl) ?_
      refine pick_op (i := 4) (v := .pointer (some ⟨X2.heap.size, 0, none⟩)) (by kernel_rfl) rfl (by kernel_rfl) (by kernel_rfl) rfl rfl (fun w' hw => by simp [go_sem]) (A1.out.1.c1) (by simp [go_sem]; exact rfl) ?_
      refine pick_op (i := 5) (v := .pointer (some ⟨X2.heap.size, 0, none⟩)) (by kernel_rfl) rfl (by kernel_rfl) (by kernel_rfl) rfl rfl (fun w' hw => by simp [go_sem]) (A1.out.1.c1) (by simp [go_sem]; exact rfl) ?_
      refine pick_op (i := 6) (v := .pointer (some ⟨X2.heap.size, 1, none⟩)) (by kernel_rfl) rfl (by kernel_rfl) (by kernel_rfl) rfl rfl (fun w' hw => by simp [go_sem]) (A1.out.1.c1) (by simp [go_sem]; exact rfl) ?_
      refine pick_op (i := 7) (v := .slice ade es.length cpe) (by kernel_rfl) rfl (by kernel_rfl) (by kernel_rfl) rfl rfl (fun w' hw => by simp [go_sem, hw]) (A1.out.1.c1) (by simp [go_sem]; exact rfl) ?_
      refine pick_op (i := 8) (v := .int .i64 (es.length : Int)) (by kernel_rfl) rfl (by kernel_rfl) (by kernel_rfl) rfl rfl (fun w' hw => by simp [go_sem]) (A1.out.1.c1) (by simp [go_sem]; exact rfl) ?_
      refine pick_op (i := 10) (v := .pointer (some ⟨d.B, 0, none⟩)) (by kernel_rfl) rfl (by kernel_rfl) (by kernel_rfl) rfl rfl (fun w' hw => by simp [go_sem]) (A1.out.1.c1) (by simp [go_sem]; exact rfl) ?_
      refine pick_either2 (i := 2) (j := 9) (by kernel_rfl) ?_ ?_
      · refine ⟨_, 13, #[.pointer (some ⟨d.B, 0, none⟩), .int .i64 5], rfl, rfl, by simp [go_sem], ?_⟩
        refine (A1.out.pick HF.out (by omega) 5 (by decide)).mono ?_
        rintro e X21 ⟨m21, s21, rfl, hm21, hM21, ha, hg⟩
        have A21 := hid ha
        have G21 := hid hg
        clear ha hg
        refine ⟨_, rfl, (A21.out.1.c1), ?_⟩
        refine pick_frame (by simp [go_sem]; exact rfl) ?_
        have hwr21 : IntKind.i64.wrap (1 + m21) = 1 + m21 := by rw [IntKind.wrap_i64]; omega
        refine pick_op (i := 3) (v := .int .i64 (1 + m21)) (by kernel_rfl) rfl (by kernel_rfl) (by kernel_rfl) rfl rfl (fun w' hw => by simp [go_sem, hwr21]) (A21.out.1.c1) (by simp [go_sem]; exact rfl) ?_
        clear hwr21
        refine pick_either (i := 9) (j := 11) (by kernel_rfl) ?_ ?_
        · obtain ⟨cb, hcb, hmk⟩ := made_bools es.length (by have := E1.out.2.2; omega) X21
          have MB : Hid (BoolsD (d.on X2.heap.size) (X21.alloc (.cells cb 4)) (.slice (some ⟨X21.heap.size, 0, none⟩) es.length es.length) (List.replicate es.length false)) := bools_made hcb A21.out.1.ltB A21.out.1.ltG
          have A22 := hid (A21.out.alloc (.cells cb 4))
          have G22 := hid ((Grew.refl (d.on X2.heap.size) X21).alloc (.cells cb 4))
          refine ⟨_, .slice (some ⟨X21.heap.size, 0, none⟩) es.length es.length, X21.alloc (.cells cb 4), rfl, rfl, by simp [go_sem, hmk], (A22.out.1.c1), ?_⟩
          refine pick_frame (by simp [go_sem]; exact rfl) ?_
          clear hmk
          obtain ⟨qb, hqb⟩ : ∃ q, X21.heap.size = q := ⟨_, rfl⟩
          generalize X21.alloc (.cells cb 4) = X22 at *
          rw [hqb] at MB ⊢
          clear hqb hcb
          refine pick_enter (i := 11) (f := 13) (args := #[.pointer (some ⟨d.B, 0, none⟩), .int .i64 6]) rfl (by kernel_rfl) rfl rfl (by simp [go_sem]) ?_
          refine (A22.out.pick HF.out (by omega) 6 (by decide)).mono ?_
          rintro e X23 ⟨m23, s23, rfl, hm23, hM23, ha, hg⟩
          have A23 := hid ha
          have G23 := hid hg
          clear ha hg
          refine ⟨_, rfl, (A23.out.1.c1), ?_⟩
          refine pick_frame (by simp [go_sem]; exact rfl) ?_
          have hwr23 : IntKind.i64.wrap (4 + m23) = 4 + m23 := by rw [IntKind.wrap_i64]; omega
          refine pick_op (i := 12) (v := .int .i64 (4 + m23)) (by kernel_rfl) rfl (by kernel_rfl) (by kernel_rfl) rfl rfl (fun w' hw => by simp [go_sem, hwr23]) (A23.out.1.c1) (by simp [go_sem]; exact rfl) ?_
          clear hwr23
          refine pick_enter (i := 13) (f := 46) (args := #[.pointer (some ⟨X2.heap.size, 0, none⟩), .int .i64 (1 + m21), .slice none 0 0, .slice (some ⟨qb, 0, none⟩) es.length es.length, .int .i64 (4 + m23)]) rfl (by kernel_rfl) rfl rfl (by simp [go_sem]) ?_
          refine (A23.out.nodes (of_all 12 (by omega) (4 + m23) (1 + m21) (.slice none 0 0) _ [] (List.replicate es.length false) _ _ (by omega) (by omega) (A23.out.fit HF.out 10 (by omega)) A23.out.1 ⟨⟨Or.inl ⟨rfl, rfl⟩, fun k hk => by simp at hk⟩, (MB.out.grew G23.out), by simp, (EF.out.grew (G1.out.trans (G21.out.trans (G22.out.trans G23.out)))), by simp, E1.out.2.2⟩)).mono ?_
          rintro e X24 ⟨v24, n24, s24, t24, rfl, hn24, hl24, ha, hg⟩
          have A24 := hid ha
          have G24 := hid hg
          clear ha hg
          have N24 := hid (And.intro hn24 hl24)
          obtain ⟨ad24, cp24, rfl⟩ := hn24.is
          clear hn24 hl24
          refine ⟨_, rfl, (A24.out.1.c1), ?_⟩
          refine pick_frame (by simp [go_sem]; exact rfl) ?_
          refine pick_op (i := 14) (v := .pointer (some ⟨X2.heap.size + 1, 1, none⟩)) (by kernel_rfl) rfl (by kernel_rfl) (by kernel_rfl) rfl rfl (fun w' hw => by simp [go_sem]) (A24.out.1.c1) (by simp [go_sem]; exact rfl) ?_
          have BP2 := hid (((G1.out.trans (G21.out.trans (G22.out.trans (G23.out.trans G24.out)))).block _ HQp.out).trans BP.out)
          have cb0 := cell_of_heap BP2.out 1
          have fb0 := frozen_of_heap BP2.out 1
          have cb1 : X24.cell? ⟨X2.heap.size + 1, 1, none⟩ = some (.slice none 0 0) := cb0
          have CG := A24.out.1.c1
          refine pick_skip (i := 15) (w1 := X24.setCell ⟨X2.heap.size + 1, 1, none⟩ (.slice ad24 n24.length cp24)) rfl rfl (by kernel_rfl) rfl rfl (by simp [go_sem, cb1, fb0]) ?_ ?_
          · exact (World.cell?_setCell_other _ _ _ _ (fun h => by have := congrArg Addr.block h; dsimp only at this; omega)).trans CG
          refine pick_end (by kernel_rfl) ?_
          have FIN := hid (prog_rest HG.out HP.out.1 HP.out.2 R1.out.2 R2.out.2 E1.out.1 E1.out.2.1 HB2.out rfl (by show 30 + m2 ≤ 89; omega) (by omega) A24.out BP2.out N24.out.1 N24.out.2)
          clear cb0 fb0 cb1 CG
          generalize X24.setCell ⟨X2.heap.size + 1, 1, none⟩ (.slice ad24 n24.length cp24) = Z at *
          have cz0 := cell_of_heap FIN.out.box 0
          have cz1 := cell_of_heap FIN.out.box 1
          have cz0' : Z.cell? ⟨X2.heap.size + 1, 0, none⟩ = some (.slice ade es.length cpe) := cz0
          have cz1' : Z.cell? ⟨X2.heap.size + 1, 1, none⟩ = some (.slice ad24 n24.length cp24) := cz1
          clear cz0 cz1
          obtain ⟨R, hR, -⟩ := answers n24
          have hcap : es.length ≤ cpe := by rcases FIN.out.effs.1 with ⟨h, h0⟩ | ⟨_, _, _, h, h0, -⟩; have := E1.out.2.1; omega; cases h; exact h0
          obtain ⟨be, ce, bt, ct, heE, heT, hbe, hbt, hEA, hNA, hl5⟩ := FIN.out.lies
          simp only [Value.slice.injEq] at heE heT
          obtain ⟨rfl, -, rfl⟩ := heE
          obtain ⟨rfl, -, rfl⟩ := heT
          have HPK := hid (specProgC_calls be bt cpe cp24 es n24 R Z hcap hbe hbt hEA hNA (by have := E1.out.2.2; omega) hl5 (fun w' hb hn => specTree_calls bt 0 cp24 n24 w' R hl5 hb hn hR))
          have HR := hid hR
          clear hbe hbt hEA hNA hl5 hR
          go_wp2_with fail
          refine HPK.out.mono ?_
          rintro e Z2 ⟨rfl, hbz⟩
          have FZ := hid (FIN.out.below hbz)
          clear hbz HPK
          cases hpz : progZ es n24 R with
          | false =>
            go_wp2_with fail
            try rw [wrap_succ (by omega)]
            exact ⟨⟨i' + 1, _, rfl, by omega, ⟨FZ.out.rd, FZ.out.gr, FZ.out.res, FZ.out.low⟩, FZ.out.cost⟩, hstep⟩
          | true =>
            have HT := hid (tr_of_ans (ns := n24) (by have h := prog_true hpz; have := HR.out; rwa [h] at this))
            have rz0 := cell_of_heap FZ.out.res 0
            have rz1 := cell_of_heap FZ.out.res 1
            have rz0' : Z2.cell? ⟨rb, 0, none⟩ = some (.slice none 0 0) := rz0
            have rz1' : Z2.cell? ⟨rb, 1, none⟩ = some (.slice none 0 0) := rz1
            have fz0 := frozen_of_heap FZ.out.res 0
            have fz1 := frozen_of_heap FZ.out.res 1
            have qz0 := cell_of_heap FZ.out.box 0
            have qz1 := cell_of_heap FZ.out.box 1
            have qz0' : Z2.cell? ⟨X2.heap.size + 1, 0, none⟩ = some (.slice (some ⟨be, 0, none⟩) es.length cpe) := qz0
            have qz1' : Z2.cell? ⟨X2.heap.size + 1, 1, none⟩ = some (.slice (some ⟨bt, 0, none⟩) n24.length cp24) := qz1
            clear rz0 rz1 qz0 qz1
            go_wp2_with fail
            have HFi := hid (FZ.out.stored (.slice (some ⟨be, 0, none⟩) es.length cpe) (.slice (some ⟨bt, 0, none⟩) n24.length cp24))
            refine bodyPost_ret (v := .agg #[.slice (some ⟨be, 0, none⟩) es.length cpe, .slice (some ⟨bt, 0, none⟩) n24.length cp24]) ?_ rfl ?_
            · simp [results, Try.results29, go_sem, rz0', rz1']
            · exact ⟨_, _, _, _, es, n24, _, rfl, HFi.out.1, E1.out.2.2, HFi.out.2.1, HT.out, HFi.out.2.2.1, by have := FZ.out.cost; have := HPl.out; omega, HFi.out.2.2.2⟩
        · refine ⟨_, 13, #[.pointer (some ⟨d.B, 0, none⟩), .int .i64 6], rfl, rfl, by simp [go_sem], ?_⟩
          refine (A21.out.pick HF.out (by omega) 6 (by decide)).mono ?_
          rintro e X22 ⟨m22, s22, rfl, hm22, hM22, ha, hg⟩
          have A22 := hid ha
          have G22 := hid hg
          clear ha hg
          refine ⟨_, rfl, (A22.out.1.c1), ?_⟩
          refine pick_frame (by simp [go_sem]; exact rfl) ?_
          have hwr22 : IntKind.i64.wrap (4 + m22) = 4 + m22 := by rw [IntKind.wrap_i64]; omega
          refine pick_op (i := 12) (v := .int .i64 (4 + m22)) (by kernel_rfl) rfl (by kernel_rfl) (by kernel_rfl) rfl rfl (fun w' hw => by simp [go_sem, hwr22]) (A22.out.1.c1) (by simp [go_sem]; exact rfl) ?_
          clear hwr22
          obtain ⟨cb, hcb, hmk⟩ := made_bools es.length (by have := E1.out.2.2; omega) X22
          have MB : Hid (BoolsD (d.on X2.heap.size) (X22.alloc (.cells cb 4)) (.slice (some ⟨X22.heap.size, 0, none⟩) es.length es.length) (List.replicate es.length false)) := bools_made hcb A22.out.1.ltB A22.out.1.ltG
          have A23 := hid (A22.out.alloc (.cells cb 4))
          have G23 := hid ((Grew.refl (d.on X2.heap.size) X22).alloc (.cells cb 4))
          refine pick_make (i := 9) (v := .slice (some ⟨X22.heap.size, 0, none⟩) es.length es.length) (w1 := X22.alloc (.cells cb 4)) rfl (by kernel_rfl) rfl rfl (by simp [go_sem, hmk]) (A23.out.1.c1) (by simp [go_sem]; exact rfl) ?_
          clear hmk
          obtain ⟨qb, hqb⟩ : ∃ q, X22.heap.size = q := ⟨_, rfl⟩
          generalize X22.alloc (.cells cb 4) = X23 at *
          rw [hqb] at MB ⊢
          clear hqb hcb
          refine pick_enter (i := 13) (f := 46) (args := #[.pointer (some ⟨X2.heap.size, 0, none⟩), .int .i64 (1 + m21), .slice none 0 0, .slice (some ⟨qb, 0, none⟩) es.length es.length, .int .i64 (4 + m22)]) rfl (by kernel_rfl) rfl rfl (by simp [go_sem]) ?_
          refine (A23.out.nodes (of_all 12 (by omega) (4 + m22) (1 + m21) (.slice none 0 0) _ [] (List.replicate es.length false) _ _ (by omega) (by omega) (A23.out.fit HF.out 10 (by omega)) A23.out.1 ⟨⟨Or.inl ⟨rfl, rfl⟩, fun k hk => by simp at hk⟩, MB.out, by simp, (EF.out.grew (G1.out.trans (G21.out.trans (G22.out.trans G23.out)))), by simp, E1.out.2.2⟩)).mono ?_
          rintro e X24 ⟨v24, n24, s24, t24, rfl, hn24, hl24, ha, hg⟩
          have A24 := hid ha
          have G24 := hid hg
          clear ha hg
          have N24 := hid (And.intro hn24 hl24)
          obtain ⟨ad24, cp24, rfl⟩ := hn24.is
          clear hn24 hl24
          refine ⟨_, rfl, (A24.out.1.c1), ?_⟩
          refine pick_frame (by simp [go_sem]; exact rfl) ?_
          refine pick_op (i := 14) (v := .pointer (some ⟨X2.heap.size + 1, 1, none⟩)) (by kernel_rfl) rfl (by kernel_rfl) (by kernel_rfl) rfl rfl (fun w' hw => by simp [go_sem]) (A24.out.1.c1) (by simp [go_sem]; exact rfl) ?_
          have BP2 := hid (((G1.out.trans (G21.out.trans (G22.out.trans (G23.out.trans G24.out)))).block _ HQp.out).trans BP.out)
          have cb0 := cell_of_heap BP2.out 1
          have fb0 := frozen_of_heap BP2.out 1
          have cb1 : X24.cell? ⟨X2.heap.size + 1, 1, none⟩ = some (.slice none 0 0) := cb0
          have CG := A24.out.1.c1
          refine pick_skip (i := 15) (w1 := X24.setCell ⟨X2.heap.size + 1, 1, none⟩ (.slice ad24 n24.length cp24)) rfl rfl (by kernel_rfl) rfl rfl (by simp [go_sem, cb1, fb0]) ?_ ?_
          · exact (World.cell?_setCell_other _ _ _ _ (fun h => by have := congrArg Addr.block h; dsimp only at this; omega)).trans CG
          refine pick_end (by kernel_rfl) ?_
          have FIN := hid (prog_rest HG.out HP.out.1 HP.out.2 R1.out.2 R2.out.2 E1.out.1 E1.out.2.1 HB2.out rfl (by show 30 + m2 ≤ 89; omega) (by omega) A24.out BP2.out N24.out.1 N24.out.2)
          clear cb0 fb0 cb1 CG
          generalize X24.setCell ⟨X2.heap.size + 1, 1, none⟩ (.slice ad24 n24.length cp24) = Z at *
          have cz0 := cell_of_heap FIN.out.box 0
          have cz1 := cell_of_heap FIN.out.box 1
          have cz0' : Z.cell? ⟨X2.heap.size + 1, 0, none⟩ = some (.slice ade es.length cpe) := cz0
          have cz1' : Z.cell? ⟨X2.heap.size + 1, 1, none⟩ = some (.slice ad24 n24.length cp24) := cz1
          clear cz0 cz1
          obtain ⟨R, hR, -⟩ := answers n24
          have hcap : es.length ≤ cpe := by rcases FIN.out.effs.1 with ⟨h, h0⟩ | ⟨_, _, _, h, h0, -⟩; have := E1.out.2.1; omega; cases h; exact h0
          obtain ⟨be, ce, bt, ct, heE, heT, hbe, hbt, hEA, hNA, hl5⟩ := FIN.out.lies
          simp only [Value.slice.injEq] at heE heT
          obtain ⟨rfl, -, rfl⟩ := heE
          obtain ⟨rfl, -, rfl⟩ := heT
          have HPK := hid (specProgC_calls be bt cpe cp24 es n24 R Z hcap hbe hbt hEA hNA (by have := E1.out.2.2; omega) hl5 (fun w' hb hn => specTree_calls bt 0 cp24 n24 w' R hl5 hb hn hR))
          have HR := hid hR
          clear hbe hbt hEA hNA hl5 hR
          go_wp2_with fail
          refine HPK.out.mono ?_
          rintro e Z2 ⟨rfl, hbz⟩
          have FZ := hid (FIN.out.below hbz)
          clear hbz HPK
          cases hpz : progZ es n24 R with
          | false =>
            go_wp2_with fail
            try rw [wrap_succ (by omega)]
            exact ⟨⟨i' + 1, _, rfl, by omega, ⟨FZ.out.rd, FZ.out.gr, FZ.out.res, FZ.out.low⟩, FZ.out.cost⟩, hstep⟩
          | true =>
            have HT := hid (tr_of_ans (ns := n24) (by have h := prog_true hpz; have := HR.out; rwa [h] at this))
            have rz0 := cell_of_heap FZ.out.res 0
            have rz1 := cell_of_heap FZ.out.res 1
            have rz0' : Z2.cell? ⟨rb, 0, none⟩ = some (.slice none 0 0) := rz0
            have rz1' : Z2.cell? ⟨rb, 1, none⟩ = some (.slice none 0 0) := rz1
            have fz0 := frozen_of_heap FZ.out.res 0
            have fz1 := frozen_of_heap FZ.out.res 1
            have qz0 := cell_of_heap FZ.out.box 0
            have qz1 := cell_of_heap FZ.out.box 1
            have qz0' : Z2.cell? ⟨X2.heap.size + 1, 0, none⟩ = some (.slice (some ⟨be, 0, none⟩) es.length cpe) := qz0
            have qz1' : Z2.cell? ⟨X2.heap.size + 1, 1, none⟩ = some (.slice (some ⟨bt, 0, none⟩) n24.length cp24) := qz1
            clear rz0 rz1 qz0 qz1
            go_wp2_with fail
            have HFi := hid (FZ.out.stored (.slice (some ⟨be, 0, none⟩) es.length cpe) (.slice (some ⟨bt, 0, none⟩) n24.length cp24))
            refine bodyPost_ret (v := .agg #[.slice (some ⟨be, 0, none⟩) es.length cpe, .slice (some ⟨bt, 0, none⟩) n24.length cp24]) ?_ rfl ?_
            · simp [results, Try.results29, go_sem, rz0', rz1']
            · exact ⟨_, _, _, _, es, n24, _, rfl, HFi.out.1, E1.out.2.2, HFi.out.2.1, HT.out, HFi.out.2.2.1, by have := FZ.out.cost; have := HPl.out; omega, HFi.out.2.2.2⟩
      · obtain ⟨cb, hcb, hmk⟩ := made_bools es.length (by have := E1.out.2.2; omega) X11
        have MB : Hid (BoolsD (d.on X2.heap.size) (X11.alloc (.cells cb 4)) (.slice (some ⟨X11.heap.size, 0, none⟩) es.length es.length) (List.replicate es.length false)) := bools_made hcb A1.out.1.ltB A1.out.1.ltG
        have A21 := hid (A1.out.alloc (.cells cb 4))
        have G21 := hid ((Grew.refl (d.on X2.heap.size) X11).alloc (.cells cb 4))
        refine ⟨_, .slice (some ⟨X11.heap.size, 0, none⟩) es.length es.length, X11.alloc (.cells cb 4), rfl, rfl, by simp [go_sem, hmk], (A21.out.1.c1), ?_⟩
        refine pick_frame (by simp [go_sem]; exact rfl) ?_
        clear hmk
        obtain ⟨qb, hqb⟩ : ∃ q, X11.heap.size = q := ⟨_, rfl⟩
        generalize X11.alloc (.cells cb 4) = X21 at *
        rw [hqb] at MB ⊢
        clear hqb hcb
        refine pick_enter (i := 2) (f := 13) (args := #[.pointer (some ⟨d.B, 0, none⟩), .int .i64 5]) rfl (by kernel_rfl) rfl rfl (by simp [go_sem]) ?_
        refine (A21.out.pick HF.out (by omega) 5 (by decide)).mono ?_
        rintro e X22 ⟨m22, s22, rfl, hm22, hM22, ha, hg⟩
        have A22 := hid ha
        have G22 := hid hg
        clear ha hg
        refine ⟨_, rfl, (A22.out.1.c1), ?_⟩
        refine pick_frame (by simp [go_sem]; exact rfl) ?_
        have hwr22 : IntKind.i64.wrap (1 + m22) = 1 + m22 := by rw [IntKind.wrap_i64]; omega
        refine pick_op (i := 3) (v := .int .i64 (1 + m22)) (by kernel_rfl) rfl (by kernel_rfl) (by kernel_rfl) rfl rfl (fun w' hw => by simp [go_sem, hwr22]) (A22.out.1.c1) (by simp [go_sem]; exact rfl) ?_
        clear hwr22
        refine pick_enter (i := 11) (f := 13) (args := #[.pointer (some ⟨d.B, 0, none⟩), .int .i64 6]) rfl (by kernel_rfl) rfl rfl (by simp [go_sem]) ?_
        refine (A22.out.pick HF.out (by omega) 6 (by decide)).mono ?_
        rintro e X23 ⟨m23, s23, rfl, hm23, hM23, ha, hg⟩
        have A23 := hid ha
        have G23 := hid hg
        clear ha hg
        refine ⟨_, rfl, (A23.out.1.c1), ?_⟩
        refine pick_frame (by simp [go_sem]; exact rfl) ?_
        have hwr23 : IntKind.i64.wrap (4 + m23) = 4 + m23 := by rw [IntKind.wrap_i64]; omega
        refine pick_op (i := 12) (v := .int .i64 (4 + m23)) (by kernel_rfl) rfl (by kernel_rfl) (by kernel_rfl) rfl rfl (fun w' hw => by simp [go_sem, hwr23]) (A23.out.1.c1) (by simp [go_sem]; exact rfl) ?_
        clear hwr23
        refine pick_enter (i := 13) (f := 46) (args := #[.pointer (some ⟨X2.heap.size, 0, none⟩), .int .i64 (1 + m22), .slice none 0 0, .slice (some ⟨qb, 0, none⟩) es.length es.length, .int .i64 (4 + m23)]) rfl (by kernel_rfl) rfl rfl (by simp [go_sem]) ?_
        refine (A23.out.nodes (of_all 12 (by omega) (4 + m23) (1 + m22) (.slice none 0 0) _ [] (List.replicate es.length false) _ _ (by omega) (by omega) (A23.out.fit HF.out 10 (by omega)) A23.out.1 ⟨⟨Or.inl ⟨rfl, rfl⟩, fun k hk => by simp at hk⟩, (MB.out.grew (G22.out.trans G23.out)), by simp, (EF.out.grew (G1.out.trans (G21.out.trans (G22.out.trans G23.out)))), by simp, E1.out.2.2⟩)).mono ?_
        rintro e X24 ⟨v24, n24, s24, t24, rfl, hn24, hl24, ha, hg⟩
        have A24 := hid ha
        have G24 := hid hg
        clear ha hg
        have N24 := hid (And.intro hn24 hl24)
        obtain ⟨ad24, cp24, rfl⟩ := hn24.is
        clear hn24 hl24
        refine ⟨_, rfl, (A24.out.1.c1), ?_⟩
        refine pick_frame (by simp [go_sem]; exact rfl) ?_
        refine pick_op (i := 14) (v := .pointer (some ⟨X2.heap.size + 1, 1, none⟩)) (by kernel_rfl) rfl (by kernel_rfl) (by kernel_rfl) rfl rfl (fun w' hw => by simp [go_sem]) (A24.out.1.c1) (by simp [go_sem]; exact rfl) ?_
        have BP2 := hid (((G1.out.trans (G21.out.trans (G22.out.trans (G23.out.trans G24.out)))).block _ HQp.out).trans BP.out)
        have cb0 := cell_of_heap BP2.out 1
        have fb0 := frozen_of_heap BP2.out 1
        have cb1 : X24.cell? ⟨X2.heap.size + 1, 1, none⟩ = some (.slice none 0 0) := cb0
        have CG := A24.out.1.c1
        refine pick_skip (i := 15) (w1 := X24.setCell ⟨X2.heap.size + 1, 1, none⟩ (.slice ad24 n24.length cp24)) rfl rfl (by kernel_rfl) rfl rfl (by simp [go_sem, cb1, fb0]) ?_ ?_
        · exact (World.cell?_setCell_other _ _ _ _ (fun h => by have := congrArg Addr.block h; dsimp only at this; omega)).trans CG
        refine pick_end (by kernel_rfl) ?_
        have FIN := hid (prog_rest HG.out HP.out.1 HP.out.2 R1.out.2 R2.out.2 E1.out.1 E1.out.2.1 HB2.out rfl (by show 30 + m2 ≤ 89; omega) (by omega) A24.out BP2.out N24.out.1 N24.out.2)
        clear cb0 fb0 cb1 CG
        generalize X24.setCell ⟨X2.heap.size + 1, 1, none⟩ (.slice ad24 n24.length cp24) = Z at *
        have cz0 := cell_of_heap FIN.out.box 0
        have cz1 := cell_of_heap FIN.out.box 1
        have cz0' : Z.cell? ⟨X2.heap.size + 1, 0, none⟩ = some (.slice ade es.length cpe) := cz0
        have cz1' : Z.cell? ⟨X2.heap.size + 1, 1, none⟩ = some (.slice ad24 n24.length cp24) := cz1
        clear cz0 cz1
        obtain ⟨R, hR, -⟩ := answers n24
        have hcap : es.length ≤ cpe := by rcases FIN.out.effs.1 with ⟨h, h0⟩ | ⟨_, _, _, h, h0, -⟩; have := E1.out.2.1; omega; cases h; exact h0
        obtain ⟨be, ce, bt, ct, heE, heT, hbe, hbt, hEA, hNA, hl5⟩ := FIN.out.lies
        simp only [Value.slice.injEq] at heE heT
        obtain ⟨rfl, -, rfl⟩ := heE
        obtain ⟨rfl, -, rfl⟩ := heT
        have HPK := hid (specProgC_calls be bt cpe cp24 es n24 R Z hcap hbe hbt hEA hNA (by have := E1.out.2.2; omega) hl5 (fun w' hb hn => specTree_calls bt 0 cp24 n24 w' R hl5 hb hn hR))
        have HR := hid hR
        clear hbe hbt hEA hNA hl5 hR
        go_wp2_with fail
        refine HPK.out.mono ?_
        rintro e Z2 ⟨rfl, hbz⟩
        have FZ := hid (FIN.out.below hbz)
        clear hbz HPK
        cases hpz : progZ es n24 R with
        | false =>
          go_wp2_with fail
          try rw [wrap_succ (by omega)]
          exact ⟨⟨i' + 1, _, rfl, by omega, ⟨FZ.out.rd, FZ.out.gr, FZ.out.res, FZ.out.low⟩, FZ.out.cost⟩, hstep⟩
        | true =>
          have HT := hid (tr_of_ans (ns := n24) (by have h := prog_true hpz; have := HR.out; rwa [h] at this))
          have rz0 := cell_of_heap FZ.out.res 0
          have rz1 := cell_of_heap FZ.out.res 1
          have rz0' : Z2.cell? ⟨rb, 0, none⟩ = some (.slice none 0 0) := rz0
          have rz1' : Z2.cell? ⟨rb, 1, none⟩ = some (.slice none 0 0) := rz1
          have fz0 := frozen_of_heap FZ.out.res 0
          have fz1 := frozen_of_heap FZ.out.res 1
          have qz0 := cell_of_heap FZ.out.box 0
          have qz1 := cell_of_heap FZ.out.box 1
          have qz0' : Z2.cell? ⟨X2.heap.size + 1, 0, none⟩ = some (.slice (some ⟨be, 0, none⟩) es.length cpe) := qz0
          have qz1' : Z2.cell? ⟨X2.heap.size + 1, 1, none⟩ = some (.slice (some ⟨bt, 0, none⟩) n24.length cp24) := qz1
          clear rz0 rz1 qz0 qz1
          go_wp2_with fail
          have HFi := hid (FZ.out.stored (.slice (some ⟨be, 0, none⟩) es.length cpe) (.slice (some ⟨bt, 0, none⟩) n24.length cp24))
          refine bodyPost_ret (v := .agg #[.slice (some ⟨be, 0, none⟩) es.length cpe, .slice (some ⟨bt, 0, none⟩) n24.length cp24]) ?_ rfl ?_
          · simp [results, Try.results29, go_sem, rz0', rz1']
          · exact ⟨_, _, _, _, es, n24, _, rfl, HFi.out.1, E1.out.2.2, HFi.out.2.1, HT.out, HFi.out.2.2.1, by have := FZ.out.cost; have := HPl.out; omega, HFi.out.2.2.2⟩
    · have hBY := heap_lt HP.out.1.rd.blk
      go_wp2_with fail
      refine (node_calls (d := d) 1 7 Y hBY (by rw [HG.out]; exact hBY)).mono ?_
      rintro e Z ⟨v, rfl, hn, hb⟩
      obtain ⟨adv, cpv, rfl⟩ := hn.is
      have HFb := hid (fall_back HP.out.1 hb hn (.slice none 0 0) (.slice adv 1 cpv))
      have hres := (hb.block _ (heap_lt HP.out.1.res)).trans HP.out.1.res
      have rz0 : Z.cell? ⟨rb, 0, none⟩ = some (.slice none 0 0) := cell_of_heap hres 0
      have rz1 : Z.cell? ⟨rb, 1, none⟩ = some (.slice none 0 0) := cell_of_heap hres 1
      have fz0 := frozen_of_heap hres 0
      have fz1 := frozen_of_heap hres 1
      clear hn hb hres
      go_wp2_with fail
      refine bodyPost_ret (v := .agg #[.slice none 0 0, .slice adv 1 cpv]) ?_ rfl ?_
      · simp [results, Try.results29, go_sem, rz0, rz1]
      · exact ⟨none, 0, 0, _, [], _, p', rfl, ⟨Or.inl ⟨rfl, rfl⟩, fun e he => by simp at he⟩, by simp, HFb.out.1, ⟨_, .none, rfl, rfl, trivial, by simp⟩, HFb.out.2.1, by have := HP.out.2; omega, HFb.out.2.2⟩
end Go.Proofs.Ytnhofdngmbnlkaa

/- A program is spoilt: what lies there meanwhile. -/
namespace Go.Proofs.Ytnhofdngmbnlkaa
open Go.RowKit Go.Deep

/-- Where the spoiling stands: the program in its box, the box of what is told, a copy of the tree. -/
structure Sp (d : Dr) (W X : World) (q : Nat) (ve v1 : Value) (bp rx : Nat) (vt : Value) (ns : List Nd) : Prop where
  rd : Rdr d X q
  gr : Grew d W X
  box : X.heap[bp]? = some (.cells #[ve, v1] 45)
  res : X.heap[rx]? = some (.cells #[.slice none 0 0, .slice none 0 0] 45)
  lo : d.B < W.heap.size ∧ W.heap.size ≤ bp ∧ W.heap.size ≤ rx ∧ bp ≠ rx
  row : X.ownsRow W.heap.size 65 6 vt ns.length (rowZ Nd.cell 6 ns)
  sml : ∀ n ∈ ns, Brief n.a ∧ Brief n.b ∧ Brief n.c
  any : 1 ≤ ns.length ∧ ns.length ≤ 300

theorem Sp.pick {d : Dr} {W X X' : World} {q q' : Nat} {ve v1 : Value} {bp rx : Nat} {vt : Value} {ns : List Nd} (h : Sp d W X q ve v1 bp rx vt ns) (hr : Rdr d X' q') (hg : Grew d X X') (ho : ∀ k, k ≠ d.B → X'.heap[k]? = X.heap[k]?) : Sp d W X' q' ve v1 bp rx vt ns :=
  ⟨hr, h.gr.trans hg, (ho bp (by have := h.lo; omega)).trans h.box, (ho rx (by have := h.lo; omega)).trans h.res, h.lo, g_same h.row (fun g hk => ho g (by have := (h.row.lt g hk).1; have := h.lo; omega)), h.sml, h.any⟩

theorem Sp.below {d : Dr} {W X X' : World} {q : Nat} {ve v1 : Value} {bp rx : Nat} {vt : Value} {ns : List Nd} (h : Sp d W X q ve v1 bp rx vt ns) (hb : Below X.heap.size X X') : Sp d W X' q ve v1 bp rx vt ns :=
  ⟨h.rd.below hb, h.gr.trans (Grew.of_below hb), (hb.block _ (heap_lt h.box)).trans h.box, (hb.block _ (heap_lt h.res)).trans h.res, h.lo, g_same h.row (fun g hk => hb.block g (h.row.lt g hk).2), h.sml, h.any⟩

/-- A block of one's own is written, neither the boxes nor the copy. -/
theorem Sp.other {d : Dr} {W X X' : World} {q : Nat} {ve v1 : Value} {bp rx nb : Nat} {vt : Value} {ns : List Nd} (h : Sp d W X q ve v1 bp rx vt ns) (ho : ∀ k, k ≠ nb → X'.heap[k]? = X.heap[k]?) (hs : X'.heap.size = X.heap.size) (hos : X'.os = X.os ∧ X'.tape = X.tape ∧ X'.output = X.output) (h1 : W.heap.size ≤ nb) (h2 : nb ≠ bp) (h3 : nb ≠ rx) (h4 : vt.ownBlock ≠ some nb) (hby : ∀ b off, d.a0 = some ⟨b, off, none⟩ → 0 < d.len → b ≠ nb) : Sp d W X' q ve v1 bp rx vt ns := by
  have hlo := h.lo
  refine ⟨⟨(ho _ (by omega)).trans h.rd.blk, fun hl => ?_⟩, ⟨hos.1.trans h.gr.os, hos.2.1.trans h.gr.tape, hos.2.2.trans h.gr.output, by rw [hs]; exact h.gr.size, fun k hk => (ho k (by have := hk.1; omega)).trans (h.gr.block k hk)⟩, (ho bp (Ne.symm h2)).trans h.box, (ho rx (Ne.symm h3)).trans h.res, hlo, g_same h.row (fun g hk => ho g (fun e => h4 (by rw [← e]; exact hk))), h.sml, h.any⟩
  obtain ⟨b, off, ea, hq, hz⟩ := h.rd.bytes hl
  refine ⟨b, off, ea, ⟨by rw [hs]; exact hq.1, hq.2⟩, fun i hi => ?_⟩
  obtain ⟨z, hz, h5⟩ := hz i hi
  exact ⟨z, (World.cell?_of_block (a := ⟨b, off + i, none⟩) (ho b (hby b off ea hl))).trans hz, h5⟩

def SpoilPost (d : Dr) (W : World) (p : Nat) (e : Ending) (W' : World) : Prop :=
  ∃ ad n cp v ns p', e = .returned (.agg #[.slice ad n cp, v]) ∧ NodesD d W' v ns ∧ ns.length ≤ 1000 ∧ Rdr d W' p' ∧ p' ≤ p + 10 ∧ Grew d W W'

/-- Where the bytes lie they lay at the beginning. -/
theorem bytes_low {d : Dr} {W : World} {p : Nat} (h : Rdr d W p) : ∀ b off, d.a0 = some ⟨b, off, none⟩ → 0 < d.len → b < W.heap.size := fun b off ea hl => by
  obtain ⟨b', off', ea', hq, -⟩ := h.bytes hl
  rw [ea] at ea'
  cases ea'
  exact hq.1

/-- The boxes alone. -/
structure Bx (d : Dr) (W X : World) (q : Nat) (ve v1 : Value) (bp rx : Nat) : Prop where
  rd : Rdr d X q
  gr : Grew d W X
  box : X.heap[bp]? = some (.cells #[ve, v1] 45)
  res : X.heap[rx]? = some (.cells #[.slice none 0 0, .slice none 0 0] 45)
  lo : d.B < W.heap.size ∧ W.heap.size ≤ bp ∧ W.heap.size ≤ rx ∧ bp ≠ rx

theorem Sp.bx {d : Dr} {W X : World} {q : Nat} {ve v1 : Value} {bp rx : Nat} {vt : Value} {ns : List Nd} (h : Sp d W X q ve v1 bp rx vt ns) : Bx d W X q ve v1 bp rx := ⟨h.rd, h.gr, h.box, h.res, h.lo⟩

theorem Bx.other {d : Dr} {W X X' : World} {q p0 : Nat} {ve v1 : Value} {bp rx nb : Nat} (h : Bx d W X q ve v1 bp rx) (h0 : Rdr d W p0) (ho : ∀ k, k ≠ nb → X'.heap[k]? = X.heap[k]?) (hs : X'.heap.size = X.heap.size) (hos : X'.os = X.os ∧ X'.tape = X.tape ∧ X'.output = X.output) (h1 : W.heap.size ≤ nb) (h2 : nb ≠ bp) (h3 : nb ≠ rx) : Bx d W X' q ve v1 bp rx := by
  have hlo := h.lo
  refine ⟨⟨(ho _ (by omega)).trans h.rd.blk, fun hl => ?_⟩, ⟨hos.1.trans h.gr.os, hos.2.1.trans h.gr.tape, hos.2.2.trans h.gr.output, by rw [hs]; exact h.gr.size, fun k hk => (ho k (by have := hk.1; omega)).trans (h.gr.block k hk)⟩, (ho bp (Ne.symm h2)).trans h.box, (ho rx (Ne.symm h3)).trans h.res, hlo⟩
  obtain ⟨b, off, ea, hq, hz⟩ := h.rd.bytes hl
  have hbl := bytes_low h0 b off ea hl
  refine ⟨b, off, ea, ⟨by rw [hs]; exact hq.1, hq.2⟩, fun i hi => ?_⟩
  obtain ⟨z, hz, h5⟩ := hz i hi
  exact ⟨z, (World.cell?_of_block (a := ⟨b, off + i, none⟩) (ho b (by omega))).trans hz, h5⟩

theorem Sp.set {d : Dr} {W X : World} {q p0 : Nat} {ve v1 : Value} {bp rx g L cap : Nat} {ns : List Nd} (h : Sp d W X q ve v1 bp rx (.slice (some ⟨g, 0, none⟩) L cap) ns) (h0 : Rdr d W p0) (nb j : Nat) (u : Value) (h1 : W.heap.size ≤ nb) (h2 : nb ≠ bp) (h3 : nb ≠ rx) (h4 : nb ≠ g) : Sp d W (X.setCell ⟨nb, j, none⟩ u) q ve v1 bp rx (.slice (some ⟨g, 0, none⟩) L cap) ns :=
  h.other (nb := nb) (fun k hk => Below.heap_setCell X ⟨nb, j, none⟩ u k hk) (by simp [World.setCell]) ⟨rfl, rfl, rfl⟩ h1 h2 h3 (by simp [Value.ownBlock]; exact Ne.symm h4) (fun b off ea hl e => by have := bytes_low h0 b off ea hl; omega)

/-- The boxes are written last: nodes that lie elsewhere stay. -/
theorem last_store {d : Dr} {W X : World} {q p0 : Nat} {ve v1 : Value} {bp rx : Nat} {ms : List Nd} {v : Value} (h : Bx d W X q ve v1 bp rx) (h0 : Rdr d W p0) (hve : ∃ a n c, ve = .slice a n c) (hn : NodesD d X v ms) (j : Nat) (u u0 u1 : Value) :
    NodesD d (((X.setCell ⟨bp, j, none⟩ u).setCell ⟨rx, 0, none⟩ u0).setCell ⟨rx, 1, none⟩ u1) v ms ∧ Rdr d (((X.setCell ⟨bp, j, none⟩ u).setCell ⟨rx, 0, none⟩ u0).setCell ⟨rx, 1, none⟩ u1) q ∧ Grew d W (((X.setCell ⟨bp, j, none⟩ u).setCell ⟨rx, 0, none⟩ u0).setCell ⟨rx, 1, none⟩ u1) := by
  have ho : ∀ k, k ≠ bp → k ≠ rx → (((X.setCell ⟨bp, j, none⟩ u).setCell ⟨rx, 0, none⟩ u0).setCell ⟨rx, 1, none⟩ u1).heap[k]? = X.heap[k]? := fun k h1 h2 => ((Below.heap_setCell _ ⟨rx, 1, none⟩ _ k h2).trans (Below.heap_setCell _ ⟨rx, 0, none⟩ _ k h2)).trans (Below.heap_setCell X ⟨bp, j, none⟩ _ k h1)
  have hs : (((X.setCell ⟨bp, j, none⟩ u).setCell ⟨rx, 0, none⟩ u0).setCell ⟨rx, 1, none⟩ u1).heap.size = X.heap.size := by simp [World.setCell]
  have hlo := h.lo
  obtain ⟨a, n, c, rfl⟩ := hve
  refine ⟨⟨?_, hn.2⟩, ⟨(ho _ (by omega) (by omega)).trans h.rd.blk, fun hl => ?_⟩, ⟨h.gr.os, h.gr.tape, h.gr.output, by rw [hs]; exact h.gr.size, fun k hk => (ho k (by have := hk.1; omega) (by have := hk.1; omega)).trans (h.gr.block k hk)⟩⟩
  · rcases hn.1 with hx | ⟨b, off, cap, h1, h2, rfl, h4, h5⟩
    · exact Or.inl hx
    · refine Or.inr ⟨b, 0, cap, h1, h2, rfl, ⟨by rw [hs]; exact h4.1, h4.2⟩, fun i hi => ?_⟩
      have e1 := h5 0 (by omega)
      have hb1 : b ≠ bp := fun e => by
        subst e
        rw [Nat.zero_add, cell_of_heap h.box 0] at e1
        simp at e1
        cases e1
      have hb2 : b ≠ rx := fun e => by
        subst e
        rw [Nat.zero_add, cell_of_heap h.res 0] at e1
        simp at e1
        cases e1
      exact (World.cell?_of_block (a := ⟨b, 0 + i, none⟩) (ho b hb1 hb2)).trans (h5 i hi)
  · obtain ⟨b, off, ea, hq, hz⟩ := h.rd.bytes hl
    have hbl := bytes_low h0 b off ea hl
    refine ⟨b, off, ea, ⟨by rw [hs]; exact hq.1, hq.2⟩, fun i hi => ?_⟩
    obtain ⟨z, hz, h5⟩ := hz i hi
    exact ⟨z, (World.cell?_of_block (a := ⟨b, off + i, none⟩) (ho b (by omega) (by omega))).trans hz, h5⟩

/-- A node of the copy is written anew. -/
def six (X : World) (g k : Nat) (m : Nd) : World := (((((X.setCell ⟨g, k * 6, none⟩ (.int .i64 m.kind)).setCell ⟨g, k * 6 + 1, none⟩ (.int .i64 m.num)).setCell ⟨g, k * 6 + 2, none⟩ (.string m.a)).setCell ⟨g, k * 6 + 3, none⟩ (.string m.b)).setCell ⟨g, k * 6 + 4, none⟩ (.string m.c)).setCell ⟨g, k * 6 + 5, none⟩ (.int .i64 m.kids)

theorem six_other (X : World) (g k : Nat) (m : Nd) : (∀ j, j ≠ g → (six X g k m).heap[j]? = X.heap[j]?) ∧ (six X g k m).heap.size = X.heap.size := by
  refine ⟨fun j hj => ?_, by simp [six, World.setCell]⟩
  unfold six
  rw [Below.heap_setCell _ ⟨g, k * 6 + 5, none⟩ _ j hj, Below.heap_setCell _ ⟨g, k * 6 + 4, none⟩ _ j hj, Below.heap_setCell _ ⟨g, k * 6 + 3, none⟩ _ j hj, Below.heap_setCell _ ⟨g, k * 6 + 2, none⟩ _ j hj, Below.heap_setCell _ ⟨g, k * 6 + 1, none⟩ _ j hj, Below.heap_setCell _ ⟨g, k * 6, none⟩ _ j hj]

theorem six_os (X : World) (g k : Nat) (m : Nd) : (six X g k m).os = X.os ∧ (six X g k m).tape = X.tape ∧ (six X g k m).output = X.output := by
  simp [six, World.setCell]

theorem six_row {X : World} {B g cap k : Nat} {ns : List Nd} (h : X.ownsRow B 65 6 (.slice (some ⟨g, 0, none⟩) ns.length cap) ns.length (rowZ Nd.cell 6 ns)) (hk : k < ns.length) (m : Nd) (d : Dr) (hf : d.free (six X g k m) g) (hc : ns.length ≤ cap) (hb : ∀ n ∈ ns, Brief n.a ∧ Brief n.b ∧ Brief n.c) (hm : Brief m.a ∧ Brief m.b ∧ Brief m.c) :
    NodesD d (six X g k m) (.slice (some ⟨g, 0, none⟩) ns.length cap) (ns.set k m) := by
  refine ⟨?_, fun n hn => ?_⟩
  · rw [List.length_set]
    refine Or.inr ⟨g, 0, cap, rfl, hc, rfl, hf, fun i hi => ?_⟩
    have hci := h.cellAt i hi
    rw [rowZ_get Nd.cell 6 (by decide) ns i hi] at hci
    obtain ⟨-, ⟨h1, -⟩ | ⟨g', cap', cur, e, -, hg, -, -, hsz, -⟩⟩ := h
    · cases h1
    cases e
    have hrw : Rw X g 65 cur.size (fun j => cur.getD j undef) 0 := ⟨cur, (0, 0), hg, rfl, fun j hj => by simp [hj], Or.inl rfl⟩
    have hcur : cur.getD i undef = (ns.getD (i / 6) default).cell (i % 6) := by
      rw [cell_of_heap hg i] at hci
      simp [Array.getD_eq_getD_getElem?, hci]
    have hlt : i < cur.size := by
      rw [cell_of_heap hg i] at hci
      exact (Array.getElem?_eq_some_iff.1 hci).1
    have hx := (((((hrw.set (k * 6) (.int .i64 m.kind)).set (k * 6 + 1) (.int .i64 m.num)).set (k * 6 + 2) (.string m.a)).set (k * 6 + 3) (.string m.b)).set (k * 6 + 4) (.string m.c)).set (k * 6 + 5) (.int .i64 m.kids)
    have hy := hx.cell hlt
    rw [Nat.zero_add]
    refine hy.trans (congrArg some ?_)
    show _ = ((ns.set k m).getD (i / 6) default).cell (i % 6)
    by_cases hik : i / 6 = k
    · have hm6 : i = k * 6 + i % 6 := by omega
      have hgd : (ns.set k m).getD (i / 6) default = m := by rw [hik]; simp [List.getD, hk]
      rw [hgd]
      have hr : i % 6 = 0 ∨ i % 6 = 1 ∨ i % 6 = 2 ∨ i % 6 = 3 ∨ i % 6 = 4 ∨ i % 6 = 5 := by omega
      rcases hr with hr | hr | hr | hr | hr | hr
      · rw [if_neg (by omega), if_neg (by omega), if_neg (by omega), if_neg (by omega), if_neg (by omega), if_pos (by omega), hr]; rfl
      · rw [if_neg (by omega), if_neg (by omega), if_neg (by omega), if_neg (by omega), if_pos (by omega), hr]; rfl
      · rw [if_neg (by omega), if_neg (by omega), if_neg (by omega), if_pos (by omega), hr]; rfl
      · rw [if_neg (by omega), if_neg (by omega), if_pos (by omega), hr]; rfl
      · rw [if_neg (by omega), if_pos (by omega), hr]; rfl
      · rw [if_pos (by omega), hr]; rfl
    · rw [if_neg (by omega), if_neg (by omega), if_neg (by omega), if_neg (by omega), if_neg (by omega), if_neg (by omega), hcur]
      have hgd : (ns.set k m).getD (i / 6) default = ns.getD (i / 6) default := by simp [List.getD, List.getElem?_set_ne (Ne.symm hik)]
      rw [hgd]
  · rcases List.mem_or_eq_of_mem_set hn with h1 | h1
    · exact hb n h1
    · rw [h1]; exact hm
end Go.Proofs.Ytnhofdngmbnlkaa

/- A program is spoilt: its operations too are told. -/
namespace Go.Proofs.Ytnhofdngmbnlkaa
open Go.RowKit Go.Deep

def SpoilPostE (d : Dr) (W : World) (p : Nat) (e : Ending) (W' : World) : Prop :=
  ∃ ad n cp v ns p', e = .returned (.agg #[.slice ad n cp, v]) ∧ NodesD d W' v ns ∧ ns.length ≤ 1000 ∧ Rdr d W' p' ∧ p' ≤ p + 10 ∧ Grew d W W' ∧ ∃ es, EffsD d W' (.slice ad n cp) es ∧ es.length ≤ 5

theorem effs_cut {d : Dr} {W X : World} {ad : Option Addr} {n cp : Nat} {es : List Ef} (h : EffsD d W (.slice ad n cp) es ∧ es.length ≤ 4) (g : Grew d W X) {k : Nat} (hk : k ≤ n) : ∃ es', EffsD d X (.slice ad k cp) es' ∧ es'.length ≤ 5 := by
  obtain ⟨h, h4⟩ := h
  have h1 := h.grew g
  rcases h1.1 with ⟨e, -⟩ | ⟨b, off, cap, e, hc, -, hq, h5⟩
  · simp only [Value.slice.injEq] at e
    obtain ⟨rfl, rfl, rfl⟩ := e
    have : k = 0 := by omega
    subst this
    exact ⟨[], ⟨Or.inl ⟨rfl, rfl⟩, fun x hx => by simp at hx⟩, by simp⟩
  · simp only [Value.slice.injEq] at e
    obtain ⟨rfl, rfl, rfl⟩ := e
    refine ⟨es.take k, ⟨?_, fun x hx => h1.2 x (List.mem_of_mem_take hx)⟩, by rw [List.length_take]; omega⟩
    have hlk : (es.take k).length = k := by rw [List.length_take]; omega
    rw [hlk]
    have hof : off = 0 := by
      rcases h1.1 with ⟨e, -⟩ | ⟨_, _, _, e, -, hz, -⟩
      · cases e
      · cases e; exact hz
    refine Or.inr ⟨b, off, cp, rfl, by omega, hof, hq, fun i hi => ?_⟩
    have hi' : i / 3 < k := by omega
    rw [h5 i (by omega)]
    have e : (es.take k).getD (i / 3) default = es.getD (i / 3) default := by simp [List.getD, List.getElem?_take_of_lt hi']
    show _ = some (((es.take k).getD (i / 3) default).cell (i % 3))
    rw [e]

/-- Operations that lie elsewhere are not in the boxes. -/
theorem bx_notE {d : Dr} {W X X' : World} {q : Nat} {ve v1 v : Value} {bp rx : Nat} {ms : List Ef} (h : Bx d W X q ve v1 bp rx) (hve : ∃ a n c, ve = .slice a n c) (hn : EffsD d X v ms) (ho : ∀ k, k ≠ bp → k ≠ rx → X'.heap[k]? = X.heap[k]?) (hs : X'.heap.size = X.heap.size) : EffsD d X' v ms := by
  obtain ⟨a, n, c, rfl⟩ := hve
  refine ⟨?_, hn.2⟩
  rcases hn.1 with hx | ⟨b, off, cap, h1, h2, rfl, h4, h5⟩
  · exact Or.inl hx
  · refine Or.inr ⟨b, 0, cap, h1, h2, rfl, ⟨by rw [hs]; exact h4.1, h4.2⟩, fun i hi => ?_⟩
    have e1 := h5 0 (by omega)
    have hb1 : b ≠ bp := fun e => by
      subst e
      rw [Nat.zero_add, cell_of_heap h.box 0] at e1
      simp at e1
      cases e1
    have hb2 : b ≠ rx := fun e => by
      subst e
      rw [Nat.zero_add, cell_of_heap h.res 0] at e1
      simp at e1
      cases e1
    exact (World.cell?_of_block (a := ⟨b, 0 + i, none⟩) (ho b hb1 hb2)).trans (h5 i hi)

theorem three_else {X : World} {bp rx j : Nat} {u u0 u1 : Value} : (∀ k, k ≠ bp → k ≠ rx → (((X.setCell ⟨bp, j, none⟩ u).setCell ⟨rx, 0, none⟩ u0).setCell ⟨rx, 1, none⟩ u1).heap[k]? = X.heap[k]?) ∧ (((X.setCell ⟨bp, j, none⟩ u).setCell ⟨rx, 0, none⟩ u0).setCell ⟨rx, 1, none⟩ u1).heap.size = X.heap.size :=
  ⟨fun k h1 h2 => ((Below.heap_setCell _ ⟨rx, 1, none⟩ _ k h2).trans (Below.heap_setCell _ ⟨rx, 0, none⟩ _ k h2)).trans (Below.heap_setCell X ⟨bp, j, none⟩ _ k h1), by simp [World.setCell]⟩

/-- A new row of operations, once the boxes are written. -/
theorem effs_new {d : Dr} {W X : World} {q : Nat} {ve v1 v u u0 u1 : Value} {bp rx j : Nat} {es : List Ef} {y : ByteArray} {a b : Int} {t : TypeId} (h : Bx d W X q ve v1 bp rx) (hve : ∃ a n c, ve = .slice a n c) (hG : d.G = d.B) (he : (∀ e ∈ es, Brief e.name) ∧ es.length ≤ 4) (hy : Brief y) (ho : X.ownsRow W.heap.size t 3 v ((([] : List Ef) ++ es) ++ [(⟨y, a, b⟩ : Ef)]).length (rowZ Ef.cell 3 ((([] : List Ef) ++ es) ++ [(⟨y, a, b⟩ : Ef)]))) : ∃ es', EffsD d (((X.setCell ⟨bp, j, none⟩ u).setCell ⟨rx, 0, none⟩ u0).setCell ⟨rx, 1, none⟩ u1) v es' ∧ es'.length ≤ 5 := by
  refine ⟨(([] : List Ef) ++ es) ++ [(⟨y, a, b⟩ : Ef)], bx_notE h hve ⟨lies_owns (f := Ef.cell) (by decide) ho h.lo.1 (by rw [hG]; exact h.lo.1), fun x hx => ?_⟩ three_else.1 three_else.2, by simp; omega⟩
  rw [List.nil_append, List.mem_append, List.mem_singleton] at hx
  rcases hx with hx | rfl
  · exact he.1 x hx
  · exact hy
end Go.Proofs.Ytnhofdngmbnlkaa

/- The specification's text of whatever program is drawn: that it ends, with a text that is not too long. -/
namespace Go.Proofs.Ytnhofdngmbnlkaa
open Go.RowKit Go.Deep

set_option maxHeartbeats 2000000 in
set_option maxRecDepth 100000 in
theorem treeBad {at_ : Option Addr} {L ct : Nat} {W : World} (h : (L : Int) < 1 ∨ (300 : Int) < (L : Int)) : Calls Try.prog 40 #[.slice at_ L ct] W fun e W' => e = .returned (.bool false) ∧ Below W.heap.size W W' := by
  rcases h with h | h
  · go_enter Try.func40, Try.ntmps40
    go_wp2_with fail
    go_ret
    exact ⟨rfl, Below.refl _ _⟩
  · have h1 : ¬ (L : Int) < 1 := by omega
    go_enter Try.func40, Try.ntmps40
    go_wp2_with fail
    go_ret
    exact ⟨rfl, Below.refl _ _⟩

set_option maxHeartbeats 2000000 in
set_option maxRecDepth 100000 in
theorem progBad {ae at_ : Option Addr} {le ce L ct : Nat} {W : World} (hle : (le : Int) ≤ 8) (h : (L : Int) < 1 ∨ (300 : Int) < (L : Int)) : Calls Try.prog 26 #[.agg #[.slice ae le ce, .slice at_ L ct]] W fun e W' => e = .returned (.bool false) ∧ Below W.heap.size W W' := by
  have HT := hid (fun X : World => treeBad (at_ := at_) (ct := ct) (W := X) h)
  have hb1 : Below W.heap.size W (W.alloc (.cells #[.slice ae le ce, .slice at_ L ct] 45)) := (Below.refl _ _).alloc (Nat.le_refl _) _
  have HB1 := hid hb1
  clear h hb1
  go_enter Try.func26, Try.ntmps26
  go_wp2_with fail
  refine (HT.out _).mono ?_
  rintro e X ⟨rfl, hb⟩
  have HB2 := hid (HB1.out.trans (hb.mono HB1.out.size))
  clear hb HB1
  go_wp2_with fail
  go_ret
  exact ⟨rfl, HB2.out⟩

set_option maxHeartbeats 2000000 in
set_option maxRecDepth 100000 in
theorem textBad {ae at_ : Option Addr} {le ce L ct : Nat} {W : World} (h : Calls Try.prog 26 #[.agg #[.slice ae le ce, .slice at_ L ct]] (W.alloc (.cells #[.slice ae le ce, .slice at_ L ct] 45)) fun e W' => e = .returned (.bool false) ∧ Below (W.alloc (.cells #[.slice ae le ce, .slice at_ L ct] 45)).heap.size (W.alloc (.cells #[.slice ae le ce, .slice at_ L ct] 45)) W') : Calls Try.prog 11 #[.agg #[.slice ae le ce, .slice at_ L ct]] W (TextP W []) := by
  have HT := hid h
  have hb1 : Below W.heap.size W (W.alloc (.cells #[.slice ae le ce, .slice at_ L ct] 45)) := (Below.refl _ _).alloc (Nat.le_refl _) _
  have HB1 := hid hb1
  clear h hb1
  have hA1 := (MapKept.heap_alloc W (.cells #[.slice ae le ce, .slice at_ L ct] 45)).1
  obtain ⟨Y, hY⟩ : ∃ Y, W.alloc (.cells #[.slice ae le ce, .slice at_ L ct] 45) = Y := ⟨_, rfl⟩
  rw [hY] at HT HB1 hA1
  have HY := hid hY
  have HA := hid hA1
  have e0 := cell_of_heap HA.out 0
  have e1 := cell_of_heap HA.out 1
  simp at e0 e1
  clear hA1 hY
  go_enter Try.func11, Try.ntmps11
  go_upto_region 1 with fail
  rw [HY.out]
  clear HY
  go_wp2_with fail
  refine HT.out.mono ?_
  rintro e X1 ⟨rfl, hb2⟩
  have HB2 := hid (HB1.out.trans (hb2.mono HB1.out.size))
  clear hb2
  go_wp2_with fail
  go_ret
  exact ⟨rfl, HB2.out⟩

theorem effW_ofD {d : Dr} {W : World} {ad : Option Addr} {n cp : Nat} {es : List Ef} (h : EffsD d W (.slice ad n cp) es) : n = es.length ∧ EffW W ad cp es := by
  rcases h.1 with ⟨h1, h2⟩ | ⟨b, off, cap, h1, h2, rfl, h4, h5⟩
  · cases h1
    exact ⟨h2.symm, Or.inl ⟨rfl, List.eq_nil_of_length_eq_zero h2, rfl⟩⟩
  · cases h1
    refine ⟨rfl, Or.inr ⟨b, rfl, h4.1, fun k hk c hc => ?_, h2⟩⟩
    rw [Nat.zero_add]
    have := h5 (k * 3 + c) (by omega)
    rw [Nat.zero_add] at this
    rw [this]
    exact congrArg some (cell_div es Ef.cell 3 k c hc)

theorem treeN_ofD {d : Dr} {W : World} {v : Value} {ns : List Nd} (h : NodesD d W v ns) (h1 : 1 ≤ ns.length) : ∃ b cap, v = .slice (some ⟨b, 0, none⟩) ns.length cap ∧ b < W.heap.size ∧ NodesAt W b 0 ns := by
  have hsl := h.slice
  rcases h.1 with ⟨h2, h3⟩ | ⟨b, off, cap, h2, h3, rfl, h4, -⟩
  · omega
  · refine ⟨b, cap, h2, h4.1, ?_⟩
    obtain ⟨a, c, e, h5⟩ := hsl
    rw [h2] at e
    cases e
    rcases h5 with rfl | ⟨b', off', e', -, hn⟩
    · simp at h1
    · cases e'
      exact hn

theorem progT_len {es : List Ef} {ns : List Nd} {n : Nd} {k : Fo} {T : Bool} (hA : SpecAns ns T) (h : progZ es ns T = true) (h1 : ns = n :: k.flat) (h2 : n.kids = k.count) (h3 : k.wf) (he : es.length ≤ 8) : (progT es n k).length ≤ 20000 := by
  have hT := prog_true h
  subst hT
  have hef : ∀ i, i < es.length → effOk es i = true := by
    unfold progZ at h
    simp only [Bool.and_eq_true] at h
    exact fun i hi => List.all_eq_true.1 h.2.2.1 i (List.mem_range.2 hi)
  obtain ⟨n', k', f1, f2, f3, hl, hst, hex, hne⟩ := right_of hA
  obtain ⟨rfl, rfl⟩ := tree_inj h1 h2 h3 f1 f2 f3
  have hsl := (bare_len hne 400).1 ⟨n', k', 0⟩ 0 (by have := hst.lt.2.2; omega) hst hex
  have hss := hst.lt.2.2
  have hel := effs_len (fun i hi => (eff_right (hef i hi)).1) es.length (Nat.le_refl _)
  unfold effsT at hel
  rw [List.take_length] at hel
  unfold progT
  rw [List.length_append]
  omega

def TextAnyP (W : World) (e : Ending) (W' : World) : Prop := ∃ t : ByteArray, e = .returned (.string t) ∧ t.size ≤ 20000 ∧ Below W.heap.size W W'

theorem text_any {d : Dr} {W : World} {ad : Option Addr} {n cp : Nat} {v : Value} {es : List Ef} {ns : List Nd} (hE : EffsD d W (.slice ad n cp) es) (he : es.length ≤ 5) (hN : NodesD d W v ns) : Calls Try.prog 11 #[.agg #[.slice ad n cp, v]] W (TextAnyP W) := by
  obtain ⟨rfl, hW⟩ := effW_ofD hE
  have hnil : (tx []).size ≤ 20000 := by rw [tx_size]; simp
  by_cases hl : 1 ≤ ns.length ∧ ns.length ≤ 300
  · obtain ⟨b, cap, rfl, hb, hNA⟩ := treeN_ofD hN hl.1
    obtain ⟨T, hA, -⟩ := answers ns
    have h := progText_calls (cn := cap) hW (by omega) hb hNA hl.2 hA
    cases hP : progZ es ns T with
    | false =>
      refine (h.1 hP).mono ?_
      rintro e W' ⟨rfl, hb⟩
      exact ⟨_, rfl, hnil, hb⟩
    | true =>
      have hT := prog_true hP
      subst hT
      obtain ⟨m, k, h1, h2, h3, -⟩ := right_of hA
      refine (h.2 hP m k h1 h2 h3).mono ?_
      rintro e W' ⟨rfl, hb⟩
      refine ⟨_, rfl, ?_, hb⟩
      rw [tx_size]
      exact progT_len hA hP h1 h2 h3 (by omega)
  · obtain ⟨at_, ct, rfl⟩ := hN.is
    refine (textBad (progBad (by omega) (by omega))).mono ?_
    rintro e W' ⟨rfl, hb⟩
    exact ⟨_, rfl, hnil, hb⟩
end Go.Proofs.Ytnhofdngmbnlkaa
