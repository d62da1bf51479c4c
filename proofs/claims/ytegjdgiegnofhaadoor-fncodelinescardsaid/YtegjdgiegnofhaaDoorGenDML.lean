/- Something small is drawn. -/
import Derived.Test.YtegjdgiegnofhaaDoorGenCML
namespace Go.Proofs.YtegjdgiegnofhaaDoor
open Go.RowKit Go.Deep

/-- What is spent is bounded. -/
theorem At.bound {d : Dr} {ve : Value} {W X : World} {s s1 : Cn} {t c C : Nat} (h : At d ve W s X s1 t c) (hf : Fit s C) (hc : c ≤ C) (hC : C ≤ 1000) : t ≤ 400000 := by
  have h3 := h.2.2
  unfold Spent at h3
  unfold Fit at hf
  omega

set_option maxHeartbeats 4000000 in
set_option maxRecDepth 100000 in
/-- Something small of type 1. -/
theorem leaf1 {d : Dr} {ve v : Value} {W : World} {s : Cn} {ks : List Kn} (ty : Int) (ht : ty = 1) (h : Gen d ve W s) (hf : Fit s 4) (hk : KnowsD d W v ks) (hl : ks.length ≤ 999) :
    Calls Tryd.prog 50 #[.pointer (some ⟨d.G, 0, none⟩), .int .i64 ty, v] W (NodesPost d ve W s 4) := by
  have HF := hid hf
  have A0 := hid (At.start h)
  have HKn := hid hk
  have HKl := hid hl
  have HK := hid (A0.out.nodes0 (gknown_calls ty h (by unfold Fit at hf; omega) hk (by omega)))
  obtain ⟨ad, cp, rfl⟩ := hk.is
  clear hk hl h hf
  subst ht
  go_enter Tryd.func50, Tryd.ntmps50
  go_wp2_with fail
  refine HK.out.mono ?_
  rintro e X1 ⟨v1, n1, s1, t1, rfl, hn1, hl1, ha1, hg1⟩
  have A1 := hid ha1
  have N1 := hid (And.intro hn1 hl1)
  have G1 := hid hg1
  obtain ⟨ad1, cp1, rfl⟩ := hn1.is
  obtain ⟨l1, hl1e⟩ : ∃ l, n1.length = l := ⟨_, rfl⟩
  have HL1 := hid hl1e
  rw [hl1e] at N1 ⊢
  clear hn1 hl1 ha1 hg1 HK hl1e A0
  by_cases hz : l1 = 0
  · subst hz
    have g0 := A1.out.1.c0
    go_wp2_with fail
    refine (A1.out.pick HF.out (by omega) 10 (by decide)).mono ?_
    rintro e X2 ⟨m2, s2, rfl, hm2, hM2, ha, hg⟩
    have A2 := hid ha
    have G2 := hid hg
    clear ha hg
    clear g0
    go_wp2_with fail
    refine (A2.out.node 1 m2).mono ?_
    rintro e X3 ⟨v3, n3, rfl, hn3, hl3, ha, hg⟩
    have A3 := hid ha
    have G3 := hid hg
    clear ha hg
    have N3 := hid (And.intro hn3 hl3)
    obtain ⟨ad3, cp3, rfl⟩ := hn3.is
    clear hn3 hl3
    go_wp2_with fail
    go_ret
    exact A3.out.done 1 N3.out.1 (by have := N3.out.2; omega) (by omega)
  · have hz' : (0 : Int) < (l1 : Int) := by omega
    have g0 := A1.out.1.c0
    go_wp2_with fail
    refine (A1.out.pick HF.out (by omega) 3 (by decide)).mono ?_
    rintro e X2 ⟨m2, s2, rfl, hm2, hM2, ha, hg⟩
    have A2 := hid ha
    have G2 := hid hg
    clear ha hg
    clear g0
    by_cases hm : 0 < m2
    · go_wp2_with fail
      go_ret
      exact A2.out.done 0 (N1.out.1.grew G2.out) (by have := N1.out.2; have := HL1.out; omega) (by omega)
    · have hm0 : m2 = 0 := by omega
      subst hm0
      have g0 := A2.out.1.c0
      go_wp2_with fail
      refine (A2.out.pick HF.out (by omega) 10 (by decide)).mono ?_
      rintro e X3 ⟨m3, s3, rfl, hm3, hM3, ha, hg⟩
      have A3 := hid ha
      have G3 := hid hg
      clear ha hg
      clear g0
      go_wp2_with fail
      refine (A3.out.node 1 m3).mono ?_
      rintro e X4 ⟨v4, n4, rfl, hn4, hl4, ha, hg⟩
      have A4 := hid ha
      have G4 := hid hg
      clear ha hg
      have N4 := hid (And.intro hn4 hl4)
      obtain ⟨ad4, cp4, rfl⟩ := hn4.is
      clear hn4 hl4
      go_wp2_with fail
      go_ret
      exact A4.out.done 1 N4.out.1 (by have := N4.out.2; omega) (by omega)

set_option maxHeartbeats 4000000 in
set_option maxRecDepth 100000 in
/-- Something small of type 2. -/
theorem leaf2 {d : Dr} {ve v : Value} {W : World} {s : Cn} {ks : List Kn} (ty : Int) (ht : ty = 2) (h : Gen d ve W s) (hf : Fit s 4) (hk : KnowsD d W v ks) (hl : ks.length ≤ 999) :
    Calls Tryd.prog 50 #[.pointer (some ⟨d.G, 0, none⟩), .int .i64 ty, v] W (NodesPost d ve W s 4) := by
  have HF := hid hf
  have A0 := hid (At.start h)
  have HKn := hid hk
  have HKl := hid hl
  have HK := hid (A0.out.nodes0 (gknown_calls ty h (by unfold Fit at hf; omega) hk (by omega)))
  obtain ⟨ad, cp, rfl⟩ := hk.is
  clear hk hl h hf
  subst ht
  go_enter Tryd.func50, Tryd.ntmps50
  go_wp2_with fail
  refine HK.out.mono ?_
  rintro e X1 ⟨v1, n1, s1, t1, rfl, hn1, hl1, ha1, hg1⟩
  have A1 := hid ha1
  have N1 := hid (And.intro hn1 hl1)
  have G1 := hid hg1
  obtain ⟨ad1, cp1, rfl⟩ := hn1.is
  obtain ⟨l1, hl1e⟩ : ∃ l, n1.length = l := ⟨_, rfl⟩
  have HL1 := hid hl1e
  rw [hl1e] at N1 ⊢
  clear hn1 hl1 ha1 hg1 HK hl1e A0
  by_cases hz : l1 = 0
  · subst hz
    have g0 := A1.out.1.c0
    go_wp2_with fail
    refine (A1.out.pick HF.out (by omega) 2 (by decide)).mono ?_
    rintro e X2 ⟨m2, s2, rfl, hm2, hM2, ha, hg⟩
    have A2 := hid ha
    have G2 := hid hg
    clear ha hg
    clear g0
    go_wp2_with fail
    refine (A2.out.node 2 m2).mono ?_
    rintro e X3 ⟨v3, n3, rfl, hn3, hl3, ha, hg⟩
    have A3 := hid ha
    have G3 := hid hg
    clear ha hg
    have N3 := hid (And.intro hn3 hl3)
    obtain ⟨ad3, cp3, rfl⟩ := hn3.is
    clear hn3 hl3
    go_wp2_with fail
    go_ret
    exact A3.out.done 1 N3.out.1 (by have := N3.out.2; omega) (by omega)
  · have hz' : (0 : Int) < (l1 : Int) := by omega
    have g0 := A1.out.1.c0
    go_wp2_with fail
    refine (A1.out.pick HF.out (by omega) 3 (by decide)).mono ?_
    rintro e X2 ⟨m2, s2, rfl, hm2, hM2, ha, hg⟩
    have A2 := hid ha
    have G2 := hid hg
    clear ha hg
    clear g0
    by_cases hm : 0 < m2
    · go_wp2_with fail
      go_ret
      exact A2.out.done 0 (N1.out.1.grew G2.out) (by have := N1.out.2; have := HL1.out; omega) (by omega)
    · have hm0 : m2 = 0 := by omega
      subst hm0
      have g0 := A2.out.1.c0
      go_wp2_with fail
      refine (A2.out.pick HF.out (by omega) 2 (by decide)).mono ?_
      rintro e X3 ⟨m3, s3, rfl, hm3, hM3, ha, hg⟩
      have A3 := hid ha
      have G3 := hid hg
      clear ha hg
      clear g0
      go_wp2_with fail
      refine (A3.out.node 2 m3).mono ?_
      rintro e X4 ⟨v4, n4, rfl, hn4, hl4, ha, hg⟩
      have A4 := hid ha
      have G4 := hid hg
      clear ha hg
      have N4 := hid (And.intro hn4 hl4)
      obtain ⟨ad4, cp4, rfl⟩ := hn4.is
      clear hn4 hl4
      go_wp2_with fail
      go_ret
      exact A4.out.done 1 N4.out.1 (by have := N4.out.2; omega) (by omega)

set_option maxHeartbeats 4000000 in
set_option maxRecDepth 100000 in
/-- Something small of type 3. -/
theorem leaf3 {d : Dr} {ve v : Value} {W : World} {s : Cn} {ks : List Kn} (ty : Int) (ht : ty = 3) (h : Gen d ve W s) (hf : Fit s 4) (hk : KnowsD d W v ks) (hl : ks.length ≤ 999) :
    Calls Tryd.prog 50 #[.pointer (some ⟨d.G, 0, none⟩), .int .i64 ty, v] W (NodesPost d ve W s 4) := by
  have HF := hid hf
  have A0 := hid (At.start h)
  have HKn := hid hk
  have HKl := hid hl
  have HK := hid (A0.out.nodes0 (gknown_calls ty h (by unfold Fit at hf; omega) hk (by omega)))
  obtain ⟨ad, cp, rfl⟩ := hk.is
  clear hk hl h hf
  subst ht
  go_enter Tryd.func50, Tryd.ntmps50
  go_wp2_with fail
  refine HK.out.mono ?_
  rintro e X1 ⟨v1, n1, s1, t1, rfl, hn1, hl1, ha1, hg1⟩
  have A1 := hid ha1
  have N1 := hid (And.intro hn1 hl1)
  have G1 := hid hg1
  obtain ⟨ad1, cp1, rfl⟩ := hn1.is
  obtain ⟨l1, hl1e⟩ : ∃ l, n1.length = l := ⟨_, rfl⟩
  have HL1 := hid hl1e
  rw [hl1e] at N1 ⊢
  clear hn1 hl1 ha1 hg1 HK hl1e A0
  by_cases hz : l1 = 0
  · subst hz
    go_wp2_with fail
    refine (A1.out.node 3 0).mono ?_
    rintro e X2 ⟨v2, n2, rfl, hn2, hl2, ha, hg⟩
    have A2 := hid ha
    have G2 := hid hg
    clear ha hg
    have N2 := hid (And.intro hn2 hl2)
    obtain ⟨ad2, cp2, rfl⟩ := hn2.is
    clear hn2 hl2
    go_wp2_with fail
    go_ret
    exact A2.out.done 1 N2.out.1 (by have := N2.out.2; omega) (by omega)
  · have hz' : (0 : Int) < (l1 : Int) := by omega
    have g0 := A1.out.1.c0
    go_wp2_with fail
    refine (A1.out.pick HF.out (by omega) 3 (by decide)).mono ?_
    rintro e X2 ⟨m2, s2, rfl, hm2, hM2, ha, hg⟩
    have A2 := hid ha
    have G2 := hid hg
    clear ha hg
    clear g0
    by_cases hm : 0 < m2
    · go_wp2_with fail
      go_ret
      exact A2.out.done 0 (N1.out.1.grew G2.out) (by have := N1.out.2; have := HL1.out; omega) (by omega)
    · have hm0 : m2 = 0 := by omega
      subst hm0
      go_wp2_with fail
      refine (A2.out.node 3 0).mono ?_
      rintro e X3 ⟨v3, n3, rfl, hn3, hl3, ha, hg⟩
      have A3 := hid ha
      have G3 := hid hg
      clear ha hg
      have N3 := hid (And.intro hn3 hl3)
      obtain ⟨ad3, cp3, rfl⟩ := hn3.is
      clear hn3 hl3
      go_wp2_with fail
      go_ret
      exact A3.out.done 1 N3.out.1 (by have := N3.out.2; omega) (by omega)

set_option maxHeartbeats 4000000 in
set_option maxRecDepth 100000 in
/-- Something small of type 4. -/
theorem leaf4 {d : Dr} {ve v : Value} {W : World} {s : Cn} {ks : List Kn} (ty : Int) (ht : ty = 4) (h : Gen d ve W s) (hf : Fit s 4) (hk : KnowsD d W v ks) (hl : ks.length ≤ 999) :
    Calls Tryd.prog 50 #[.pointer (some ⟨d.G, 0, none⟩), .int .i64 ty, v] W (NodesPost d ve W s 4) := by
  have HF := hid hf
  have A0 := hid (At.start h)
  have HKn := hid hk
  have HKl := hid hl
  have HK := hid (A0.out.nodes0 (gknown_calls ty h (by unfold Fit at hf; omega) hk (by omega)))
  obtain ⟨ad, cp, rfl⟩ := hk.is
  clear hk hl h hf
  subst ht
  go_enter Tryd.func50, Tryd.ntmps50
  go_wp2_with fail
  refine HK.out.mono ?_
  rintro e X1 ⟨v1, n1, s1, t1, rfl, hn1, hl1, ha1, hg1⟩
  have A1 := hid ha1
  have N1 := hid (And.intro hn1 hl1)
  have G1 := hid hg1
  obtain ⟨ad1, cp1, rfl⟩ := hn1.is
  obtain ⟨l1, hl1e⟩ : ∃ l, n1.length = l := ⟨_, rfl⟩
  have HL1 := hid hl1e
  rw [hl1e] at N1 ⊢
  clear hn1 hl1 ha1 hg1 HK hl1e A0
  by_cases hz : l1 = 0
  · subst hz
    go_wp2_with fail
    refine (A1.out.node 4 0).mono ?_
    rintro e X2 ⟨v2, n2, rfl, hn2, hl2, ha, hg⟩
    have A2 := hid ha
    have G2 := hid hg
    clear ha hg
    have N2 := hid (And.intro hn2 hl2)
    obtain ⟨ad2, cp2, rfl⟩ := hn2.is
    clear hn2 hl2
    go_wp2_with fail
    go_ret
    exact A2.out.done 1 N2.out.1 (by have := N2.out.2; omega) (by omega)
  · have hz' : (0 : Int) < (l1 : Int) := by omega
    have g0 := A1.out.1.c0
    go_wp2_with fail
    refine (A1.out.pick HF.out (by omega) 3 (by decide)).mono ?_
    rintro e X2 ⟨m2, s2, rfl, hm2, hM2, ha, hg⟩
    have A2 := hid ha
    have G2 := hid hg
    clear ha hg
    clear g0
    by_cases hm : 0 < m2
    · go_wp2_with fail
      go_ret
      exact A2.out.done 0 (N1.out.1.grew G2.out) (by have := N1.out.2; have := HL1.out; omega) (by omega)
    · have hm0 : m2 = 0 := by omega
      subst hm0
      go_wp2_with fail
      refine (A2.out.node 4 0).mono ?_
      rintro e X3 ⟨v3, n3, rfl, hn3, hl3, ha, hg⟩
      have A3 := hid ha
      have G3 := hid hg
      clear ha hg
      have N3 := hid (And.intro hn3 hl3)
      obtain ⟨ad3, cp3, rfl⟩ := hn3.is
      clear hn3 hl3
      go_wp2_with fail
      go_ret
      exact A3.out.done 1 N3.out.1 (by have := N3.out.2; omega) (by omega)

set_option maxHeartbeats 4000000 in
set_option maxRecDepth 100000 in
/-- A function, small. -/
theorem gleaf5 {d : Dr} {ve v : Value} {W : World} {s : Cn} {ks : List Kn} (ty : Int) (h1 : ty ≠ 1) (h2 : ty ≠ 2) (h3 : ty ≠ 3) (h4 : ty ≠ 4) (h : Gen d ve W s) (hf : Fit s 10) (hk : KnowsD d W v ks) (hl : ks.length ≤ 998) :
    Calls Tryd.prog 50 #[.pointer (some ⟨d.G, 0, none⟩), .int .i64 ty, v] W (NodesPost d ve W s 10) := by
  have HF := hid hf
  have A0 := hid (At.start h)
  have HKn := hid hk
  have HKl := hid hl
  have HK := hid (A0.out.nodes0 (gknown_calls ty h (by unfold Fit at hf; omega) hk (by omega)))
  obtain ⟨ad, cp, rfl⟩ := hk.is
  clear hk hl h hf
  have e1 : (ty == 1) = false := by simp [h1]
  have e2 : (ty == 2) = false := by simp [h2]
  have e3 : (ty == 3) = false := by simp [h3]
  have e4 : (ty == 4) = false := by simp [h4]
  clear h1 h2 h3 h4
  go_enter Tryd.func50, Tryd.ntmps50
  go_wp2_with fail
  refine HK.out.mono ?_
  rintro e X1 ⟨v1, n1, s1, t1, rfl, hn1, hl1, ha1, hg1⟩
  have A1 := hid ha1
  have N1 := hid (And.intro hn1 hl1)
  have G1 := hid hg1
  obtain ⟨ad1, cp1, rfl⟩ := hn1.is
  obtain ⟨l1, hl1e⟩ : ∃ l, n1.length = l := ⟨_, rfl⟩
  have HL1 := hid hl1e
  rw [hl1e] at N1 ⊢
  clear hn1 hl1 ha1 hg1 HK hl1e A0
  by_cases hz : l1 = 0
  · subst hz
    go_wp2_with fail
    refine (A1.out.name HF.out (by omega)).mono ?_
    rintro e X2 ⟨x2, s2, rfl, hb2, ha, hg⟩
    have A2 := hid ha
    have G2 := hid hg
    clear ha hg
    have B2 := hid hb2
    clear hb2
    go_wp2_with fail
    refine (A2.out.add x2 1 0 (HKn.out.grew (G1.out.trans G2.out)) B2.out (by have := HKl.out; omega)).mono ?_
    rintro e X3 ⟨u3, ks3, rfl, hk3, hkl3, ha, hg⟩
    have A3 := hid ha
    have G3 := hid hg
    clear ha hg
    have K3 := hid (And.intro hk3 hkl3)
    clear hk3 hkl3
    go_wp2_with fail
    refine (A3.out.nodes (leaf1 1 rfl A3.out.1 (A3.out.fit HF.out 4 (by omega)) K3.out.1 (by have := K3.out.2; have := HKl.out; omega))).mono ?_
    rintro e X4 ⟨v4, n4, s4, t4, rfl, hn4, hl4, ha, hg⟩
    have A4 := hid ha
    have G4 := hid hg
    clear ha hg
    have N4 := hid (And.intro hn4 hl4)
    obtain ⟨ad4, cp4, rfl⟩ := hn4.is
    clear hn4 hl4
    go_wp2_with fail
    refine (A4.out.put1 6 0 0 x2 ByteArray.empty ByteArray.empty N4.out.1 ⟨B2.out, brief_none, brief_none⟩ (by have := A4.out.bound HF.out (by omega) (by decide); have := N4.out.2; omega)).mono ?_
    rintro e X5 ⟨v5, n5, rfl, hn5, hl5, ha, hg⟩
    have A5 := hid ha
    have G5 := hid hg
    clear ha hg
    have N5 := hid (And.intro hn5 hl5)
    obtain ⟨ad5, cp5, rfl⟩ := hn5.is
    clear hn5 hl5
    go_wp2_with fail
    go_ret
    exact A5.out.done 1 N5.out.1 (by have := N5.out.2; have := N4.out.2; omega) (by omega)
  · have hz' : (0 : Int) < (l1 : Int) := by omega
    have g0 := A1.out.1.c0
    go_wp2_with fail
    refine (A1.out.pick HF.out (by omega) 3 (by decide)).mono ?_
    rintro e X2 ⟨m2, s2, rfl, hm2, hM2, ha, hg⟩
    have A2 := hid ha
    have G2 := hid hg
    clear ha hg
    clear g0
    by_cases hm : 0 < m2
    · go_wp2_with fail
      go_ret
      exact A2.out.done 0 (N1.out.1.grew G2.out) (by have := N1.out.2; have := HL1.out; omega) (by omega)
    · have hm0 : m2 = 0 := by omega
      subst hm0
      go_wp2_with fail
      refine (A2.out.name HF.out (by omega)).mono ?_
      rintro e X3 ⟨x3, s3, rfl, hb3, ha, hg⟩
      have A3 := hid ha
      have G3 := hid hg
      clear ha hg
      have B3 := hid hb3
      clear hb3
      go_wp2_with fail
      refine (A3.out.add x3 1 0 (HKn.out.grew (G1.out.trans (G2.out.trans G3.out))) B3.out (by have := HKl.out; omega)).mono ?_
      rintro e X4 ⟨u4, ks4, rfl, hk4, hkl4, ha, hg⟩
      have A4 := hid ha
      have G4 := hid hg
      clear ha hg
      have K4 := hid (And.intro hk4 hkl4)
      clear hk4 hkl4
      go_wp2_with fail
      refine (A4.out.nodes (leaf1 1 rfl A4.out.1 (A4.out.fit HF.out 4 (by omega)) K4.out.1 (by have := K4.out.2; have := HKl.out; omega))).mono ?_
      rintro e X5 ⟨v5, n5, s5, t5, rfl, hn5, hl5, ha, hg⟩
      have A5 := hid ha
      have G5 := hid hg
      clear ha hg
      have N5 := hid (And.intro hn5 hl5)
      obtain ⟨ad5, cp5, rfl⟩ := hn5.is
      clear hn5 hl5
      go_wp2_with fail
      refine (A5.out.put1 6 0 0 x3 ByteArray.empty ByteArray.empty N5.out.1 ⟨B3.out, brief_none, brief_none⟩ (by have := A5.out.bound HF.out (by omega) (by decide); have := N5.out.2; omega)).mono ?_
      rintro e X6 ⟨v6, n6, rfl, hn6, hl6, ha, hg⟩
      have A6 := hid ha
      have G6 := hid hg
      clear ha hg
      have N6 := hid (And.intro hn6 hl6)
      obtain ⟨ad6, cp6, rfl⟩ := hn6.is
      clear hn6 hl6
      go_wp2_with fail
      go_ret
      exact A6.out.done 1 N6.out.1 (by have := N6.out.2; have := N5.out.2; omega) (by omega)

theorem Fit.mono {s : Cn} {c c' : Nat} (h : Fit s c) (hc : c' ≤ c) : Fit s c' := by
  unfold Fit at h ⊢
  omega

theorem NodesPost.mono {d : Dr} {ve : Value} {W W' : World} {s : Cn} {c c' : Nat} {e : Ending} (h : NodesPost d ve W s c e W') (hc : c ≤ c') : NodesPost d ve W s c' e W' := by
  obtain ⟨v, ns, s', t, h1, h2, h3, h4, h5, h6⟩ := h
  exact ⟨v, ns, s', t, h1, h2, h3, h4, h5, h6.mono hc⟩

/-- Something small is drawn. -/
theorem leaf_calls {d : Dr} {ve v : Value} {W : World} {s : Cn} {ks : List Kn} (ty : Int) (h : Gen d ve W s) (hf : Fit s 10) (hk : KnowsD d W v ks) (hl : ks.length ≤ 998) :
    Calls Tryd.prog 50 #[.pointer (some ⟨d.G, 0, none⟩), .int .i64 ty, v] W (NodesPost d ve W s 10) := by
  by_cases h1 : ty = 1
  · exact (leaf1 ty h1 h (hf.mono (by omega)) hk (by omega)).mono fun e W' h => h.mono (by omega)
  by_cases h2 : ty = 2
  · exact (leaf2 ty h2 h (hf.mono (by omega)) hk (by omega)).mono fun e W' h => h.mono (by omega)
  by_cases h3 : ty = 3
  · exact (leaf3 ty h3 h (hf.mono (by omega)) hk (by omega)).mono fun e W' h => h.mono (by omega)
  by_cases h4 : ty = 4
  · exact (leaf4 ty h4 h (hf.mono (by omega)) hk (by omega)).mono fun e W' h => h.mono (by omega)
  exact gleaf5 ty h1 h2 h3 h4 h hf hk hl
end Go.Proofs.YtegjdgiegnofhaaDoor
