/- A function that calls itself is drawn, and a call. -/
import Derived.Test.YtegjdgiegnofhaaDoorGenEML
namespace Go.Proofs.YtegjdgiegnofhaaDoor
open Go.RowKit Go.Deep

set_option maxHeartbeats 8000000 in
set_option maxRecDepth 100000 in
/-- A function that calls itself, and a call. -/
theorem loop_calls {d : Dr} {ve v vm : Value} {es : List Ef} {W : World} {s : Cn} {ks : List Kn} {ms : List Bool} {D : Nat} (deep : Int) (hO : OfC d ve es D) (h1 : deep ≤ D) (h2 : -90 ≤ deep) (h3 : D ≤ 100) (h : Gen d ve W s) (hf : Fit s 60) (hE : Env d ve es W v ks vm ms (D + 1)) :
    Calls Tryd.prog 75 #[.pointer (some ⟨d.G, 0, none⟩), v, vm, .int .i64 deep] W (NodesPost d ve W s 60) := by
  have HF := hid hf
  have HO := hid hO
  have A0 := hid (At.start h)
  have HE := hid hE
  have HD := hid (And.intro h1 (And.intro h2 h3))
  have hdu : deep ≤ 1000 := by omega
  obtain ⟨ad, cp, rfl⟩ := hE.know.is
  obtain ⟨adm, cpm, rfl⟩ := hE.may.is
  clear hO h1 h3 h hf hE
  go_enter Tryd.func75, Tryd.ntmps75
  go_wp2_with fail
  refine (A0.out.name HF.out (by omega)).mono ?_
  rintro e X1 ⟨x1, s1, rfl, hb1, ha, hg⟩
  have A1 := hid ha
  have G1 := hid hg
  clear ha hg
  have B1 := hid hb1
  clear hb1
  go_wp2_with fail
  refine (A1.out.name HF.out (by omega)).mono ?_
  rintro e X2 ⟨x2, s2, rfl, hb2, ha, hg⟩
  have A2 := hid ha
  have G2 := hid hg
  clear ha hg
  have B2 := hid hb2
  clear hb2
  have N3 := hid (And.intro (nd_lit_at (d := d) X2 ⟨5, 0, x2, ByteArray.empty, ByteArray.empty, 0⟩ (X2.heap.size) (by simp) A2.out.1.ltB A2.out.1.ltG ⟨B2.out, brief_none, brief_none⟩) (show [(⟨5, 0, x2, ByteArray.empty, ByteArray.empty, 0⟩ : Nd)].length = 1 from rfl))
  have A3 := hid (A2.out.alloc (.cells #[.int .i64 5, .int .i64 0, .string x2, .string ByteArray.empty, .string ByteArray.empty, .int .i64 0] 90))
  have G3 := hid ((Grew.refl d X2).alloc (.cells #[.int .i64 5, .int .i64 0, .string x2, .string ByteArray.empty, .string ByteArray.empty, .int .i64 0] 90))
  have N4 := hid (And.intro (nd_lit_at (d := d) (X2.alloc (.cells #[.int .i64 5, .int .i64 0, .string x2, .string ByteArray.empty, .string ByteArray.empty, .int .i64 0] 90)) ⟨5, 0, x1, ByteArray.empty, ByteArray.empty, 0⟩ (X2.heap.size + 1) (by simp) A3.out.1.ltB A3.out.1.ltG ⟨B1.out, brief_none, brief_none⟩) (show [(⟨5, 0, x1, ByteArray.empty, ByteArray.empty, 0⟩ : Nd)].length = 1 from rfl))
  have A4 := hid (A3.out.alloc (.cells #[.int .i64 5, .int .i64 0, .string x1, .string ByteArray.empty, .string ByteArray.empty, .int .i64 0] 90))
  have G4 := hid ((Grew.refl d (X2.alloc (.cells #[.int .i64 5, .int .i64 0, .string x2, .string ByteArray.empty, .string ByteArray.empty, .int .i64 0] 90))).alloc (.cells #[.int .i64 5, .int .i64 0, .string x1, .string ByteArray.empty, .string ByteArray.empty, .int .i64 0] 90))
  go_wp2_with fail
  refine (A4.out.node 1 1).mono ?_
  rintro e X5 ⟨v5, n5, rfl, hn5, hl5, ha, hg⟩
  have A5 := hid ha
  have G5 := hid hg
  clear ha hg
  have N5 := hid (And.intro hn5 hl5)
  obtain ⟨ad5, cp5, rfl⟩ := hn5.is
  clear hn5 hl5
  go_wp2_with fail
  refine (A5.out.put2 12 0 0 ByteArray.empty ByteArray.empty ByteArray.empty (N3.out.1.grew (G4.out.trans G5.out)) N5.out.1 ⟨brief_none, brief_none, brief_none⟩ (by have := A5.out.bound HF.out (by omega) (by decide); have := N3.out.2; have := N5.out.2; omega)).mono ?_
  rintro e X6 ⟨v6, n6, rfl, hn6, hl6, ha, hg⟩
  have A6 := hid ha
  have G6 := hid hg
  clear ha hg
  have N6 := hid (And.intro hn6 hl6)
  obtain ⟨ad6, cp6, rfl⟩ := hn6.is
  clear hn6 hl6
  go_wp2_with fail
  refine (A6.out.put2 7 0 0 ByteArray.empty ByteArray.empty ByteArray.empty (N4.out.1.grew (G5.out.trans G6.out)) N6.out.1 ⟨brief_none, brief_none, brief_none⟩ (by have := A6.out.bound HF.out (by omega) (by decide); have := N4.out.2; have := N6.out.2; have := N3.out.2; have := N5.out.2; omega)).mono ?_
  rintro e X7 ⟨v7, n7, rfl, hn7, hl7, ha, hg⟩
  have A7 := hid ha
  have G7 := hid hg
  clear ha hg
  have N7 := hid (And.intro hn7 hl7)
  obtain ⟨ad7, cp7, rfl⟩ := hn7.is
  clear hn7 hl7
  go_wp2_with fail
  refine (A7.out.add x2 1 0 (HE.out.grew (G1.out.trans (G2.out.trans (G3.out.trans (G4.out.trans (G5.out.trans (G6.out.trans G7.out))))))).know B2.out (by have := HE.out.room; omega)).mono ?_
  rintro e X8 ⟨u8, ks8, rfl, hk8, hkl8, ha, hg⟩
  have A8 := hid ha
  have G8 := hid hg
  clear ha hg
  have K8 := hid (And.intro hk8 hkl8)
  obtain ⟨ad8, cp8, rfl⟩ := hk8.is
  clear hk8 hkl8
  go_wp2_with fail
  refine (A8.out.node 1 1).mono ?_
  rintro e X9 ⟨v9, n9, rfl, hn9, hl9, ha, hg⟩
  have A9 := hid ha
  have G9 := hid hg
  clear ha hg
  have N9 := hid (And.intro hn9 hl9)
  obtain ⟨ad9, cp9, rfl⟩ := hn9.is
  clear hn9 hl9
  go_wp2_with fail
  refine (A9.out.put2 15 0 0 ByteArray.empty ByteArray.empty ByteArray.empty (N3.out.1.grew (G4.out.trans (G5.out.trans (G6.out.trans (G7.out.trans (G8.out.trans G9.out)))))) N9.out.1 ⟨brief_none, brief_none, brief_none⟩ (by have := A9.out.bound HF.out (by omega) (by decide); have := N3.out.2; have := N9.out.2; omega)).mono ?_
  rintro e X10 ⟨v10, n10, rfl, hn10, hl10, ha, hg⟩
  have A10 := hid ha
  have G10 := hid hg
  clear ha hg
  have N10 := hid (And.intro hn10 hl10)
  obtain ⟨ad10, cp10, rfl⟩ := hn10.is
  clear hn10 hl10
  go_wp2_with fail
  refine (A10.out.nodes (leaf_calls 1 A10.out.1 (A10.out.fit HF.out 10 (by omega)) (K8.out.1.grew (G9.out.trans G10.out)) (by have := HE.out.room; have := K8.out.2; omega))).mono ?_
  rintro e X11 ⟨v11, n11, s11, t11, rfl, hn11, hl11, ha, hg⟩
  have A11 := hid ha
  have G11 := hid hg
  clear ha hg
  have N11 := hid (And.intro hn11 hl11)
  obtain ⟨ad11, cp11, rfl⟩ := hn11.is
  clear hn11 hl11
  go_wp2_with fail
  refine (A11.out.nodes (HO.out (deep - 2) 1 _ _ _ _ _ _ (by have := HD.out; omega) (by have := HD.out; omega) (A11.out.fit HF.out 10 (by omega)) A11.out.1 ((HE.out.grew (G1.out.trans (G2.out.trans (G3.out.trans (G4.out.trans (G5.out.trans (G6.out.trans (G7.out.trans (G8.out.trans (G9.out.trans (G10.out.trans G11.out))))))))))).with (K8.out.1.grew (G9.out.trans (G10.out.trans G11.out))) (by have := K8.out.2; omega)))).mono ?_
  rintro e X12 ⟨v12, n12, s12, t12, rfl, hn12, hl12, ha, hg⟩
  have A12 := hid ha
  have G12 := hid hg
  clear ha hg
  have N12 := hid (And.intro hn12 hl12)
  obtain ⟨ad12, cp12, rfl⟩ := hn12.is
  clear hn12 hl12
  go_wp2_with fail
  refine (A12.out.put2 11 0 0 ByteArray.empty ByteArray.empty ByteArray.empty N12.out.1 (N7.out.1.grew (G8.out.trans (G9.out.trans (G10.out.trans (G11.out.trans G12.out))))) ⟨brief_none, brief_none, brief_none⟩ (by have := A12.out.bound HF.out (by omega) (by decide); have := N12.out.2; have := N7.out.2; have := N4.out.2; have := N6.out.2; have := N3.out.2; have := N5.out.2; omega)).mono ?_
  rintro e X13 ⟨v13, n13, rfl, hn13, hl13, ha, hg⟩
  have A13 := hid ha
  have G13 := hid hg
  clear ha hg
  have N13 := hid (And.intro hn13 hl13)
  obtain ⟨ad13, cp13, rfl⟩ := hn13.is
  clear hn13 hl13
  go_wp2_with fail
  refine (A13.out.put3 10 0 0 ByteArray.empty ByteArray.empty ByteArray.empty (N10.out.1.grew (G11.out.trans (G12.out.trans G13.out))) (N11.out.1.grew (G12.out.trans G13.out)) N13.out.1 ⟨brief_none, brief_none, brief_none⟩ (by have := A13.out.bound HF.out (by omega) (by decide); have := N10.out.2; have := N3.out.2; have := N9.out.2; have := N11.out.2; have := N13.out.2; have := N12.out.2; have := N7.out.2; have := N4.out.2; have := N6.out.2; have := N3.out.2; have := N5.out.2; omega)).mono ?_
  rintro e X14 ⟨v14, n14, rfl, hn14, hl14, ha, hg⟩
  have A14 := hid ha
  have G14 := hid hg
  clear ha hg
  have N14 := hid (And.intro hn14 hl14)
  obtain ⟨ad14, cp14, rfl⟩ := hn14.is
  clear hn14 hl14
  have N15 := hid (And.intro (nd_lit_at (d := d) X14 ⟨5, 0, x1, ByteArray.empty, ByteArray.empty, 0⟩ (X14.heap.size) (by simp) A14.out.1.ltB A14.out.1.ltG ⟨B1.out, brief_none, brief_none⟩) (show [(⟨5, 0, x1, ByteArray.empty, ByteArray.empty, 0⟩ : Nd)].length = 1 from rfl))
  have A15 := hid (A14.out.alloc (.cells #[.int .i64 5, .int .i64 0, .string x1, .string ByteArray.empty, .string ByteArray.empty, .int .i64 0] 90))
  have G15 := hid ((Grew.refl d X14).alloc (.cells #[.int .i64 5, .int .i64 0, .string x1, .string ByteArray.empty, .string ByteArray.empty, .int .i64 0] 90))
  have g0 : (X14.alloc (.cells #[.int .i64 5, .int .i64 0, .string x1, .string ⟨#[]⟩, .string ⟨#[]⟩, .int .i64 0] 90)).cell? ⟨d.G, 0, none⟩ = some (.pointer (some ⟨d.B, 0, none⟩)) := A15.out.1.c0
  go_wp2_with fail
  refine (A15.out.pick HF.out (by omega) 12 (by decide)).mono ?_
  rintro e X16 ⟨m16, s16, rfl, hm16, hM16, ha, hg⟩
  have A16 := hid ha
  have G16 := hid hg
  clear ha hg
  clear g0
  go_wp2_with fail
  refine (A16.out.node 1 m16).mono ?_
  rintro e X17 ⟨v17, n17, rfl, hn17, hl17, ha, hg⟩
  have A17 := hid ha
  have G17 := hid hg
  clear ha hg
  have N17 := hid (And.intro hn17 hl17)
  obtain ⟨ad17, cp17, rfl⟩ := hn17.is
  clear hn17 hl17
  go_wp2_with fail
  refine (A17.out.put2 7 0 0 ByteArray.empty ByteArray.empty ByteArray.empty (N15.out.1.grew (G16.out.trans G17.out)) N17.out.1 ⟨brief_none, brief_none, brief_none⟩ (by have := A17.out.bound HF.out (by omega) (by decide); have := N15.out.2; have := N17.out.2; omega)).mono ?_
  rintro e X18 ⟨v18, n18, rfl, hn18, hl18, ha, hg⟩
  have A18 := hid ha
  have G18 := hid hg
  clear ha hg
  have N18 := hid (And.intro hn18 hl18)
  obtain ⟨ad18, cp18, rfl⟩ := hn18.is
  clear hn18 hl18
  go_wp2_with fail
  refine (A18.out.put2 9 0 0 x1 x2 ByteArray.empty (N14.out.1.grew (G15.out.trans (G16.out.trans (G17.out.trans G18.out)))) N18.out.1 ⟨B1.out, B2.out, brief_none⟩ (by have := A18.out.bound HF.out (by omega) (by decide); have := N14.out.2; have := N10.out.2; have := N3.out.2; have := N9.out.2; have := N11.out.2; have := N13.out.2; have := N12.out.2; have := N7.out.2; have := N4.out.2; have := N6.out.2; have := N3.out.2; have := N5.out.2; have := N18.out.2; have := N15.out.2; have := N17.out.2; omega)).mono ?_
  rintro e X19 ⟨v19, n19, rfl, hn19, hl19, ha, hg⟩
  have A19 := hid ha
  have G19 := hid hg
  clear ha hg
  have N19 := hid (And.intro hn19 hl19)
  obtain ⟨ad19, cp19, rfl⟩ := hn19.is
  clear hn19 hl19
  go_wp2_with fail
  go_ret
  exact A19.out.done 30 N19.out.1 (by have := N19.out.2; have := N14.out.2; have := N10.out.2; have := N3.out.2; have := N9.out.2; have := N11.out.2; have := N13.out.2; have := N12.out.2; have := N7.out.2; have := N4.out.2; have := N6.out.2; have := N3.out.2; have := N5.out.2; have := N18.out.2; have := N15.out.2; have := N17.out.2; omega) (by omega)
end Go.Proofs.YtegjdgiegnofhaaDoor
