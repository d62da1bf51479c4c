import Derived.Test.YtfmkgppkgmjpfaaGreatDoorSlmQb3
import Derived.Deep.Cut
namespace Go.Proofs.YtfmkgppkgmjpfaaGreatDoor
section
open Go.RowKit Go.Deep
set_option maxHeartbeats 8000000 in
set_option maxRecDepth 100000 in
theorem perform_calls {d : Dr} {ve v vm : Value} {es : List Ef} {W : World} {s : Cn} {ks : List Kn} {ms : List Bool} {D : Nat} (ty : Int) (deep : Int) (hO : OfC d ve es D) (h1 : deep ≤ D) (h2 : -90 ≤ deep) (h3 : D ≤ 100) (h : Gen d ve W s) (hf : Fit s 30) (hE : Env d ve es W v ks vm ms (D + 1)) :
   Calls Tryz.prog 61 #[.pointer (some ⟨d.G, 0, none⟩), .int .i64 ty, v, vm, .int .i64 deep] W (NodesPost0 d ve W s 30) := by
 have HF := hid hf
 have HO := hid hO
 have A0 := hid (At.start h)
 have HE := hid hE
 have HD := hid (And.intro h1 (And.intro h2 h3))
 have hdu : deep ≤ 1000 := by omega
 obtain ⟨ad, cp, rfl⟩ := hE.know.is
 obtain ⟨adm, cpm, rfl⟩ := hE.may.is
 obtain ⟨ade, cpe, rfl⟩ := hE.effs.is
 clear hO h1 h3 h hf hE
 have HL : Hid (es.length ≤ 4 ∧ ms.length = es.length) := ⟨HE.out.few, HE.out.len⟩
 have hwr : IntKind.i64.wrap ((es.length : Int) + 1) = (es.length : Int) + 1 := by rw [IntKind.wrap_i64]; have := HL.out.1; omega
 go_enter Tryz.func61, Tryz.ntmps61
 go_upto_region 1 with fail
 refine z33 (S := fun w' => w'.cell? ⟨d.G, 0, none⟩ = some (.pointer (some ⟨d.B, 0, none⟩)) ∧ w'.cell? ⟨d.G, 1, none⟩ = some (.slice ade es.length cpe)) (by kernel_rfl) rfl rfl ?_
 have A1 := hid A0.out.drew
 have G1 := hid (Grew.refl d W).drew
 generalize W.drew = X1 at *
 refine pick_o 0 (.pointer (some ⟨d.G, 0, none⟩)) ⟨A1.out.1.c0, A1.out.1.c1⟩ ?_
 refine pick_o 1 (.pointer (some ⟨d.G, 0, none⟩)) ⟨A1.out.1.c0, A1.out.1.c1⟩ ?_
 refine pick_o 2 (.pointer (some ⟨d.G, 0, none⟩)) ⟨A1.out.1.c0, A1.out.1.c1⟩ ?_
 refine pick_o (hy := fun w' hw => by simp [go_sem, hw.1]) 3 (.pointer (some ⟨d.B, 0, none⟩)) ⟨A1.out.1.c0, A1.out.1.c1⟩ ?_
 refine pick_o 4 (.pointer (some ⟨d.G, 0, none⟩)) ⟨A1.out.1.c0, A1.out.1.c1⟩ ?_
 refine pick_o 5 (.pointer (some ⟨d.G, 0, none⟩)) ⟨A1.out.1.c0, A1.out.1.c1⟩ ?_
 refine pick_o 6 (.pointer (some ⟨d.G, 1, none⟩)) ⟨A1.out.1.c0, A1.out.1.c1⟩ ?_
 refine pick_o (hy := fun w' hw => by simp [go_sem, hw.2]) 7 (.slice ade es.length cpe) ⟨A1.out.1.c0, A1.out.1.c1⟩ ?_
 refine pick_o 8 (.int .i64 (es.length : Int)) ⟨A1.out.1.c0, A1.out.1.c1⟩ ?_
 refine pick_o (hy := fun w' hw => by simp [go_sem, hwr]) 9 (.int .i64 ((es.length : Int) + 1)) ⟨A1.out.1.c0, A1.out.1.c1⟩ ?_
 refine z27 (i := 10) (f := 16) (args := #[.pointer (some ⟨d.B, 0, none⟩), .int .i64 ((es.length : Int) + 1)]) rfl (by kernel_rfl) rfl rfl (by simp [go_sem]) ?_
 refine (A1.out.pick HF.out (by omega) _ (by omega)).mono ?_
 rintro e X2 ⟨m, s2, rfl, hm0, hm1, ha, hg⟩
 have A2 := hid ha
 have G2 := hid hg
 clear ha hg
 refine ⟨_, rfl, ⟨A2.out.1.c0, A2.out.1.c1⟩, ?_⟩
 refine z15 (by simp [go_sem]; exact rfl) ?_
 refine pick_o 11 (.int .i64 m) ⟨A2.out.1.c0, A2.out.1.c1⟩ ?_
 refine z32 (by kernel_rfl) ?_
 have AX := A2
 have HEX := hid (HE.out.grew (G1.out.trans G2.out))
 have GX := hid (G1.out.trans G2.out)
 have g0 := AX.out.1.c0
 have g1 := AX.out.1.c1
 have HM := hid (And.intro hm0 hm1)
 generalize X2 = X at *
 clear A0 HE hwr
 go_wp2_with fail
 go_loopw [12, 13] (fun i k wr => ∃ i' : Nat, i = .int .i64 i' ∧ i' ≤ es.length ∧ wr = X) (fun i _ _ => es.length - (intOf i).toNat)
 case atStart => exact ⟨0, rfl, Nat.zero_le _, rfl⟩
 case round =>
   obtain ⟨i', rfl, hle, rfl⟩ := hrel
   by_cases hi : (i' : Int) < (es.length : Int)
   · obtain ⟨kk, hkk⟩ : ∃ kk : Nat, (m + (i' : Int)) % (es.length : Int) = (kk : Int) := ⟨((m + (i' : Int)) % (es.length : Int)).toNat, by have := Int.emod_nonneg (m + (i' : Int)) (show (es.length : Int) ≠ 0 by omega); omega⟩
     have hkl : kk < es.length := by have := Int.emod_lt_of_pos (m + (i' : Int)) (show (0 : Int) < (es.length : Int) by omega); omega
     have hkt : (m + (i' : Int)).tmod (es.length : Int) = (kk : Int) := (Int.tmod_eq_emod_of_nonneg (by have := HM.out.1; omega)).trans hkk
     have hsum : wrap64 (m + (i' : Int)) = m + (i' : Int) := by have := HM.out; have := HL.out; unfold wrap64; omega
     obtain ⟨bm, om, rfl, hqm, cm⟩ := HEX.out.may.at (i := kk) (by have := HL.out.2; omega)
     obtain ⟨be, oe, xn, xa, xr, rfl, -, hbr, hqe, c0, c1, c2⟩ := HEX.out.effs.at (i := kk) hkl
     have HQ := hid (And.intro hqe hbr)
     have hk0 : (0 : Int) ≤ (kk : Int) := by omega
     have hk1 : (kk : Int) < (es.length : Int) := by omega
     have hk2 : (kk : Int) < (ms.length : Int) := by have := HL.out.2; omega
     have hstep : es.length - (intOf (.int .i64 ((i' + 1 : Nat) : Int))).toNat < es.length - (intOf (.int .i64 (i' : Int))).toNat := z60 hi
     have hi0 : (0 : Int) ≤ (i' : Int) := by omega
     have hne : ((es.length : Int) == 0) = false := beq_eq_false_iff_ne.2 (by omega)
     clear hqm hqe hbr hkk hkl
     generalize ms.getD kk false = bb at *
     cases bb with
     | false =>
       go_wp2_with fail
       rw [z31 (by have := HL.out.1; omega)]
       exact ⟨⟨i' + 1, rfl, by omega, by first | rfl | trivial⟩, hstep⟩
     | true =>
       go_wp2_with fail
       refine (z65 xr _).mono ?_
       rintro e W9 ⟨rfl, rfl⟩
       by_cases hty : (xr == ty) = true
       · have HE := HEX
         go_upto_region 7 with fail
         refine z33 (S := fun w' => w'.cell? ⟨d.G, 1, none⟩ = some (.slice (some ⟨be, oe, none⟩) es.length cpe) ∧ w'.cell? ⟨be, oe + kk * 3, none⟩ = some (.string xn) ∧ w'.cell? ⟨be, oe + kk * 3 + 1, none⟩ = some (.int .i64 xa)) (by kernel_rfl) rfl rfl ?_
         have A1 := hid AX.out.drew
         have G1 := hid (Grew.refl d wr).drew
         generalize wr.drew = X1 at *
         refine pick_o 0 (.pointer (some ⟨d.G, 0, none⟩)) ⟨A1.out.1.c1, ((G1.out.cell (p := ⟨be, oe + kk * 3, none⟩) HQ.out.1).trans c0), ((G1.out.cell (p := ⟨be, oe + kk * 3 + 1, none⟩) HQ.out.1).trans c1)⟩ ?_
         refine pick_o 1 (.pointer (some ⟨d.G, 0, none⟩)) ⟨A1.out.1.c1, ((G1.out.cell (p := ⟨be, oe + kk * 3, none⟩) HQ.out.1).trans c0), ((G1.out.cell (p := ⟨be, oe + kk * 3 + 1, none⟩) HQ.out.1).trans c1)⟩ ?_
         refine pick_o 2 (.pointer (some ⟨d.G, 1, none⟩)) ⟨A1.out.1.c1, ((G1.out.cell (p := ⟨be, oe + kk * 3, none⟩) HQ.out.1).trans c0), ((G1.out.cell (p := ⟨be, oe + kk * 3 + 1, none⟩) HQ.out.1).trans c1)⟩ ?_
         refine pick_o (hy := fun w' hw => by simp [go_sem, hw.1]) 3 (.slice (some ⟨be, oe, none⟩) es.length cpe) ⟨A1.out.1.c1, ((G1.out.cell (p := ⟨be, oe + kk * 3, none⟩) HQ.out.1).trans c0), ((G1.out.cell (p := ⟨be, oe + kk * 3 + 1, none⟩) HQ.out.1).trans c1)⟩ ?_
         refine pick_o 4 (.int .i64 (kk : Int)) ⟨A1.out.1.c1, ((G1.out.cell (p := ⟨be, oe + kk * 3, none⟩) HQ.out.1).trans c0), ((G1.out.cell (p := ⟨be, oe + kk * 3 + 1, none⟩) HQ.out.1).trans c1)⟩ ?_
         refine pick_o (hy := fun w' hw => by simp [go_sem, hk0, hk1]) 5 (.pointer (some ⟨be, oe + kk * 3, none⟩)) ⟨A1.out.1.c1, ((G1.out.cell (p := ⟨be, oe + kk * 3, none⟩) HQ.out.1).trans c0), ((G1.out.cell (p := ⟨be, oe + kk * 3 + 1, none⟩) HQ.out.1).trans c1)⟩ ?_
         refine pick_o 6 (.pointer (some ⟨be, oe + kk * 3, none⟩)) ⟨A1.out.1.c1, ((G1.out.cell (p := ⟨be, oe + kk * 3, none⟩) HQ.out.1).trans c0), ((G1.out.cell (p := ⟨be, oe + kk * 3 + 1, none⟩) HQ.out.1).trans c1)⟩ ?_
         refine pick_o (hy := fun w' hw => by simp [go_sem, hw.2.1]) 7 (.string xn) ⟨A1.out.1.c1, ((G1.out.cell (p := ⟨be, oe + kk * 3, none⟩) HQ.out.1).trans c0), ((G1.out.cell (p := ⟨be, oe + kk * 3 + 1, none⟩) HQ.out.1).trans c1)⟩ ?_
         refine pick_o 8 (.agg #[.int .i64 22, .int .i64 0, .string xn, .string ⟨#[]⟩, .string ⟨#[]⟩, .int .i64 0]) ⟨A1.out.1.c1, ((G1.out.cell (p := ⟨be, oe + kk * 3, none⟩) HQ.out.1).trans c0), ((G1.out.cell (p := ⟨be, oe + kk * 3 + 1, none⟩) HQ.out.1).trans c1)⟩ ?_
         refine pick_o 9 (.pointer (some ⟨d.G, 0, none⟩)) ⟨A1.out.1.c1, ((G1.out.cell (p := ⟨be, oe + kk * 3, none⟩) HQ.out.1).trans c0), ((G1.out.cell (p := ⟨be, oe + kk * 3 + 1, none⟩) HQ.out.1).trans c1)⟩ ?_
         refine pick_o 10 (.pointer (some ⟨d.G, 0, none⟩)) ⟨A1.out.1.c1, ((G1.out.cell (p := ⟨be, oe + kk * 3, none⟩) HQ.out.1).trans c0), ((G1.out.cell (p := ⟨be, oe + kk * 3 + 1, none⟩) HQ.out.1).trans c1)⟩ ?_
         refine pick_o 11 (.pointer (some ⟨d.G, 0, none⟩)) ⟨A1.out.1.c1, ((G1.out.cell (p := ⟨be, oe + kk * 3, none⟩) HQ.out.1).trans c0), ((G1.out.cell (p := ⟨be, oe + kk * 3 + 1, none⟩) HQ.out.1).trans c1)⟩ ?_
         refine pick_o 12 (.pointer (some ⟨d.G, 1, none⟩)) ⟨A1.out.1.c1, ((G1.out.cell (p := ⟨be, oe + kk * 3, none⟩) HQ.out.1).trans c0), ((G1.out.cell (p := ⟨be, oe + kk * 3 + 1, none⟩) HQ.out.1).trans c1)⟩ ?_
         refine pick_o (hy := fun w' hw => by simp [go_sem, hw.1]) 13 (.slice (some ⟨be, oe, none⟩) es.length cpe) ⟨A1.out.1.c1, ((G1.out.cell (p := ⟨be, oe + kk * 3, none⟩) HQ.out.1).trans c0), ((G1.out.cell (p := ⟨be, oe + kk * 3 + 1, none⟩) HQ.out.1).trans c1)⟩ ?_
         refine pick_o 14 (.int .i64 (kk : Int)) ⟨A1.out.1.c1, ((G1.out.cell (p := ⟨be, oe + kk * 3, none⟩) HQ.out.1).trans c0), ((G1.out.cell (p := ⟨be, oe + kk * 3 + 1, none⟩) HQ.out.1).trans c1)⟩ ?_
         refine pick_o (hy := fun w' hw => by simp [go_sem, hk0, hk1]) 15 (.pointer (some ⟨be, oe + kk * 3, none⟩)) ⟨A1.out.1.c1, ((G1.out.cell (p := ⟨be, oe + kk * 3, none⟩) HQ.out.1).trans c0), ((G1.out.cell (p := ⟨be, oe + kk * 3 + 1, none⟩) HQ.out.1).trans c1)⟩ ?_
         refine pick_o 16 (.pointer (some ⟨be, oe + kk * 3 + 1, none⟩)) ⟨A1.out.1.c1, ((G1.out.cell (p := ⟨be, oe + kk * 3, none⟩) HQ.out.1).trans c0), ((G1.out.cell (p := ⟨be, oe + kk * 3 + 1, none⟩) HQ.out.1).trans c1)⟩ ?_
         refine pick_o (hy := fun w' hw => by simp [go_sem, hw.2.2]) 17 (.int .i64 xa) ⟨A1.out.1.c1, ((G1.out.cell (p := ⟨be, oe + kk * 3, none⟩) HQ.out.1).trans c0), ((G1.out.cell (p := ⟨be, oe + kk * 3 + 1, none⟩) HQ.out.1).trans c1)⟩ ?_
         refine pick_o 19 (.slice ad ks.length cp) ⟨A1.out.1.c1, ((G1.out.cell (p := ⟨be, oe + kk * 3, none⟩) HQ.out.1).trans c0), ((G1.out.cell (p := ⟨be, oe + kk * 3 + 1, none⟩) HQ.out.1).trans c1)⟩ ?_
         refine pick_o 20 (.slice (some ⟨bm, om, none⟩) ms.length cpm) ⟨A1.out.1.c1, ((G1.out.cell (p := ⟨be, oe + kk * 3, none⟩) HQ.out.1).trans c0), ((G1.out.cell (p := ⟨be, oe + kk * 3 + 1, none⟩) HQ.out.1).trans c1)⟩ ?_
         refine pick_o 21 (.int .i64 deep) ⟨A1.out.1.c1, ((G1.out.cell (p := ⟨be, oe + kk * 3, none⟩) HQ.out.1).trans c0), ((G1.out.cell (p := ⟨be, oe + kk * 3 + 1, none⟩) HQ.out.1).trans c1)⟩ ?_
         refine z27 (i := 18) (f := 85) (args := #[.int .i64 xa]) rfl (by kernel_rfl) rfl rfl (by simp [go_sem]) ?_
         refine (z65 xa _).mono ?_
         rintro e W8 ⟨rfl, rfl⟩
         refine ⟨_, rfl, ⟨A1.out.1.c1, ((G1.out.cell (p := ⟨be, oe + kk * 3, none⟩) HQ.out.1).trans c0), ((G1.out.cell (p := ⟨be, oe + kk * 3 + 1, none⟩) HQ.out.1).trans c1)⟩, ?_⟩
         refine z15 (by simp [go_sem]; exact rfl) ?_
         refine z27 (i := 22) (f := 30) (args := #[.pointer (some ⟨d.G, 0, none⟩), .int .i64 xa, .slice ad ks.length cp, .slice (some ⟨bm, om, none⟩) ms.length cpm, .int .i64 deep]) rfl (by kernel_rfl) rfl rfl (by simp [go_sem]) ?_
         refine (A1.out.nodes (HO.out deep xa _ _ _ _ _ _ (by have := HD.out; omega) (by have := HD.out; omega) (A1.out.fit HF.out 10 (by omega)) A1.out.1 (HE.out.grew G1.out).down)).mono ?_
         rintro e X2 ⟨v2, n2, s2, t2, rfl, hn2, hl2, ha, hg⟩
         have A2 := hid ha
         have G2 := hid hg
         clear ha hg
         have N2 := hid (And.intro hn2 hl2)
         obtain ⟨ad2, cp2, rfl⟩ := hn2.is
         clear hn2 hl2
         refine ⟨_, rfl, ⟨A2.out.1.c1, (((G1.out.trans G2.out).cell (p := ⟨be, oe + kk * 3, none⟩) HQ.out.1).trans c0), (((G1.out.trans G2.out).cell (p := ⟨be, oe + kk * 3 + 1, none⟩) HQ.out.1).trans c1)⟩, ?_⟩
         refine z15 (by simp [go_sem]; exact rfl) ?_
         have KV : Hid (KidsV d (X2.alloc (.cells #[.slice ad2 n2.length cp2] 53)) (.slice (some ⟨X2.heap.size, 0, none⟩) 1 1) [(.slice ad2 n2.length cp2, n2)]) := (z47 [(.slice ad2 n2.length cp2, n2)] _ rfl A2.out.1.ltB A2.out.1.ltG (fun x hx => by simp at hx; rcases hx with rfl; exact N2.out.1))
         have A3 := hid (A2.out.alloc (.cells #[.slice ad2 n2.length cp2] 53))
         have G3 := hid ((Grew.refl d X2).alloc (.cells #[.slice ad2 n2.length cp2] 53))
         refine z29 (i := 23) (v := .slice (some ⟨X2.heap.size, 0, none⟩) 1 1) (w1 := X2.alloc (.cells #[.slice ad2 n2.length cp2] 53)) rfl (by kernel_rfl) rfl rfl (by simp [go_sem]) ⟨A3.out.1.c1, (((G1.out.trans (G2.out.trans G3.out)).cell (p := ⟨be, oe + kk * 3, none⟩) HQ.out.1).trans c0), (((G1.out.trans (G2.out.trans G3.out)).cell (p := ⟨be, oe + kk * 3 + 1, none⟩) HQ.out.1).trans c1)⟩ (by simp [go_sem]; exact rfl) ?_
         generalize X2.alloc (.cells #[.slice ad2 n2.length cp2] 53) = X3 at *
         refine z27 (i := 24) (f := 56) (args := #[.agg #[.int .i64 22, .int .i64 0, .string xn, .string ⟨#[]⟩, .string ⟨#[]⟩, .int .i64 0], .slice (some ⟨X2.heap.size, 0, none⟩) 1 1]) rfl (by kernel_rfl) rfl rfl (by simp [go_sem]) ?_
         refine (A3.out.put_kids 22 0 0 xn ⟨#[]⟩ ⟨#[]⟩ KV.out ⟨HQ.out.2, z14, z14⟩ (by simp) (by have := A3.out.bound HF.out (by omega) (by decide); have := N2.out.2; simp [flatL]; omega)).mono ?_
         rintro e X4 ⟨v4, n4, rfl, hn4, hl4, ha, hg⟩
         have A4 := hid ha
         have G4 := hid hg
         clear ha hg
         have N4 := hid (And.intro hn4 hl4)
         obtain ⟨ad4, cp4, rfl⟩ := hn4.is
         clear hn4 hl4
         refine ⟨_, rfl, ⟨A4.out.1.c1, (((G1.out.trans (G2.out.trans (G3.out.trans G4.out))).cell (p := ⟨be, oe + kk * 3, none⟩) HQ.out.1).trans c0), (((G1.out.trans (G2.out.trans (G3.out.trans G4.out))).cell (p := ⟨be, oe + kk * 3 + 1, none⟩) HQ.out.1).trans c1)⟩, ?_⟩
         refine z15 (by simp [go_sem]; exact rfl) ?_
         refine pick_o 25 (.slice ad4 n4.length cp4) ⟨A4.out.1.c1, (((G1.out.trans (G2.out.trans (G3.out.trans G4.out))).cell (p := ⟨be, oe + kk * 3, none⟩) HQ.out.1).trans c0), (((G1.out.trans (G2.out.trans (G3.out.trans G4.out))).cell (p := ⟨be, oe + kk * 3 + 1, none⟩) HQ.out.1).trans c1)⟩ ?_
         refine z32 (by kernel_rfl) ?_
         go_wp2_with fail
         go_ret
         exact A4.out.done0 5 N4.out.1 (by have := N4.out.2; have := N2.out.2; simp [flatL] at *; omega) (by omega)
       · have hty' : (xr == ty) = false := by simpa using hty
         clear hty
         go_wp2_with fail
         rw [z31 (by have := HL.out.1; omega)]
         exact ⟨⟨i' + 1, rfl, by omega, by first | rfl | trivial⟩, hstep⟩
   · go_wp2_with fail
     go_ret
     exact none_post AX.out (by omega)
end
section
open Go.RowKit Go.Deep
set_option maxHeartbeats 8000000 in
set_option maxRecDepth 100000 in
theorem loop_calls {d : Dr} {ve v vm : Value} {es : List Ef} {W : World} {s : Cn} {ks : List Kn} {ms : List Bool} {D : Nat} (deep : Int) (hO : OfC d ve es D) (h1 : deep ≤ D) (h2 : -90 ≤ deep) (h3 : D ≤ 100) (h : Gen d ve W s) (hf : Fit s 60) (hE : Env d ve es W v ks vm ms (D + 1)) :
   Calls Tryz.prog 86 #[.pointer (some ⟨d.G, 0, none⟩), v, vm, .int .i64 deep] W (NodesPost d ve W s 60) := by
 have HF := hid hf
 have HO := hid hO
 have A0 := hid (At.start h)
 have HE := hid hE
 have HD := hid (And.intro h1 (And.intro h2 h3))
 have hdu : deep ≤ 1000 := by omega
 obtain ⟨ad, cp, rfl⟩ := hE.know.is
 obtain ⟨adm, cpm, rfl⟩ := hE.may.is
 clear hO h1 h3 h hf hE
 go_enter Tryz.func86, Tryz.ntmps86
 go_wp2_with fail
 refine (A0.out.name HF.out (by omega)).mono ?_
 rintro e X1 ⟨x1, s1, rfl, hb1, ha, hg⟩
 have A1 := hid ha
 have G1 := hid hg
 clear ha hg
 have B1 := hid hb1
 clear hb1
 go_wp2_with fail
 refine (A1.out.name HF.out (by omega)).mono ?_
 rintro e X2 ⟨x2, s2, rfl, hb2, ha, hg⟩
 have A2 := hid ha
 have G2 := hid hg
 clear ha hg
 have B2 := hid hb2
 clear hb2
 have N3 := hid (And.intro (nd_lit_at (d := d) X2 ⟨5, 0, x2, ByteArray.empty, ByteArray.empty, 0⟩ (X2.heap.size) (by simp) A2.out.1.ltB A2.out.1.ltG ⟨B2.out, z14, z14⟩) (show [(⟨5, 0, x2, ByteArray.empty, ByteArray.empty, 0⟩ : Nd)].length = 1 from rfl))
 have A3 := hid (A2.out.alloc (.cells #[.int .i64 5, .int .i64 0, .string x2, .string ByteArray.empty, .string ByteArray.empty, .int .i64 0] 116))
 have G3 := hid ((Grew.refl d X2).alloc (.cells #[.int .i64 5, .int .i64 0, .string x2, .string ByteArray.empty, .string ByteArray.empty, .int .i64 0] 116))
 have N4 := hid (And.intro (nd_lit_at (d := d) (X2.alloc (.cells #[.int .i64 5, .int .i64 0, .string x2, .string ByteArray.empty, .string ByteArray.empty, .int .i64 0] 116)) ⟨5, 0, x1, ByteArray.empty, ByteArray.empty, 0⟩ (X2.heap.size + 1) (by simp) A3.out.1.ltB A3.out.1.ltG ⟨B1.out, z14, z14⟩) (show [(⟨5, 0, x1, ByteArray.empty, ByteArray.empty, 0⟩ : Nd)].length = 1 from rfl))
 have A4 := hid (A3.out.alloc (.cells #[.int .i64 5, .int .i64 0, .string x1, .string ByteArray.empty, .string ByteArray.empty, .int .i64 0] 116))
 have G4 := hid ((Grew.refl d (X2.alloc (.cells #[.int .i64 5, .int .i64 0, .string x2, .string ByteArray.empty, .string ByteArray.empty, .int .i64 0] 116))).alloc (.cells #[.int .i64 5, .int .i64 0, .string x1, .string ByteArray.empty, .string ByteArray.empty, .int .i64 0] 116))
 go_wp2_with fail
 refine (A4.out.node 1 1).mono ?_
 rintro e X5 ⟨v5, n5, rfl, hn5, hl5, ha, hg⟩
 have A5 := hid ha
 have G5 := hid hg
 clear ha hg
 have N5 := hid (And.intro hn5 hl5)
 obtain ⟨ad5, cp5, rfl⟩ := hn5.is
 clear hn5 hl5
 go_wp2_with fail
 refine (A5.out.put2 12 0 0 ByteArray.empty ByteArray.empty ByteArray.empty (N3.out.1.grew (G4.out.trans G5.out)) N5.out.1 ⟨z14, z14, z14⟩ (by have := A5.out.bound HF.out (by omega) (by decide); have := N3.out.2; have := N5.out.2; omega)).mono ?_
 rintro e X6 ⟨v6, n6, rfl, hn6, hl6, ha, hg⟩
 have A6 := hid ha
 have G6 := hid hg
 clear ha hg
 have N6 := hid (And.intro hn6 hl6)
 obtain ⟨ad6, cp6, rfl⟩ := hn6.is
 clear hn6 hl6
 go_wp2_with fail
 refine (A6.out.put2 7 0 0 ByteArray.empty ByteArray.empty ByteArray.empty (N4.out.1.grew (G5.out.trans G6.out)) N6.out.1 ⟨z14, z14, z14⟩ (by have := A6.out.bound HF.out (by omega) (by decide); have := N4.out.2; have := N6.out.2; have := N3.out.2; have := N5.out.2; omega)).mono ?_
 rintro e X7 ⟨v7, n7, rfl, hn7, hl7, ha, hg⟩
 have A7 := hid ha
 have G7 := hid hg
 clear ha hg
 have N7 := hid (And.intro hn7 hl7)
 obtain ⟨ad7, cp7, rfl⟩ := hn7.is
 clear hn7 hl7
 go_wp2_with fail
 refine (A7.out.add x2 1 0 (HE.out.grew (G1.out.trans (G2.out.trans (G3.out.trans (G4.out.trans (G5.out.trans (G6.out.trans G7.out))))))).know B2.out (by have := HE.out.room; omega)).mono ?_
 rintro e X8 ⟨u8, ks8, rfl, hk8, hkl8, ha, hg⟩
 have A8 := hid ha
 have G8 := hid hg
 clear ha hg
 have K8 := hid (And.intro hk8 hkl8)
 obtain ⟨ad8, cp8, rfl⟩ := hk8.is
 clear hk8 hkl8
 go_wp2_with fail
 refine (A8.out.node 1 1).mono ?_
 rintro e X9 ⟨v9, n9, rfl, hn9, hl9, ha, hg⟩
 have A9 := hid ha
 have G9 := hid hg
 clear ha hg
 have N9 := hid (And.intro hn9 hl9)
 obtain ⟨ad9, cp9, rfl⟩ := hn9.is
 clear hn9 hl9
 go_wp2_with fail
 refine (A9.out.put2 15 0 0 ByteArray.empty ByteArray.empty ByteArray.empty (N3.out.1.grew (G4.out.trans (G5.out.trans (G6.out.trans (G7.out.trans (G8.out.trans G9.out)))))) N9.out.1 ⟨z14, z14, z14⟩ (by have := A9.out.bound HF.out (by omega) (by decide); have := N3.out.2; have := N9.out.2; omega)).mono ?_
 rintro e X10 ⟨v10, n10, rfl, hn10, hl10, ha, hg⟩
 have A10 := hid ha
 have G10 := hid hg
 clear ha hg
 have N10 := hid (And.intro hn10 hl10)
 obtain ⟨ad10, cp10, rfl⟩ := hn10.is
 clear hn10 hl10
 go_wp2_with fail
 refine (A10.out.nodes (leaf_calls 1 A10.out.1 (A10.out.fit HF.out 10 (by omega)) (K8.out.1.grew (G9.out.trans G10.out)) (by have := HE.out.room; have := K8.out.2; omega))).mono ?_
 rintro e X11 ⟨v11, n11, s11, t11, rfl, hn11, hl11, ha, hg⟩
 have A11 := hid ha
 have G11 := hid hg
 clear ha hg
 have N11 := hid (And.intro hn11 hl11)
 obtain ⟨ad11, cp11, rfl⟩ := hn11.is
 clear hn11 hl11
 go_wp2_with fail
 refine (A11.out.nodes (HO.out (deep - 2) 1 _ _ _ _ _ _ (by have := HD.out; omega) (by have := HD.out; omega) (A11.out.fit HF.out 10 (by omega)) A11.out.1 ((HE.out.grew (G1.out.trans (G2.out.trans (G3.out.trans (G4.out.trans (G5.out.trans (G6.out.trans (G7.out.trans (G8.out.trans (G9.out.trans (G10.out.trans G11.out))))))))))).with (K8.out.1.grew (G9.out.trans (G10.out.trans G11.out))) (by have := K8.out.2; omega)))).mono ?_
 rintro e X12 ⟨v12, n12, s12, t12, rfl, hn12, hl12, ha, hg⟩
 have A12 := hid ha
 have G12 := hid hg
 clear ha hg
 have N12 := hid (And.intro hn12 hl12)
 obtain ⟨ad12, cp12, rfl⟩ := hn12.is
 clear hn12 hl12
 go_wp2_with fail
 refine (A12.out.put2 11 0 0 ByteArray.empty ByteArray.empty ByteArray.empty N12.out.1 (N7.out.1.grew (G8.out.trans (G9.out.trans (G10.out.trans (G11.out.trans G12.out))))) ⟨z14, z14, z14⟩ (by have := A12.out.bound HF.out (by omega) (by decide); have := N12.out.2; have := N7.out.2; have := N4.out.2; have := N6.out.2; have := N3.out.2; have := N5.out.2; omega)).mono ?_
 rintro e X13 ⟨v13, n13, rfl, hn13, hl13, ha, hg⟩
 have A13 := hid ha
 have G13 := hid hg
 clear ha hg
 have N13 := hid (And.intro hn13 hl13)
 obtain ⟨ad13, cp13, rfl⟩ := hn13.is
 clear hn13 hl13
 go_wp2_with fail
 refine (A13.out.put3 10 0 0 ByteArray.empty ByteArray.empty ByteArray.empty (N10.out.1.grew (G11.out.trans (G12.out.trans G13.out))) (N11.out.1.grew (G12.out.trans G13.out)) N13.out.1 ⟨z14, z14, z14⟩ (by have := A13.out.bound HF.out (by omega) (by decide); have := N10.out.2; have := N3.out.2; have := N9.out.2; have := N11.out.2; have := N13.out.2; have := N12.out.2; have := N7.out.2; have := N4.out.2; have := N6.out.2; have := N3.out.2; have := N5.out.2; omega)).mono ?_
 rintro e X14 ⟨v14, n14, rfl, hn14, hl14, ha, hg⟩
 have A14 := hid ha
 have G14 := hid hg
 clear ha hg
 have N14 := hid (And.intro hn14 hl14)
 obtain ⟨ad14, cp14, rfl⟩ := hn14.is
 clear hn14 hl14
 have N15 := hid (And.intro (nd_lit_at (d := d) X14 ⟨5, 0, x1, ByteArray.empty, ByteArray.empty, 0⟩ (X14.heap.size) (by simp) A14.out.1.ltB A14.out.1.ltG ⟨B1.out, z14, z14⟩) (show [(⟨5, 0, x1, ByteArray.empty, ByteArray.empty, 0⟩ : Nd)].length = 1 from rfl))
 have A15 := hid (A14.out.alloc (.cells #[.int .i64 5, .int .i64 0, .string x1, .string ByteArray.empty, .string ByteArray.empty, .int .i64 0] 116))
 have G15 := hid ((Grew.refl d X14).alloc (.cells #[.int .i64 5, .int .i64 0, .string x1, .string ByteArray.empty, .string ByteArray.empty, .int .i64 0] 116))
 have g0 : (X14.alloc (.cells #[.int .i64 5, .int .i64 0, .string x1, .string ⟨#[]⟩, .string ⟨#[]⟩, .int .i64 0] 116)).cell? ⟨d.G, 0, none⟩ = some (.pointer (some ⟨d.B, 0, none⟩)) := A15.out.1.c0
 go_wp2_with fail
 refine (A15.out.pick HF.out (by omega) 12 (by decide)).mono ?_
 rintro e X16 ⟨m16, s16, rfl, hm16, hM16, ha, hg⟩
 have A16 := hid ha
 have G16 := hid hg
 clear ha hg
 clear g0
 go_wp2_with fail
 refine (A16.out.node 1 m16).mono ?_
 rintro e X17 ⟨v17, n17, rfl, hn17, hl17, ha, hg⟩
 have A17 := hid ha
 have G17 := hid hg
 clear ha hg
 have N17 := hid (And.intro hn17 hl17)
 obtain ⟨ad17, cp17, rfl⟩ := hn17.is
 clear hn17 hl17
 go_wp2_with fail
 refine (A17.out.put2 7 0 0 ByteArray.empty ByteArray.empty ByteArray.empty (N15.out.1.grew (G16.out.trans G17.out)) N17.out.1 ⟨z14, z14, z14⟩ (by have := A17.out.bound HF.out (by omega) (by decide); have := N15.out.2; have := N17.out.2; omega)).mono ?_
 rintro e X18 ⟨v18, n18, rfl, hn18, hl18, ha, hg⟩
 have A18 := hid ha
 have G18 := hid hg
 clear ha hg
 have N18 := hid (And.intro hn18 hl18)
 obtain ⟨ad18, cp18, rfl⟩ := hn18.is
 clear hn18 hl18
 go_wp2_with fail
 refine (A18.out.put2 9 0 0 x1 x2 ByteArray.empty (N14.out.1.grew (G15.out.trans (G16.out.trans (G17.out.trans G18.out)))) N18.out.1 ⟨B1.out, B2.out, z14⟩ (by have := A18.out.bound HF.out (by omega) (by decide); have := N14.out.2; have := N10.out.2; have := N3.out.2; have := N9.out.2; have := N11.out.2; have := N13.out.2; have := N12.out.2; have := N7.out.2; have := N4.out.2; have := N6.out.2; have := N3.out.2; have := N5.out.2; have := N18.out.2; have := N15.out.2; have := N17.out.2; omega)).mono ?_
 rintro e X19 ⟨v19, n19, rfl, hn19, hl19, ha, hg⟩
 have A19 := hid ha
 have G19 := hid hg
 clear ha hg
 have N19 := hid (And.intro hn19 hl19)
 obtain ⟨ad19, cp19, rfl⟩ := hn19.is
 clear hn19 hl19
 go_wp2_with fail
 go_ret
 exact A19.out.done 30 N19.out.1 (by have := N19.out.2; have := N14.out.2; have := N10.out.2; have := N3.out.2; have := N9.out.2; have := N11.out.2; have := N13.out.2; have := N12.out.2; have := N7.out.2; have := N4.out.2; have := N6.out.2; have := N3.out.2; have := N5.out.2; have := N18.out.2; have := N15.out.2; have := N17.out.2; omega) (by omega)
end
section
open Go.RowKit Go.Deep
set_option maxHeartbeats 8000000 in
set_option maxRecDepth 100000 in
theorem own2 {d : Dr} {ve v vm : Value} {es : List Ef} {W : World} {s : Cn} {ks : List Kn} {ms : List Bool} {D : Nat} (ty : Int) (ht : ty = 2) (deep : Int) (hO : OfC d ve es D) (h1 : deep ≤ D) (h2 : -90 ≤ deep) (h3 : D ≤ 100) (h : Gen d ve W s) (hf : Fit s 100) (hE : Env d ve es W v ks vm ms (D + 1)) :
   Calls Tryz.prog 62 #[.pointer (some ⟨d.G, 0, none⟩), .int .i64 ty, v, vm, .int .i64 deep] W (NodesPost d ve W s 100) := by
 have HF := hid hf
 have HO := hid hO
 have A0 := hid (At.start h)
 have HE := hid hE
 have HD := hid (And.intro h1 (And.intro h2 h3))
 have hdu : deep ≤ 1000 := by omega
 obtain ⟨ad, cp, rfl⟩ := hE.know.is
 obtain ⟨adm, cpm, rfl⟩ := hE.may.is
 clear hO h1 h3 h hf hE
 subst ht
 go_enter Tryz.func62, Tryz.ntmps62
 go_upto_region 12 with fail
 refine z33 (S := fun w' => w'.cell? ⟨d.G, 0, none⟩ = some (.pointer (some ⟨d.B, 0, none⟩))) (by kernel_rfl) rfl rfl ?_
 have A1 := hid A0.out.drew
 have G1 := hid (Grew.refl d W).drew
 have hXD : W.drew = W.drew := rfl
 generalize W.drew = X1 at *
 clear hXD
 refine pick_o 1 (.pointer (some ⟨d.G, 0, none⟩)) (A1.out.1.c0) ?_
 refine pick_o 2 (.pointer (some ⟨d.G, 0, none⟩)) (A1.out.1.c0) ?_
 refine pick_o 3 (.pointer (some ⟨d.G, 0, none⟩)) (A1.out.1.c0) ?_
 refine pick_o (hy := fun w' hw => by simp [go_sem, hw]) 4 (.pointer (some ⟨d.B, 0, none⟩)) (A1.out.1.c0) ?_
 refine pick_o 9 (.pointer (some ⟨d.G, 0, none⟩)) (A1.out.1.c0) ?_
 refine pick_o 10 (.slice ad ks.length cp) (A1.out.1.c0) ?_
 refine pick_o 11 (.slice adm ms.length cpm) (A1.out.1.c0) ?_
 refine pick_o 12 (.int .i64 deep) (A1.out.1.c0) ?_
 refine pick_o 14 (.pointer (some ⟨d.G, 0, none⟩)) (A1.out.1.c0) ?_
 refine pick_o 15 (.slice ad ks.length cp) (A1.out.1.c0) ?_
 refine pick_o 16 (.slice adm ms.length cpm) (A1.out.1.c0) ?_
 refine pick_o 17 (.int .i64 deep) (A1.out.1.c0) ?_
 refine z46 (i := 0) (j := 5) (by kernel_rfl) ?_ ?_
 · have RB := hid (MapKept.heap_alloc X1 (.cells #[.int .i64 14, .int .i64 15] 3)).1
   have HQ := hid (And.intro A1.out.1.ltB A1.out.1.ltG)
   have A2 := hid (A1.out.alloc (.cells #[.int .i64 14, .int .i64 15] 3))
   have G2 := hid ((Grew.refl d X1).alloc (.cells #[.int .i64 14, .int .i64 15] 3))
   refine ⟨_, .slice (some ⟨X1.heap.size, 0, none⟩) 2 2, X1.alloc (.cells #[.int .i64 14, .int .i64 15] 3), rfl, rfl, by simp [go_sem], A2.out.1.c0, ?_⟩
   refine z15 (by simp [go_sem]; exact rfl) ?_
   generalize X1.alloc (.cells #[.int .i64 14, .int .i64 15] 3) = X2 at *
   obtain ⟨q, hq⟩ : ∃ q, X1.heap.size = q := ⟨_, rfl⟩
   rw [hq] at RB HQ ⊢
   clear hq
   refine z27 (i := 5) (f := 16) (args := #[.pointer (some ⟨d.B, 0, none⟩), .int .i64 2]) rfl (by kernel_rfl) rfl rfl (by simp [go_sem]) ?_
   refine (A2.out.pick HF.out (by omega) 2 (by decide)).mono ?_
   rintro e X3 ⟨m3, s3, rfl, hm3, hM3, ha, hg⟩
   have A3 := hid ha
   have G3 := hid hg
   clear ha hg
   refine ⟨_, rfl, (A3.out.1.c0), ?_⟩
   refine z15 (by simp [go_sem]; exact rfl) ?_
   obtain ⟨kv, hkv⟩ := two_get 14 15 m3 hm3 hM3
   have cq := (z11 ((G3.out.block q ⟨z26 RB.out, (show q ≠ d.B by have := HQ.out.1; omega), (show q ≠ d.G by have := HQ.out.2; omega)⟩).trans RB.out) m3.toNat).trans hkv
   have RBn := hid ((G3.out.block q ⟨z26 RB.out, (show q ≠ d.B by have := HQ.out.1; omega), (show q ≠ d.G by have := HQ.out.2; omega)⟩).trans RB.out)
   clear hkv
   refine pick_o (hy := fun w' hw => by simp [go_sem, hm3, hM3]) 6 (.pointer (some ⟨q, m3.toNat, none⟩)) (A3.out.1.c0) ?_
   refine z54 (fun w' => w'.cell? ⟨d.G, 0, none⟩ = some (.pointer (some ⟨d.B, 0, none⟩)) ∧ w'.cell? ⟨q, m3.toNat, none⟩ = some (.int .i64 kv)) (fun w h => h.1) ?_
   refine pick_o (hy := fun w' hw => by simp [go_sem, hw.2]) 7 (.int .i64 kv) ⟨A3.out.1.c0, cq⟩ ?_
   refine pick_o 8 (.agg #[.int .i64 kv, .int .i64 0, .string ⟨#[]⟩, .string ⟨#[]⟩, .string ⟨#[]⟩, .int .i64 0]) ⟨A3.out.1.c0, cq⟩ ?_
   refine z27 (i := 13) (f := 30) (args := #[.pointer (some ⟨d.G, 0, none⟩), .int .i64 1, .slice ad ks.length cp, .slice adm ms.length cpm, .int .i64 deep]) rfl (by kernel_rfl) rfl rfl (by simp [go_sem]) ?_
   refine (A3.out.nodes (HO.out deep 1 _ _ _ _ _ _ (by have := HD.out; omega) (by have := HD.out; omega) (A3.out.fit HF.out 10 (by omega)) A3.out.1 (HE.out.grew (G1.out.trans (G2.out.trans G3.out))).down)).mono ?_
   rintro e X4 ⟨v4, n4, s4, t4, rfl, hn4, hl4, ha, hg⟩
   have A4 := hid ha
   have G4 := hid hg
   clear ha hg
   have N4 := hid (And.intro hn4 hl4)
   obtain ⟨ad4, cp4, rfl⟩ := hn4.is
   clear hn4 hl4
   have cq5 := (G4.out.cell (p := ⟨q, m3.toNat, none⟩) ⟨z26 RBn.out, (show q ≠ d.B by have := HQ.out.1; omega), (show q ≠ d.G by have := HQ.out.2; omega)⟩).trans cq
   refine ⟨_, rfl, ⟨A4.out.1.c0, cq5⟩, ?_⟩
   refine z15 (by simp [go_sem]; exact rfl) ?_
   refine z27 (i := 18) (f := 30) (args := #[.pointer (some ⟨d.G, 0, none⟩), .int .i64 1, .slice ad ks.length cp, .slice adm ms.length cpm, .int .i64 deep]) rfl (by kernel_rfl) rfl rfl (by simp [go_sem]) ?_
   refine (A4.out.nodes (HO.out deep 1 _ _ _ _ _ _ (by have := HD.out; omega) (by have := HD.out; omega) (A4.out.fit HF.out 10 (by omega)) A4.out.1 (HE.out.grew (G1.out.trans (G2.out.trans (G3.out.trans G4.out)))).down)).mono ?_
   rintro e X6 ⟨v6, n6, s6, t6, rfl, hn6, hl6, ha, hg⟩
   have A6 := hid ha
   have G6 := hid hg
   clear ha hg
   have N6 := hid (And.intro hn6 hl6)
   obtain ⟨ad6, cp6, rfl⟩ := hn6.is
   clear hn6 hl6
   have cq7 := ((G4.out.trans G6.out).cell (p := ⟨q, m3.toNat, none⟩) ⟨z26 RBn.out, (show q ≠ d.B by have := HQ.out.1; omega), (show q ≠ d.G by have := HQ.out.2; omega)⟩).trans cq
   refine ⟨_, rfl, ⟨A6.out.1.c0, cq7⟩, ?_⟩
   refine z15 (by simp [go_sem]; exact rfl) ?_
   have KV : Hid (KidsV d (X6.alloc (.cells #[.slice ad4 n4.length cp4, .slice ad6 n6.length cp6] 53)) (.slice (some ⟨X6.heap.size, 0, none⟩) 2 2) [(.slice ad4 n4.length cp4, n4), (.slice ad6 n6.length cp6, n6)]) := (z47 [(.slice ad4 n4.length cp4, n4), (.slice ad6 n6.length cp6, n6)] _ rfl A6.out.1.ltB A6.out.1.ltG (fun x hx => by simp at hx; rcases hx with rfl | rfl; exact (N4.out.1.grew G6.out); exact N6.out.1))
   have A8 := hid (A6.out.alloc (.cells #[.slice ad4 n4.length cp4, .slice ad6 n6.length cp6] 53))
   have G8 := hid ((Grew.refl d X6).alloc (.cells #[.slice ad4 n4.length cp4, .slice ad6 n6.length cp6] 53))
   have cq9 := ((G4.out.trans (G6.out.trans G8.out)).cell (p := ⟨q, m3.toNat, none⟩) ⟨z26 RBn.out, (show q ≠ d.B by have := HQ.out.1; omega), (show q ≠ d.G by have := HQ.out.2; omega)⟩).trans cq
   refine z29 (i := 19) (v := .slice (some ⟨X6.heap.size, 0, none⟩) 2 2) (w1 := X6.alloc (.cells #[.slice ad4 n4.length cp4, .slice ad6 n6.length cp6] 53)) rfl (by kernel_rfl) rfl rfl (by simp [go_sem]) ⟨A8.out.1.c0, cq9⟩ (by simp [go_sem]; exact rfl) ?_
   generalize X6.alloc (.cells #[.slice ad4 n4.length cp4, .slice ad6 n6.length cp6] 53) = X8 at *
   refine z27 (i := 20) (f := 56) (args := #[.agg #[.int .i64 kv, .int .i64 0, .string ⟨#[]⟩, .string ⟨#[]⟩, .string ⟨#[]⟩, .int .i64 0], .slice (some ⟨X6.heap.size, 0, none⟩) 2 2]) rfl (by kernel_rfl) rfl rfl (by simp [go_sem]) ?_
   refine (A8.out.put_kids kv 0 0 ⟨#[]⟩ ⟨#[]⟩ ⟨#[]⟩ KV.out ⟨z14, z14, z14⟩ (by simp) (by have := A8.out.bound HF.out (by omega) (by decide); have := N4.out.2; have := N6.out.2; simp [flatL]; omega)).mono ?_
   rintro e X10 ⟨v10, n10, rfl, hn10, hl10, ha, hg⟩
   have A10 := hid ha
   have G10 := hid hg
   clear ha hg
   have N10 := hid (And.intro hn10 hl10)
   clear hn10 hl10
   have cq11 := ((G4.out.trans (G6.out.trans (G8.out.trans G10.out))).cell (p := ⟨q, m3.toNat, none⟩) ⟨z26 RBn.out, (show q ≠ d.B by have := HQ.out.1; omega), (show q ≠ d.G by have := HQ.out.2; omega)⟩).trans cq
   refine ⟨_, rfl, ⟨A10.out.1.c0, cq11⟩, ?_⟩
   refine z15 (by simp [go_sem]; exact rfl) ?_
   refine pick_o 21 v10 ⟨A10.out.1.c0, cq11⟩ ?_
   refine z32 (by kernel_rfl) ?_
   go_wp2_with fail
   go_ret
   exact A10.out.done 1 N10.out.1 (by have := N10.out.2; have := N4.out.2; have := N6.out.2; simp [flatL] at *; omega) (by omega)
 · refine ⟨_, 16, #[.pointer (some ⟨d.B, 0, none⟩), .int .i64 2], rfl, rfl, by simp [go_sem], ?_⟩
   refine (A1.out.pick HF.out (by omega) 2 (by decide)).mono ?_
   rintro e X2 ⟨m2, s2, rfl, hm2, hM2, ha, hg⟩
   have A2 := hid ha
   have G2 := hid hg
   clear ha hg
   refine ⟨_, rfl, (A2.out.1.c0), ?_⟩
   refine z15 (by simp [go_sem]; exact rfl) ?_
   refine z46 (i := 0) (j := 13) (by kernel_rfl) ?_ ?_
   · have RB := hid (MapKept.heap_alloc X2 (.cells #[.int .i64 14, .int .i64 15] 3)).1
     have HQ := hid (And.intro A2.out.1.ltB A2.out.1.ltG)
     have A3 := hid (A2.out.alloc (.cells #[.int .i64 14, .int .i64 15] 3))
     have G3 := hid ((Grew.refl d X2).alloc (.cells #[.int .i64 14, .int .i64 15] 3))
     refine ⟨_, .slice (some ⟨X2.heap.size, 0, none⟩) 2 2, X2.alloc (.cells #[.int .i64 14, .int .i64 15] 3), rfl, rfl, by simp [go_sem], A3.out.1.c0, ?_⟩
     refine z15 (by simp [go_sem]; exact rfl) ?_
     generalize X2.alloc (.cells #[.int .i64 14, .int .i64 15] 3) = X3 at *
     obtain ⟨q, hq⟩ : ∃ q, X2.heap.size = q := ⟨_, rfl⟩
     rw [hq] at RB HQ ⊢
     clear hq
     obtain ⟨kv, hkv⟩ := two_get 14 15 m2 hm2 hM2
     have cq := (z11 RB.out m2.toNat).trans hkv
     have RBn := hid RB.out
     clear hkv
     refine pick_o (hy := fun w' hw => by simp [go_sem, hm2, hM2]) 6 (.pointer (some ⟨q, m2.toNat, none⟩)) (A3.out.1.c0) ?_
     refine z54 (fun w' => w'.cell? ⟨d.G, 0, none⟩ = some (.pointer (some ⟨d.B, 0, none⟩)) ∧ w'.cell? ⟨q, m2.toNat, none⟩ = some (.int .i64 kv)) (fun w h => h.1) ?_
     refine pick_o (hy := fun w' hw => by simp [go_sem, hw.2]) 7 (.int .i64 kv) ⟨A3.out.1.c0, cq⟩ ?_
     refine pick_o 8 (.agg #[.int .i64 kv, .int .i64 0, .string ⟨#[]⟩, .string ⟨#[]⟩, .string ⟨#[]⟩, .int .i64 0]) ⟨A3.out.1.c0, cq⟩ ?_
     refine z27 (i := 13) (f := 30) (args := #[.pointer (some ⟨d.G, 0, none⟩), .int .i64 1, .slice ad ks.length cp, .slice adm ms.length cpm, .int .i64 deep]) rfl (by kernel_rfl) rfl rfl (by simp [go_sem]) ?_
     refine (A3.out.nodes (HO.out deep 1 _ _ _ _ _ _ (by have := HD.out; omega) (by have := HD.out; omega) (A3.out.fit HF.out 10 (by omega)) A3.out.1 (HE.out.grew (G1.out.trans (G2.out.trans G3.out))).down)).mono ?_
     rintro e X4 ⟨v4, n4, s4, t4, rfl, hn4, hl4, ha, hg⟩
     have A4 := hid ha
     have G4 := hid hg
     clear ha hg
     have N4 := hid (And.intro hn4 hl4)
     obtain ⟨ad4, cp4, rfl⟩ := hn4.is
     clear hn4 hl4
     have cq5 := (G4.out.cell (p := ⟨q, m2.toNat, none⟩) ⟨z26 RBn.out, (show q ≠ d.B by have := HQ.out.1; omega), (show q ≠ d.G by have := HQ.out.2; omega)⟩).trans cq
     refine ⟨_, rfl, ⟨A4.out.1.c0, cq5⟩, ?_⟩
     refine z15 (by simp [go_sem]; exact rfl) ?_
     refine z27 (i := 18) (f := 30) (args := #[.pointer (some ⟨d.G, 0, none⟩), .int .i64 1, .slice ad ks.length cp, .slice adm ms.length cpm, .int .i64 deep]) rfl (by kernel_rfl) rfl rfl (by simp [go_sem]) ?_
     refine (A4.out.nodes (HO.out deep 1 _ _ _ _ _ _ (by have := HD.out; omega) (by have := HD.out; omega) (A4.out.fit HF.out 10 (by omega)) A4.out.1 (HE.out.grew (G1.out.trans (G2.out.trans (G3.out.trans G4.out)))).down)).mono ?_
     rintro e X6 ⟨v6, n6, s6, t6, rfl, hn6, hl6, ha, hg⟩
     have A6 := hid ha
     have G6 := hid hg
     clear ha hg
     have N6 := hid (And.intro hn6 hl6)
     obtain ⟨ad6, cp6, rfl⟩ := hn6.is
     clear hn6 hl6
     have cq7 := ((G4.out.trans G6.out).cell (p := ⟨q, m2.toNat, none⟩) ⟨z26 RBn.out, (show q ≠ d.B by have := HQ.out.1; omega), (show q ≠ d.G by have := HQ.out.2; omega)⟩).trans cq
     refine ⟨_, rfl, ⟨A6.out.1.c0, cq7⟩, ?_⟩
     refine z15 (by simp [go_sem]; exact rfl) ?_
     have KV : Hid (KidsV d (X6.alloc (.cells #[.slice ad4 n4.length cp4, .slice ad6 n6.length cp6] 53)) (.slice (some ⟨X6.heap.size, 0, none⟩) 2 2) [(.slice ad4 n4.length cp4, n4), (.slice ad6 n6.length cp6, n6)]) := (z47 [(.slice ad4 n4.length cp4, n4), (.slice ad6 n6.length cp6, n6)] _ rfl A6.out.1.ltB A6.out.1.ltG (fun x hx => by simp at hx; rcases hx with rfl | rfl; exact (N4.out.1.grew G6.out); exact N6.out.1))
     have A8 := hid (A6.out.alloc (.cells #[.slice ad4 n4.length cp4, .slice ad6 n6.length cp6] 53))
     have G8 := hid ((Grew.refl d X6).alloc (.cells #[.slice ad4 n4.length cp4, .slice ad6 n6.length cp6] 53))
     have cq9 := ((G4.out.trans (G6.out.trans G8.out)).cell (p := ⟨q, m2.toNat, none⟩) ⟨z26 RBn.out, (show q ≠ d.B by have := HQ.out.1; omega), (show q ≠ d.G by have := HQ.out.2; omega)⟩).trans cq
     refine z29 (i := 19) (v := .slice (some ⟨X6.heap.size, 0, none⟩) 2 2) (w1 := X6.alloc (.cells #[.slice ad4 n4.length cp4, .slice ad6 n6.length cp6] 53)) rfl (by kernel_rfl) rfl rfl (by simp [go_sem]) ⟨A8.out.1.c0, cq9⟩ (by simp [go_sem]; exact rfl) ?_
     generalize X6.alloc (.cells #[.slice ad4 n4.length cp4, .slice ad6 n6.length cp6] 53) = X8 at *
     refine z27 (i := 20) (f := 56) (args := #[.agg #[.int .i64 kv, .int .i64 0, .string ⟨#[]⟩, .string ⟨#[]⟩, .string ⟨#[]⟩, .int .i64 0], .slice (some ⟨X6.heap.size, 0, none⟩) 2 2]) rfl (by kernel_rfl) rfl rfl (by simp [go_sem]) ?_
     refine (A8.out.put_kids kv 0 0 ⟨#[]⟩ ⟨#[]⟩ ⟨#[]⟩ KV.out ⟨z14, z14, z14⟩ (by simp) (by have := A8.out.bound HF.out (by omega) (by decide); have := N4.out.2; have := N6.out.2; simp [flatL]; omega)).mono ?_
     rintro e X10 ⟨v10, n10, rfl, hn10, hl10, ha, hg⟩
     have A10 := hid ha
     have G10 := hid hg
     clear ha hg
     have N10 := hid (And.intro hn10 hl10)
     clear hn10 hl10
     have cq11 := ((G4.out.trans (G6.out.trans (G8.out.trans G10.out))).cell (p := ⟨q, m2.toNat, none⟩) ⟨z26 RBn.out, (show q ≠ d.B by have := HQ.out.1; omega), (show q ≠ d.G by have := HQ.out.2; omega)⟩).trans cq
     refine ⟨_, rfl, ⟨A10.out.1.c0, cq11⟩, ?_⟩
     refine z15 (by simp [go_sem]; exact rfl) ?_
     refine pick_o 21 v10 ⟨A10.out.1.c0, cq11⟩ ?_
     refine z32 (by kernel_rfl) ?_
     go_wp2_with fail
     go_ret
     exact A10.out.done 1 N10.out.1 (by have := N10.out.2; have := N4.out.2; have := N6.out.2; simp [flatL] at *; omega) (by omega)
   · refine ⟨_, 30, #[.pointer (some ⟨d.G, 0, none⟩), .int .i64 1, .slice ad ks.length cp, .slice adm ms.length cpm, .int .i64 deep], rfl, rfl, by simp [go_sem], ?_⟩
     refine (A2.out.nodes (HO.out deep 1 _ _ _ _ _ _ (by have := HD.out; omega) (by have := HD.out; omega) (A2.out.fit HF.out 10 (by omega)) A2.out.1 (HE.out.grew (G1.out.trans G2.out)).down)).mono ?_
     rintro e X3 ⟨v3, n3, s3, t3, rfl, hn3, hl3, ha, hg⟩
     have A3 := hid ha
     have G3 := hid hg
     clear ha hg
     have N3 := hid (And.intro hn3 hl3)
     obtain ⟨ad3, cp3, rfl⟩ := hn3.is
     clear hn3 hl3
     refine ⟨_, rfl, (A3.out.1.c0), ?_⟩
     refine z15 (by simp [go_sem]; exact rfl) ?_
     refine z46 (i := 0) (j := 18) (by kernel_rfl) ?_ ?_
     · have RB := hid (MapKept.heap_alloc X3 (.cells #[.int .i64 14, .int .i64 15] 3)).1
       have HQ := hid (And.intro A3.out.1.ltB A3.out.1.ltG)
       have A4 := hid (A3.out.alloc (.cells #[.int .i64 14, .int .i64 15] 3))
       have G4 := hid ((Grew.refl d X3).alloc (.cells #[.int .i64 14, .int .i64 15] 3))
       refine ⟨_, .slice (some ⟨X3.heap.size, 0, none⟩) 2 2, X3.alloc (.cells #[.int .i64 14, .int .i64 15] 3), rfl, rfl, by simp [go_sem], A4.out.1.c0, ?_⟩
       refine z15 (by simp [go_sem]; exact rfl) ?_
       generalize X3.alloc (.cells #[.int .i64 14, .int .i64 15] 3) = X4 at *
       obtain ⟨q, hq⟩ : ∃ q, X3.heap.size = q := ⟨_, rfl⟩
       rw [hq] at RB HQ ⊢
       clear hq
       obtain ⟨kv, hkv⟩ := two_get 14 15 m2 hm2 hM2
       have cq := (z11 RB.out m2.toNat).trans hkv
       have RBn := hid RB.out
       clear hkv
       refine pick_o (hy := fun w' hw => by simp [go_sem, hm2, hM2]) 6 (.pointer (some ⟨q, m2.toNat, none⟩)) (A4.out.1.c0) ?_
       refine z54 (fun w' => w'.cell? ⟨d.G, 0, none⟩ = some (.pointer (some ⟨d.B, 0, none⟩)) ∧ w'.cell? ⟨q, m2.toNat, none⟩ = some (.int .i64 kv)) (fun w h => h.1) ?_
       refine pick_o (hy := fun w' hw => by simp [go_sem, hw.2]) 7 (.int .i64 kv) ⟨A4.out.1.c0, cq⟩ ?_
       refine pick_o 8 (.agg #[.int .i64 kv, .int .i64 0, .string ⟨#[]⟩, .string ⟨#[]⟩, .string ⟨#[]⟩, .int .i64 0]) ⟨A4.out.1.c0, cq⟩ ?_
       refine z27 (i := 18) (f := 30) (args := #[.pointer (some ⟨d.G, 0, none⟩), .int .i64 1, .slice ad ks.length cp, .slice adm ms.length cpm, .int .i64 deep]) rfl (by kernel_rfl) rfl rfl (by simp [go_sem]) ?_
       refine (A4.out.nodes (HO.out deep 1 _ _ _ _ _ _ (by have := HD.out; omega) (by have := HD.out; omega) (A4.out.fit HF.out 10 (by omega)) A4.out.1 (HE.out.grew (G1.out.trans (G2.out.trans (G3.out.trans G4.out)))).down)).mono ?_
       rintro e X5 ⟨v5, n5, s5, t5, rfl, hn5, hl5, ha, hg⟩
       have A5 := hid ha
       have G5 := hid hg
       clear ha hg
       have N5 := hid (And.intro hn5 hl5)
       obtain ⟨ad5, cp5, rfl⟩ := hn5.is
       clear hn5 hl5
       have cq6 := (G5.out.cell (p := ⟨q, m2.toNat, none⟩) ⟨z26 RBn.out, (show q ≠ d.B by have := HQ.out.1; omega), (show q ≠ d.G by have := HQ.out.2; omega)⟩).trans cq
       refine ⟨_, rfl, ⟨A5.out.1.c0, cq6⟩, ?_⟩
       refine z15 (by simp [go_sem]; exact rfl) ?_
       have KV : Hid (KidsV d (X5.alloc (.cells #[.slice ad3 n3.length cp3, .slice ad5 n5.length cp5] 53)) (.slice (some ⟨X5.heap.size, 0, none⟩) 2 2) [(.slice ad3 n3.length cp3, n3), (.slice ad5 n5.length cp5, n5)]) := (z47 [(.slice ad3 n3.length cp3, n3), (.slice ad5 n5.length cp5, n5)] _ rfl A5.out.1.ltB A5.out.1.ltG (fun x hx => by simp at hx; rcases hx with rfl | rfl; exact (N3.out.1.grew (G4.out.trans G5.out)); exact N5.out.1))
       have A7 := hid (A5.out.alloc (.cells #[.slice ad3 n3.length cp3, .slice ad5 n5.length cp5] 53))
       have G7 := hid ((Grew.refl d X5).alloc (.cells #[.slice ad3 n3.length cp3, .slice ad5 n5.length cp5] 53))
       have cq8 := ((G5.out.trans G7.out).cell (p := ⟨q, m2.toNat, none⟩) ⟨z26 RBn.out, (show q ≠ d.B by have := HQ.out.1; omega), (show q ≠ d.G by have := HQ.out.2; omega)⟩).trans cq
       refine z29 (i := 19) (v := .slice (some ⟨X5.heap.size, 0, none⟩) 2 2) (w1 := X5.alloc (.cells #[.slice ad3 n3.length cp3, .slice ad5 n5.length cp5] 53)) rfl (by kernel_rfl) rfl rfl (by simp [go_sem]) ⟨A7.out.1.c0, cq8⟩ (by simp [go_sem]; exact rfl) ?_
       generalize X5.alloc (.cells #[.slice ad3 n3.length cp3, .slice ad5 n5.length cp5] 53) = X7 at *
       refine z27 (i := 20) (f := 56) (args := #[.agg #[.int .i64 kv, .int .i64 0, .string ⟨#[]⟩, .string ⟨#[]⟩, .string ⟨#[]⟩, .int .i64 0], .slice (some ⟨X5.heap.size, 0, none⟩) 2 2]) rfl (by kernel_rfl) rfl rfl (by simp [go_sem]) ?_
       refine (A7.out.put_kids kv 0 0 ⟨#[]⟩ ⟨#[]⟩ ⟨#[]⟩ KV.out ⟨z14, z14, z14⟩ (by simp) (by have := A7.out.bound HF.out (by omega) (by decide); have := N3.out.2; have := N5.out.2; simp [flatL]; omega)).mono ?_
       rintro e X9 ⟨v9, n9, rfl, hn9, hl9, ha, hg⟩
       have A9 := hid ha
       have G9 := hid hg
       clear ha hg
       have N9 := hid (And.intro hn9 hl9)
       clear hn9 hl9
       have cq10 := ((G5.out.trans (G7.out.trans G9.out)).cell (p := ⟨q, m2.toNat, none⟩) ⟨z26 RBn.out, (show q ≠ d.B by have := HQ.out.1; omega), (show q ≠ d.G by have := HQ.out.2; omega)⟩).trans cq
       refine ⟨_, rfl, ⟨A9.out.1.c0, cq10⟩, ?_⟩
       refine z15 (by simp [go_sem]; exact rfl) ?_
       refine pick_o 21 v9 ⟨A9.out.1.c0, cq10⟩ ?_
       refine z32 (by kernel_rfl) ?_
       go_wp2_with fail
       go_ret
       exact A9.out.done 1 N9.out.1 (by have := N9.out.2; have := N3.out.2; have := N5.out.2; simp [flatL] at *; omega) (by omega)
     · refine ⟨_, 30, #[.pointer (some ⟨d.G, 0, none⟩), .int .i64 1, .slice ad ks.length cp, .slice adm ms.length cpm, .int .i64 deep], rfl, rfl, by simp [go_sem], ?_⟩
       refine (A3.out.nodes (HO.out deep 1 _ _ _ _ _ _ (by have := HD.out; omega) (by have := HD.out; omega) (A3.out.fit HF.out 10 (by omega)) A3.out.1 (HE.out.grew (G1.out.trans (G2.out.trans G3.out))).down)).mono ?_
       rintro e X4 ⟨v4, n4, s4, t4, rfl, hn4, hl4, ha, hg⟩
       have A4 := hid ha
       have G4 := hid hg
       clear ha hg
       have N4 := hid (And.intro hn4 hl4)
       obtain ⟨ad4, cp4, rfl⟩ := hn4.is
       clear hn4 hl4
       refine ⟨_, rfl, (A4.out.1.c0), ?_⟩
       refine z15 (by simp [go_sem]; exact rfl) ?_
       refine pick_fork (i := 0) (j := 19) (by kernel_rfl) ?_ ?_
       · have RB := hid (MapKept.heap_alloc X4 (.cells #[.int .i64 14, .int .i64 15] 3)).1
         have HQ := hid (And.intro A4.out.1.ltB A4.out.1.ltG)
         have A5 := hid (A4.out.alloc (.cells #[.int .i64 14, .int .i64 15] 3))
         have G5 := hid ((Grew.refl d X4).alloc (.cells #[.int .i64 14, .int .i64 15] 3))
         refine ⟨_, .slice (some ⟨X4.heap.size, 0, none⟩) 2 2, X4.alloc (.cells #[.int .i64 14, .int .i64 15] 3), rfl, rfl, by simp [go_sem], A5.out.1.c0, ?_⟩
         refine z15 (by simp [go_sem]; exact rfl) ?_
         generalize X4.alloc (.cells #[.int .i64 14, .int .i64 15] 3) = X5 at *
         obtain ⟨q, hq⟩ : ∃ q, X4.heap.size = q := ⟨_, rfl⟩
         rw [hq] at RB HQ ⊢
         clear hq
         obtain ⟨kv, hkv⟩ := two_get 14 15 m2 hm2 hM2
         have cq := (z11 RB.out m2.toNat).trans hkv
         have RBn := hid RB.out
         clear hkv
         refine pick_o (hy := fun w' hw => by simp [go_sem, hm2, hM2]) 6 (.pointer (some ⟨q, m2.toNat, none⟩)) (A5.out.1.c0) ?_
         refine z54 (fun w' => w'.cell? ⟨d.G, 0, none⟩ = some (.pointer (some ⟨d.B, 0, none⟩)) ∧ w'.cell? ⟨q, m2.toNat, none⟩ = some (.int .i64 kv)) (fun w h => h.1) ?_
         refine pick_o (hy := fun w' hw => by simp [go_sem, hw.2]) 7 (.int .i64 kv) ⟨A5.out.1.c0, cq⟩ ?_
         refine pick_o 8 (.agg #[.int .i64 kv, .int .i64 0, .string ⟨#[]⟩, .string ⟨#[]⟩, .string ⟨#[]⟩, .int .i64 0]) ⟨A5.out.1.c0, cq⟩ ?_
         have KV : Hid (KidsV d (X5.alloc (.cells #[.slice ad3 n3.length cp3, .slice ad4 n4.length cp4] 53)) (.slice (some ⟨X5.heap.size, 0, none⟩) 2 2) [(.slice ad3 n3.length cp3, n3), (.slice ad4 n4.length cp4, n4)]) := (z47 [(.slice ad3 n3.length cp3, n3), (.slice ad4 n4.length cp4, n4)] _ rfl A5.out.1.ltB A5.out.1.ltG (fun x hx => by simp at hx; rcases hx with rfl | rfl; exact (N3.out.1.grew (G4.out.trans G5.out)); exact (N4.out.1.grew G5.out)))
         have A6 := hid (A5.out.alloc (.cells #[.slice ad3 n3.length cp3, .slice ad4 n4.length cp4] 53))
         have G6 := hid ((Grew.refl d X5).alloc (.cells #[.slice ad3 n3.length cp3, .slice ad4 n4.length cp4] 53))
         have cq7 := (G6.out.cell (p := ⟨q, m2.toNat, none⟩) ⟨z26 RBn.out, (show q ≠ d.B by have := HQ.out.1; omega), (show q ≠ d.G by have := HQ.out.2; omega)⟩).trans cq
         refine z29 (i := 19) (v := .slice (some ⟨X5.heap.size, 0, none⟩) 2 2) (w1 := X5.alloc (.cells #[.slice ad3 n3.length cp3, .slice ad4 n4.length cp4] 53)) rfl (by kernel_rfl) rfl rfl (by simp [go_sem]) ⟨A6.out.1.c0, cq7⟩ (by simp [go_sem]; exact rfl) ?_
         generalize X5.alloc (.cells #[.slice ad3 n3.length cp3, .slice ad4 n4.length cp4] 53) = X6 at *
         refine z27 (i := 20) (f := 56) (args := #[.agg #[.int .i64 kv, .int .i64 0, .string ⟨#[]⟩, .string ⟨#[]⟩, .string ⟨#[]⟩, .int .i64 0], .slice (some ⟨X5.heap.size, 0, none⟩) 2 2]) rfl (by kernel_rfl) rfl rfl (by simp [go_sem]) ?_
         refine (A6.out.put_kids kv 0 0 ⟨#[]⟩ ⟨#[]⟩ ⟨#[]⟩ KV.out ⟨z14, z14, z14⟩ (by simp) (by have := A6.out.bound HF.out (by omega) (by decide); have := N3.out.2; have := N4.out.2; simp [flatL]; omega)).mono ?_
         rintro e X8 ⟨v8, n8, rfl, hn8, hl8, ha, hg⟩
         have A8 := hid ha
         have G8 := hid hg
         clear ha hg
         have N8 := hid (And.intro hn8 hl8)
         clear hn8 hl8
         have cq9 := ((G6.out.trans G8.out).cell (p := ⟨q, m2.toNat, none⟩) ⟨z26 RBn.out, (show q ≠ d.B by have := HQ.out.1; omega), (show q ≠ d.G by have := HQ.out.2; omega)⟩).trans cq
         refine ⟨_, rfl, ⟨A8.out.1.c0, cq9⟩, ?_⟩
         refine z15 (by simp [go_sem]; exact rfl) ?_
         refine pick_o 21 v8 ⟨A8.out.1.c0, cq9⟩ ?_
         refine z32 (by kernel_rfl) ?_
         go_wp2_with fail
         go_ret
         exact A8.out.done 1 N8.out.1 (by have := N8.out.2; have := N3.out.2; have := N4.out.2; simp [flatL] at *; omega) (by omega)
       · have KV : Hid (KidsV d (X4.alloc (.cells #[.slice ad3 n3.length cp3, .slice ad4 n4.length cp4] 53)) (.slice (some ⟨X4.heap.size, 0, none⟩) 2 2) [(.slice ad3 n3.length cp3, n3), (.slice ad4 n4.length cp4, n4)]) := (z47 [(.slice ad3 n3.length cp3, n3), (.slice ad4 n4.length cp4, n4)] _ rfl A4.out.1.ltB A4.out.1.ltG (fun x hx => by simp at hx; rcases hx with rfl | rfl; exact (N3.out.1.grew G4.out); exact N4.out.1))
         have A5 := hid (A4.out.alloc (.cells #[.slice ad3 n3.length cp3, .slice ad4 n4.length cp4] 53))
         have G5 := hid ((Grew.refl d X4).alloc (.cells #[.slice ad3 n3.length cp3, .slice ad4 n4.length cp4] 53))
         refine ⟨_, .slice (some ⟨X4.heap.size, 0, none⟩) 2 2, X4.alloc (.cells #[.slice ad3 n3.length cp3, .slice ad4 n4.length cp4] 53), rfl, rfl, by simp [go_sem], (A5.out.1.c0), ?_⟩
         refine z15 (by simp [go_sem]; exact rfl) ?_
         generalize X4.alloc (.cells #[.slice ad3 n3.length cp3, .slice ad4 n4.length cp4] 53) = X5 at *
         have RB := hid (MapKept.heap_alloc X5 (.cells #[.int .i64 14, .int .i64 15] 3)).1
         have HQ := hid (And.intro A5.out.1.ltB A5.out.1.ltG)
         have A6 := hid (A5.out.alloc (.cells #[.int .i64 14, .int .i64 15] 3))
         have G6 := hid ((Grew.refl d X5).alloc (.cells #[.int .i64 14, .int .i64 15] 3))
         refine z29 (i := 0) (v := .slice (some ⟨X5.heap.size, 0, none⟩) 2 2) (w1 := X5.alloc (.cells #[.int .i64 14, .int .i64 15] 3)) rfl (by kernel_rfl) rfl rfl (by simp [go_sem]) A6.out.1.c0 (by simp [go_sem]; exact rfl) ?_
         generalize X5.alloc (.cells #[.int .i64 14, .int .i64 15] 3) = X6 at *
         obtain ⟨q, hq⟩ : ∃ q, X5.heap.size = q := ⟨_, rfl⟩
         rw [hq] at RB HQ ⊢
         clear hq
         obtain ⟨kv, hkv⟩ := two_get 14 15 m2 hm2 hM2
         have cq := (z11 RB.out m2.toNat).trans hkv
         have RBn := hid RB.out
         clear hkv
         refine pick_o (hy := fun w' hw => by simp [go_sem, hm2, hM2]) 6 (.pointer (some ⟨q, m2.toNat, none⟩)) (A6.out.1.c0) ?_
         refine z54 (fun w' => w'.cell? ⟨d.G, 0, none⟩ = some (.pointer (some ⟨d.B, 0, none⟩)) ∧ w'.cell? ⟨q, m2.toNat, none⟩ = some (.int .i64 kv)) (fun w h => h.1) ?_
         refine pick_o (hy := fun w' hw => by simp [go_sem, hw.2]) 7 (.int .i64 kv) ⟨A6.out.1.c0, cq⟩ ?_
         refine pick_o 8 (.agg #[.int .i64 kv, .int .i64 0, .string ⟨#[]⟩, .string ⟨#[]⟩, .string ⟨#[]⟩, .int .i64 0]) ⟨A6.out.1.c0, cq⟩ ?_
         refine z27 (i := 20) (f := 56) (args := #[.agg #[.int .i64 kv, .int .i64 0, .string ⟨#[]⟩, .string ⟨#[]⟩, .string ⟨#[]⟩, .int .i64 0], .slice (some ⟨X4.heap.size, 0, none⟩) 2 2]) rfl (by kernel_rfl) rfl rfl (by simp [go_sem]) ?_
         refine (A6.out.put_kids kv 0 0 ⟨#[]⟩ ⟨#[]⟩ ⟨#[]⟩ (KV.out.grew G6.out) ⟨z14, z14, z14⟩ (by simp) (by have := A6.out.bound HF.out (by omega) (by decide); have := N3.out.2; have := N4.out.2; simp [flatL]; omega)).mono ?_
         rintro e X7 ⟨v7, n7, rfl, hn7, hl7, ha, hg⟩
         have A7 := hid ha
         have G7 := hid hg
         clear ha hg
         have N7 := hid (And.intro hn7 hl7)
         clear hn7 hl7
         have cq8 := (G7.out.cell (p := ⟨q, m2.toNat, none⟩) ⟨z26 RBn.out, (show q ≠ d.B by have := HQ.out.1; omega), (show q ≠ d.G by have := HQ.out.2; omega)⟩).trans cq
         refine ⟨_, rfl, ⟨A7.out.1.c0, cq8⟩, ?_⟩
         refine z15 (by simp [go_sem]; exact rfl) ?_
         refine pick_o 21 v7 ⟨A7.out.1.c0, cq8⟩ ?_
         refine z32 (by kernel_rfl) ?_
         go_wp2_with fail
         go_ret
         exact A7.out.done 1 N7.out.1 (by have := N7.out.2; have := N3.out.2; have := N4.out.2; simp [flatL] at *; omega) (by omega)
set_option maxHeartbeats 8000000 in
set_option maxRecDepth 100000 in
theorem own3 {d : Dr} {ve v vm : Value} {es : List Ef} {W : World} {s : Cn} {ks : List Kn} {ms : List Bool} {D : Nat} (ty : Int) (ht : ty = 3) (deep : Int) (hO : OfC d ve es D) (h1 : deep ≤ D) (h2 : -90 ≤ deep) (h3 : D ≤ 100) (h : Gen d ve W s) (hf : Fit s 100) (hE : Env d ve es W v ks vm ms (D + 1)) :
   Calls Tryz.prog 62 #[.pointer (some ⟨d.G, 0, none⟩), .int .i64 ty, v, vm, .int .i64 deep] W (NodesPost d ve W s 100) := by
 have HF := hid hf
 have HO := hid hO
 have A0 := hid (At.start h)
 have HE := hid hE
 have HD := hid (And.intro h1 (And.intro h2 h3))
 have hdu : deep ≤ 1000 := by omega
 obtain ⟨ad, cp, rfl⟩ := hE.know.is
 obtain ⟨adm, cpm, rfl⟩ := hE.may.is
 clear hO h1 h3 h hf hE
 subst ht
 go_enter Tryz.func62, Tryz.ntmps62
 go_wp2_with fail
 refine (A0.out.nodes (HO.out deep 1 _ _ _ _ _ _ (by have := HD.out; omega) (by have := HD.out; omega) (A0.out.fit HF.out 10 (by omega)) A0.out.1 HE.out.down)).mono ?_
 rintro e X1 ⟨v1, n1, s1, t1, rfl, hn1, hl1, ha, hg⟩
 have A1 := hid ha
 have G1 := hid hg
 clear ha hg
 have N1 := hid (And.intro hn1 hl1)
 obtain ⟨ad1, cp1, rfl⟩ := hn1.is
 clear hn1 hl1
 go_wp2_with fail
 refine (A1.out.put1 21 0 0 ByteArray.empty ByteArray.empty ByteArray.empty N1.out.1 ⟨z14, z14, z14⟩ (by have := A1.out.bound HF.out (by omega) (by decide); have := N1.out.2; omega)).mono ?_
 rintro e X2 ⟨v2, n2, rfl, hn2, hl2, ha, hg⟩
 have A2 := hid ha
 have G2 := hid hg
 clear ha hg
 have N2 := hid (And.intro hn2 hl2)
 obtain ⟨ad2, cp2, rfl⟩ := hn2.is
 clear hn2 hl2
 go_wp2_with fail
 go_ret
 exact A2.out.done 1 N2.out.1 (by have := N2.out.2; have := N1.out.2; omega) (by omega)
set_option maxHeartbeats 8000000 in
set_option maxRecDepth 100000 in
theorem own4 {d : Dr} {ve v vm : Value} {es : List Ef} {W : World} {s : Cn} {ks : List Kn} {ms : List Bool} {D : Nat} (ty : Int) (ht : ty = 4) (deep : Int) (hO : OfC d ve es D) (h1 : deep ≤ D) (h2 : -90 ≤ deep) (h3 : D ≤ 100) (h : Gen d ve W s) (hf : Fit s 100) (hE : Env d ve es W v ks vm ms (D + 1)) :
   Calls Tryz.prog 62 #[.pointer (some ⟨d.G, 0, none⟩), .int .i64 ty, v, vm, .int .i64 deep] W (NodesPost d ve W s 100) := by
 have HF := hid hf
 have HO := hid hO
 have A0 := hid (At.start h)
 have HE := hid hE
 have HD := hid (And.intro h1 (And.intro h2 h3))
 have hdu : deep ≤ 1000 := by omega
 obtain ⟨ad, cp, rfl⟩ := hE.know.is
 obtain ⟨adm, cpm, rfl⟩ := hE.may.is
 clear hO h1 h3 h hf hE
 subst ht
 go_enter Tryz.func62, Tryz.ntmps62
 go_wp2_with fail
 refine (A0.out.nodes (HO.out deep 1 _ _ _ _ _ _ (by have := HD.out; omega) (by have := HD.out; omega) (A0.out.fit HF.out 10 (by omega)) A0.out.1 HE.out.down)).mono ?_
 rintro e X1 ⟨v1, n1, s1, t1, rfl, hn1, hl1, ha, hg⟩
 have A1 := hid ha
 have G1 := hid hg
 clear ha hg
 have N1 := hid (And.intro hn1 hl1)
 obtain ⟨ad1, cp1, rfl⟩ := hn1.is
 clear hn1 hl1
 go_wp2_with fail
 refine (A1.out.nodes (HO.out deep 4 _ _ _ _ _ _ (by have := HD.out; omega) (by have := HD.out; omega) (A1.out.fit HF.out 10 (by omega)) A1.out.1 (HE.out.grew G1.out).down)).mono ?_
 rintro e X2 ⟨v2, n2, s2, t2, rfl, hn2, hl2, ha, hg⟩
 have A2 := hid ha
 have G2 := hid hg
 clear ha hg
 have N2 := hid (And.intro hn2 hl2)
 obtain ⟨ad2, cp2, rfl⟩ := hn2.is
 clear hn2 hl2
 go_wp2_with fail
 refine (A2.out.put2 19 0 0 ByteArray.empty ByteArray.empty ByteArray.empty (N1.out.1.grew G2.out) N2.out.1 ⟨z14, z14, z14⟩ (by have := A2.out.bound HF.out (by omega) (by decide); have := N1.out.2; have := N2.out.2; omega)).mono ?_
 rintro e X3 ⟨v3, n3, rfl, hn3, hl3, ha, hg⟩
 have A3 := hid ha
 have G3 := hid hg
 clear ha hg
 have N3 := hid (And.intro hn3 hl3)
 obtain ⟨ad3, cp3, rfl⟩ := hn3.is
 clear hn3 hl3
 go_wp2_with fail
 go_ret
 exact A3.out.done 1 N3.out.1 (by have := N3.out.2; have := N1.out.2; have := N2.out.2; omega) (by omega)
set_option maxHeartbeats 8000000 in
set_option maxRecDepth 100000 in
theorem own5 {d : Dr} {ve v vm : Value} {es : List Ef} {W : World} {s : Cn} {ks : List Kn} {ms : List Bool} {D : Nat} (ty : Int) (hn1 : ty ≠ 1) (hn2 : ty ≠ 2) (hn3 : ty ≠ 3) (hn4 : ty ≠ 4) (deep : Int) (hO : OfC d ve es D) (h1 : deep ≤ D) (h2 : -90 ≤ deep) (h3 : D ≤ 100) (h : Gen d ve W s) (hf : Fit s 100) (hE : Env d ve es W v ks vm ms (D + 1)) :
   Calls Tryz.prog 62 #[.pointer (some ⟨d.G, 0, none⟩), .int .i64 ty, v, vm, .int .i64 deep] W (NodesPost d ve W s 100) := by
 have HF := hid hf
 have HO := hid hO
 have A0 := hid (At.start h)
 have HE := hid hE
 have HD := hid (And.intro h1 (And.intro h2 h3))
 have hdu : deep ≤ 1000 := by omega
 obtain ⟨ad, cp, rfl⟩ := hE.know.is
 obtain ⟨adm, cpm, rfl⟩ := hE.may.is
 clear hO h1 h3 h hf hE
 have e1 : (ty == 1) = false := by simp [hn1]
 have e2 : (ty == 2) = false := by simp [hn2]
 have e3 : (ty == 3) = false := by simp [hn3]
 have e4 : (ty == 4) = false := by simp [hn4]
 clear hn1 hn2 hn3 hn4
 go_enter Tryz.func62, Tryz.ntmps62
 go_wp2_with fail
 refine (A0.out.name HF.out (by omega)).mono ?_
 rintro e X1 ⟨x1, s1, rfl, hb1, ha, hg⟩
 have A1 := hid ha
 have G1 := hid hg
 clear ha hg
 have B1 := hid hb1
 clear hb1
 go_wp2_with fail
 refine (A1.out.add x1 1 0 (HE.out.grew G1.out).know B1.out (by have := HE.out.room; omega)).mono ?_
 rintro e X2 ⟨u2, ks2, rfl, hk2, hkl2, ha, hg⟩
 have A2 := hid ha
 have G2 := hid hg
 clear ha hg
 have K2 := hid (And.intro hk2 hkl2)
 obtain ⟨ad2, cp2, rfl⟩ := hk2.is
 clear hk2 hkl2
 go_wp2_with fail
 refine (A2.out.nodes (HO.out deep 1 _ _ _ _ _ _ (by have := HD.out; omega) (by have := HD.out; omega) (A2.out.fit HF.out 10 (by omega)) A2.out.1 ((HE.out.grew (G1.out.trans G2.out)).with K2.out.1 (by have := K2.out.2; omega)))).mono ?_
 rintro e X3 ⟨v3, n3, s3, t3, rfl, hn3, hl3, ha, hg⟩
 have A3 := hid ha
 have G3 := hid hg
 clear ha hg
 have N3 := hid (And.intro hn3 hl3)
 obtain ⟨ad3, cp3, rfl⟩ := hn3.is
 clear hn3 hl3
 go_wp2_with fail
 refine (A3.out.put1 6 0 0 x1 ByteArray.empty ByteArray.empty N3.out.1 ⟨B1.out, z14, z14⟩ (by have := A3.out.bound HF.out (by omega) (by decide); have := N3.out.2; omega)).mono ?_
 rintro e X4 ⟨v4, n4, rfl, hn4, hl4, ha, hg⟩
 have A4 := hid ha
 have G4 := hid hg
 clear ha hg
 have N4 := hid (And.intro hn4 hl4)
 obtain ⟨ad4, cp4, rfl⟩ := hn4.is
 clear hn4 hl4
 go_wp2_with fail
 go_ret
 exact A4.out.done 1 N4.out.1 (by have := N4.out.2; have := N3.out.2; omega) (by omega)
set_option maxHeartbeats 8000000 in
set_option maxRecDepth 100000 in
theorem own1 {d : Dr} {ve v vm : Value} {es : List Ef} {W : World} {s : Cn} {ks : List Kn} {ms : List Bool} {D : Nat} (ty : Int) (ht : ty = 1) (deep : Int) (hO : OfC d ve es D) (h1 : deep ≤ D) (h2 : -90 ≤ deep) (h3 : D ≤ 100) (h : Gen d ve W s) (hf : Fit s 100) (hE : Env d ve es W v ks vm ms (D + 1)) :
   Calls Tryz.prog 62 #[.pointer (some ⟨d.G, 0, none⟩), .int .i64 ty, v, vm, .int .i64 deep] W (NodesPost d ve W s 100) := by
 have HF := hid hf
 have HO := hid hO
 have A0 := hid (At.start h)
 have HE := hid hE
 have HD := hid (And.intro h1 (And.intro h2 h3))
 have hdu : deep ≤ 1000 := by omega
 obtain ⟨ad, cp, rfl⟩ := hE.know.is
 obtain ⟨adm, cpm, rfl⟩ := hE.may.is
 clear hO h1 h3 h hf hE
 subst ht
 go_enter Tryz.func62, Tryz.ntmps62
 have g0 := A0.out.1.c0
 go_wp2_with fail
 refine (A0.out.pick HF.out (by omega) 6 (by decide)).mono ?_
 rintro e X1 ⟨m1, s1, rfl, hm1, hM1, ha, hg⟩
 have A1 := hid ha
 have G1 := hid hg
 clear ha hg
 clear g0
 have hcs : m1 = 0 ∨ m1 = 1 ∨ m1 = 2 ∨ 3 ≤ m1 := by omega
 rcases hcs with rfl | rfl | rfl | h3
 · go_wp2_with fail
   refine (A1.out.nodes (HO.out deep 5 _ _ _ _ _ _ (by have := HD.out; omega) (by have := HD.out; omega) (A1.out.fit HF.out 10 (by omega)) A1.out.1 (HE.out.grew G1.out).down)).mono ?_
   rintro e X2 ⟨v2, n2, s2, t2, rfl, hn2, hl2, ha, hg⟩
   have A2 := hid ha
   have G2 := hid hg
   clear ha hg
   have N2 := hid (And.intro hn2 hl2)
   obtain ⟨ad2, cp2, rfl⟩ := hn2.is
   clear hn2 hl2
   go_wp2_with fail
   refine (A2.out.nodes (HO.out deep 1 _ _ _ _ _ _ (by have := HD.out; omega) (by have := HD.out; omega) (A2.out.fit HF.out 10 (by omega)) A2.out.1 (HE.out.grew (G1.out.trans G2.out)).down)).mono ?_
   rintro e X3 ⟨v3, n3, s3, t3, rfl, hn3, hl3, ha, hg⟩
   have A3 := hid ha
   have G3 := hid hg
   clear ha hg
   have N3 := hid (And.intro hn3 hl3)
   obtain ⟨ad3, cp3, rfl⟩ := hn3.is
   clear hn3 hl3
   go_wp2_with fail
   refine (A3.out.put2 7 0 0 ByteArray.empty ByteArray.empty ByteArray.empty (N2.out.1.grew G3.out) N3.out.1 ⟨z14, z14, z14⟩ (by have := A3.out.bound HF.out (by omega) (by decide); have := N2.out.2; have := N3.out.2; omega)).mono ?_
   rintro e X4 ⟨v4, n4, rfl, hn4, hl4, ha, hg⟩
   have A4 := hid ha
   have G4 := hid hg
   clear ha hg
   have N4 := hid (And.intro hn4 hl4)
   obtain ⟨ad4, cp4, rfl⟩ := hn4.is
   clear hn4 hl4
   go_wp2_with fail
   go_ret
   exact A4.out.done 1 N4.out.1 (by have := N4.out.2; have := N2.out.2; have := N3.out.2; omega) (by omega)
 · go_wp2_with fail
   refine (A1.out.nodes (loop_calls deep HO.out (by have := HD.out; omega) (by have := HD.out; omega) (by have := HD.out; omega) A1.out.1 (A1.out.fit HF.out 60 (by omega)) (HE.out.grew G1.out))).mono ?_
   rintro e X2 ⟨v2, n2, s2, t2, rfl, hn2, hl2, ha, hg⟩
   have A2 := hid ha
   have G2 := hid hg
   clear ha hg
   have N2 := hid (And.intro hn2 hl2)
   obtain ⟨ad2, cp2, rfl⟩ := hn2.is
   clear hn2 hl2
   go_wp2_with fail
   go_ret
   exact A2.out.done 0 N2.out.1 (by have := N2.out.2; omega) (by omega)
 · go_wp2_with fail
   refine (A1.out.nodes (HO.out deep 1 _ _ _ _ _ _ (by have := HD.out; omega) (by have := HD.out; omega) (A1.out.fit HF.out 10 (by omega)) A1.out.1 (HE.out.grew G1.out).down)).mono ?_
   rintro e X2 ⟨v2, n2, s2, t2, rfl, hn2, hl2, ha, hg⟩
   have A2 := hid ha
   have G2 := hid hg
   clear ha hg
   have N2 := hid (And.intro hn2 hl2)
   obtain ⟨ad2, cp2, rfl⟩ := hn2.is
   clear hn2 hl2
   go_wp2_with fail
   refine (A2.out.nodes (HO.out deep 1 _ _ _ _ _ _ (by have := HD.out; omega) (by have := HD.out; omega) (A2.out.fit HF.out 10 (by omega)) A2.out.1 (HE.out.grew (G1.out.trans G2.out)).down)).mono ?_
   rintro e X3 ⟨v3, n3, s3, t3, rfl, hn3, hl3, ha, hg⟩
   have A3 := hid ha
   have G3 := hid hg
   clear ha hg
   have N3 := hid (And.intro hn3 hl3)
   obtain ⟨ad3, cp3, rfl⟩ := hn3.is
   clear hn3 hl3
   go_wp2_with fail
   refine (A3.out.put2 13 0 0 ByteArray.empty ByteArray.empty ByteArray.empty (N2.out.1.grew G3.out) N3.out.1 ⟨z14, z14, z14⟩ (by have := A3.out.bound HF.out (by omega) (by decide); have := N2.out.2; have := N3.out.2; omega)).mono ?_
   rintro e X4 ⟨v4, n4, rfl, hn4, hl4, ha, hg⟩
   have A4 := hid ha
   have G4 := hid hg
   clear ha hg
   have N4 := hid (And.intro hn4 hl4)
   obtain ⟨ad4, cp4, rfl⟩ := hn4.is
   clear hn4 hl4
   go_wp2_with fail
   go_ret
   exact A4.out.done 1 N4.out.1 (by have := N4.out.2; have := N2.out.2; have := N3.out.2; omega) (by omega)
 · have z0 : (m1 == 0) = false := by simp; omega
   have z1 : (m1 == 1) = false := by simp; omega
   have z2 : (m1 == 2) = false := by simp; omega
   go_upto_region 10 with fail
   refine z33 (S := fun w' => w'.cell? ⟨d.G, 0, none⟩ = some (.pointer (some ⟨d.B, 0, none⟩))) (by kernel_rfl) rfl rfl ?_
   have A2 := hid A1.out.drew
   have G2 := hid (Grew.refl d X1).drew
   have hXD : X1.drew = X1.drew := rfl
   generalize X1.drew = X2 at *
   clear hXD
   refine pick_o 1 (.pointer (some ⟨d.G, 0, none⟩)) (A2.out.1.c0) ?_
   refine pick_o 2 (.pointer (some ⟨d.G, 0, none⟩)) (A2.out.1.c0) ?_
   refine pick_o 3 (.pointer (some ⟨d.G, 0, none⟩)) (A2.out.1.c0) ?_
   refine pick_o (hy := fun w' hw => by simp [go_sem, hw]) 4 (.pointer (some ⟨d.B, 0, none⟩)) (A2.out.1.c0) ?_
   refine pick_o 9 (.pointer (some ⟨d.G, 0, none⟩)) (A2.out.1.c0) ?_
   refine pick_o 10 (.int .i64 1) (A2.out.1.c0) ?_
   refine pick_o 11 (.slice ad ks.length cp) (A2.out.1.c0) ?_
   refine pick_o 12 (.slice adm ms.length cpm) (A2.out.1.c0) ?_
   refine pick_o 13 (.int .i64 deep) (A2.out.1.c0) ?_
   refine pick_o 15 (.pointer (some ⟨d.G, 0, none⟩)) (A2.out.1.c0) ?_
   refine pick_o 16 (.int .i64 1) (A2.out.1.c0) ?_
   refine pick_o 17 (.slice ad ks.length cp) (A2.out.1.c0) ?_
   refine pick_o 18 (.slice adm ms.length cpm) (A2.out.1.c0) ?_
   refine pick_o 19 (.int .i64 deep) (A2.out.1.c0) ?_
   refine z46 (i := 0) (j := 5) (by kernel_rfl) ?_ ?_
   · have RB := hid (MapKept.heap_alloc X2 (.cells #[.int .i64 11, .int .i64 12] 3)).1
     have HQ := hid (And.intro A2.out.1.ltB A2.out.1.ltG)
     have A3 := hid (A2.out.alloc (.cells #[.int .i64 11, .int .i64 12] 3))
     have G3 := hid ((Grew.refl d X2).alloc (.cells #[.int .i64 11, .int .i64 12] 3))
     refine ⟨_, .slice (some ⟨X2.heap.size, 0, none⟩) 2 2, X2.alloc (.cells #[.int .i64 11, .int .i64 12] 3), rfl, rfl, by simp [go_sem], A3.out.1.c0, ?_⟩
     refine z15 (by simp [go_sem]; exact rfl) ?_
     generalize X2.alloc (.cells #[.int .i64 11, .int .i64 12] 3) = X3 at *
     obtain ⟨q, hq⟩ : ∃ q, X2.heap.size = q := ⟨_, rfl⟩
     rw [hq] at RB HQ ⊢
     clear hq
     refine z27 (i := 5) (f := 16) (args := #[.pointer (some ⟨d.B, 0, none⟩), .int .i64 2]) rfl (by kernel_rfl) rfl rfl (by simp [go_sem]) ?_
     refine (A3.out.pick HF.out (by omega) 2 (by decide)).mono ?_
     rintro e X4 ⟨m4, s4, rfl, hm4, hM4, ha, hg⟩
     have A4 := hid ha
     have G4 := hid hg
     clear ha hg
     refine ⟨_, rfl, (A4.out.1.c0), ?_⟩
     refine z15 (by simp [go_sem]; exact rfl) ?_
     obtain ⟨kv, hkv⟩ := two_get 11 12 m4 hm4 hM4
     have cq := (z11 ((G4.out.block q ⟨z26 RB.out, (show q ≠ d.B by have := HQ.out.1; omega), (show q ≠ d.G by have := HQ.out.2; omega)⟩).trans RB.out) m4.toNat).trans hkv
     have RBn := hid ((G4.out.block q ⟨z26 RB.out, (show q ≠ d.B by have := HQ.out.1; omega), (show q ≠ d.G by have := HQ.out.2; omega)⟩).trans RB.out)
     clear hkv
     refine pick_o (hy := fun w' hw => by simp [go_sem, hm4, hM4]) 6 (.pointer (some ⟨q, m4.toNat, none⟩)) (A4.out.1.c0) ?_
     refine z54 (fun w' => w'.cell? ⟨d.G, 0, none⟩ = some (.pointer (some ⟨d.B, 0, none⟩)) ∧ w'.cell? ⟨q, m4.toNat, none⟩ = some (.int .i64 kv)) (fun w h => h.1) ?_
     refine pick_o (hy := fun w' hw => by simp [go_sem, hw.2]) 7 (.int .i64 kv) ⟨A4.out.1.c0, cq⟩ ?_
     refine pick_o 8 (.agg #[.int .i64 kv, .int .i64 0, .string ⟨#[]⟩, .string ⟨#[]⟩, .string ⟨#[]⟩, .int .i64 0]) ⟨A4.out.1.c0, cq⟩ ?_
     refine z27 (i := 14) (f := 30) (args := #[.pointer (some ⟨d.G, 0, none⟩), .int .i64 1, .slice ad ks.length cp, .slice adm ms.length cpm, .int .i64 deep]) rfl (by kernel_rfl) rfl rfl (by simp [go_sem]) ?_
     refine (A4.out.nodes (HO.out deep 1 _ _ _ _ _ _ (by have := HD.out; omega) (by have := HD.out; omega) (A4.out.fit HF.out 10 (by omega)) A4.out.1 (HE.out.grew (G1.out.trans (G2.out.trans (G3.out.trans G4.out)))).down)).mono ?_
     rintro e X5 ⟨v5, n5, s5, t5, rfl, hn5, hl5, ha, hg⟩
     have A5 := hid ha
     have G5 := hid hg
     clear ha hg
     have N5 := hid (And.intro hn5 hl5)
     obtain ⟨ad5, cp5, rfl⟩ := hn5.is
     clear hn5 hl5
     have cq6 := (G5.out.cell (p := ⟨q, m4.toNat, none⟩) ⟨z26 RBn.out, (show q ≠ d.B by have := HQ.out.1; omega), (show q ≠ d.G by have := HQ.out.2; omega)⟩).trans cq
     refine ⟨_, rfl, ⟨A5.out.1.c0, cq6⟩, ?_⟩
     refine z15 (by simp [go_sem]; exact rfl) ?_
     refine z27 (i := 20) (f := 30) (args := #[.pointer (some ⟨d.G, 0, none⟩), .int .i64 1, .slice ad ks.length cp, .slice adm ms.length cpm, .int .i64 deep]) rfl (by kernel_rfl) rfl rfl (by simp [go_sem]) ?_
     refine (A5.out.nodes (HO.out deep 1 _ _ _ _ _ _ (by have := HD.out; omega) (by have := HD.out; omega) (A5.out.fit HF.out 10 (by omega)) A5.out.1 (HE.out.grew (G1.out.trans (G2.out.trans (G3.out.trans (G4.out.trans G5.out))))).down)).mono ?_
     rintro e X7 ⟨v7, n7, s7, t7, rfl, hn7, hl7, ha, hg⟩
     have A7 := hid ha
     have G7 := hid hg
     clear ha hg
     have N7 := hid (And.intro hn7 hl7)
     obtain ⟨ad7, cp7, rfl⟩ := hn7.is
     clear hn7 hl7
     have cq8 := ((G5.out.trans G7.out).cell (p := ⟨q, m4.toNat, none⟩) ⟨z26 RBn.out, (show q ≠ d.B by have := HQ.out.1; omega), (show q ≠ d.G by have := HQ.out.2; omega)⟩).trans cq
     refine ⟨_, rfl, ⟨A7.out.1.c0, cq8⟩, ?_⟩
     refine z15 (by simp [go_sem]; exact rfl) ?_
     have KV : Hid (KidsV d (X7.alloc (.cells #[.slice ad5 n5.length cp5, .slice ad7 n7.length cp7] 53)) (.slice (some ⟨X7.heap.size, 0, none⟩) 2 2) [(.slice ad5 n5.length cp5, n5), (.slice ad7 n7.length cp7, n7)]) := (z47 [(.slice ad5 n5.length cp5, n5), (.slice ad7 n7.length cp7, n7)] _ rfl A7.out.1.ltB A7.out.1.ltG (fun x hx => by simp at hx; rcases hx with rfl | rfl; exact (N5.out.1.grew G7.out); exact N7.out.1))
     have A9 := hid (A7.out.alloc (.cells #[.slice ad5 n5.length cp5, .slice ad7 n7.length cp7] 53))
     have G9 := hid ((Grew.refl d X7).alloc (.cells #[.slice ad5 n5.length cp5, .slice ad7 n7.length cp7] 53))
     have cq10 := ((G5.out.trans (G7.out.trans G9.out)).cell (p := ⟨q, m4.toNat, none⟩) ⟨z26 RBn.out, (show q ≠ d.B by have := HQ.out.1; omega), (show q ≠ d.G by have := HQ.out.2; omega)⟩).trans cq
     refine z29 (i := 21) (v := .slice (some ⟨X7.heap.size, 0, none⟩) 2 2) (w1 := X7.alloc (.cells #[.slice ad5 n5.length cp5, .slice ad7 n7.length cp7] 53)) rfl (by kernel_rfl) rfl rfl (by simp [go_sem]) ⟨A9.out.1.c0, cq10⟩ (by simp [go_sem]; exact rfl) ?_
     generalize X7.alloc (.cells #[.slice ad5 n5.length cp5, .slice ad7 n7.length cp7] 53) = X9 at *
     refine z27 (i := 22) (f := 56) (args := #[.agg #[.int .i64 kv, .int .i64 0, .string ⟨#[]⟩, .string ⟨#[]⟩, .string ⟨#[]⟩, .int .i64 0], .slice (some ⟨X7.heap.size, 0, none⟩) 2 2]) rfl (by kernel_rfl) rfl rfl (by simp [go_sem]) ?_
     refine (A9.out.put_kids kv 0 0 ⟨#[]⟩ ⟨#[]⟩ ⟨#[]⟩ KV.out ⟨z14, z14, z14⟩ (by simp) (by have := A9.out.bound HF.out (by omega) (by decide); have := N5.out.2; have := N7.out.2; simp [flatL]; omega)).mono ?_
     rintro e X11 ⟨v11, n11, rfl, hn11, hl11, ha, hg⟩
     have A11 := hid ha
     have G11 := hid hg
     clear ha hg
     have N11 := hid (And.intro hn11 hl11)
     clear hn11 hl11
     have cq12 := ((G5.out.trans (G7.out.trans (G9.out.trans G11.out))).cell (p := ⟨q, m4.toNat, none⟩) ⟨z26 RBn.out, (show q ≠ d.B by have := HQ.out.1; omega), (show q ≠ d.G by have := HQ.out.2; omega)⟩).trans cq
     refine ⟨_, rfl, ⟨A11.out.1.c0, cq12⟩, ?_⟩
     refine z15 (by simp [go_sem]; exact rfl) ?_
     refine pick_o 23 v11 ⟨A11.out.1.c0, cq12⟩ ?_
     refine z32 (by kernel_rfl) ?_
     go_wp2_with fail
     go_ret
     exact A11.out.done 1 N11.out.1 (by have := N11.out.2; have := N5.out.2; have := N7.out.2; simp [flatL] at *; omega) (by omega)
   · refine ⟨_, 16, #[.pointer (some ⟨d.B, 0, none⟩), .int .i64 2], rfl, rfl, by simp [go_sem], ?_⟩
     refine (A2.out.pick HF.out (by omega) 2 (by decide)).mono ?_
     rintro e X3 ⟨m3, s3, rfl, hm3, hM3, ha, hg⟩
     have A3 := hid ha
     have G3 := hid hg
     clear ha hg
     refine ⟨_, rfl, (A3.out.1.c0), ?_⟩
     refine z15 (by simp [go_sem]; exact rfl) ?_
     refine z46 (i := 0) (j := 14) (by kernel_rfl) ?_ ?_
     · have RB := hid (MapKept.heap_alloc X3 (.cells #[.int .i64 11, .int .i64 12] 3)).1
       have HQ := hid (And.intro A3.out.1.ltB A3.out.1.ltG)
       have A4 := hid (A3.out.alloc (.cells #[.int .i64 11, .int .i64 12] 3))
       have G4 := hid ((Grew.refl d X3).alloc (.cells #[.int .i64 11, .int .i64 12] 3))
       refine ⟨_, .slice (some ⟨X3.heap.size, 0, none⟩) 2 2, X3.alloc (.cells #[.int .i64 11, .int .i64 12] 3), rfl, rfl, by simp [go_sem], A4.out.1.c0, ?_⟩
       refine z15 (by simp [go_sem]; exact rfl) ?_
       generalize X3.alloc (.cells #[.int .i64 11, .int .i64 12] 3) = X4 at *
       obtain ⟨q, hq⟩ : ∃ q, X3.heap.size = q := ⟨_, rfl⟩
       rw [hq] at RB HQ ⊢
       clear hq
       obtain ⟨kv, hkv⟩ := two_get 11 12 m3 hm3 hM3
       have cq := (z11 RB.out m3.toNat).trans hkv
       have RBn := hid RB.out
       clear hkv
       refine pick_o (hy := fun w' hw => by simp [go_sem, hm3, hM3]) 6 (.pointer (some ⟨q, m3.toNat, none⟩)) (A4.out.1.c0) ?_
       refine z54 (fun w' => w'.cell? ⟨d.G, 0, none⟩ = some (.pointer (some ⟨d.B, 0, none⟩)) ∧ w'.cell? ⟨q, m3.toNat, none⟩ = some (.int .i64 kv)) (fun w h => h.1) ?_
       refine pick_o (hy := fun w' hw => by simp [go_sem, hw.2]) 7 (.int .i64 kv) ⟨A4.out.1.c0, cq⟩ ?_
       refine pick_o 8 (.agg #[.int .i64 kv, .int .i64 0, .string ⟨#[]⟩, .string ⟨#[]⟩, .string ⟨#[]⟩, .int .i64 0]) ⟨A4.out.1.c0, cq⟩ ?_
       refine z27 (i := 14) (f := 30) (args := #[.pointer (some ⟨d.G, 0, none⟩), .int .i64 1, .slice ad ks.length cp, .slice adm ms.length cpm, .int .i64 deep]) rfl (by kernel_rfl) rfl rfl (by simp [go_sem]) ?_
       refine (A4.out.nodes (HO.out deep 1 _ _ _ _ _ _ (by have := HD.out; omega) (by have := HD.out; omega) (A4.out.fit HF.out 10 (by omega)) A4.out.1 (HE.out.grew (G1.out.trans (G2.out.trans (G3.out.trans G4.out)))).down)).mono ?_
       rintro e X5 ⟨v5, n5, s5, t5, rfl, hn5, hl5, ha, hg⟩
       have A5 := hid ha
       have G5 := hid hg
       clear ha hg
       have N5 := hid (And.intro hn5 hl5)
       obtain ⟨ad5, cp5, rfl⟩ := hn5.is
       clear hn5 hl5
       have cq6 := (G5.out.cell (p := ⟨q, m3.toNat, none⟩) ⟨z26 RBn.out, (show q ≠ d.B by have := HQ.out.1; omega), (show q ≠ d.G by have := HQ.out.2; omega)⟩).trans cq
       refine ⟨_, rfl, ⟨A5.out.1.c0, cq6⟩, ?_⟩
       refine z15 (by simp [go_sem]; exact rfl) ?_
       refine z27 (i := 20) (f := 30) (args := #[.pointer (some ⟨d.G, 0, none⟩), .int .i64 1, .slice ad ks.length cp, .slice adm ms.length cpm, .int .i64 deep]) rfl (by kernel_rfl) rfl rfl (by simp [go_sem]) ?_
       refine (A5.out.nodes (HO.out deep 1 _ _ _ _ _ _ (by have := HD.out; omega) (by have := HD.out; omega) (A5.out.fit HF.out 10 (by omega)) A5.out.1 (HE.out.grew (G1.out.trans (G2.out.trans (G3.out.trans (G4.out.trans G5.out))))).down)).mono ?_
       rintro e X7 ⟨v7, n7, s7, t7, rfl, hn7, hl7, ha, hg⟩
       have A7 := hid ha
       have G7 := hid hg
       clear ha hg
       have N7 := hid (And.intro hn7 hl7)
       obtain ⟨ad7, cp7, rfl⟩ := hn7.is
       clear hn7 hl7
       have cq8 := ((G5.out.trans G7.out).cell (p := ⟨q, m3.toNat, none⟩) ⟨z26 RBn.out, (show q ≠ d.B by have := HQ.out.1; omega), (show q ≠ d.G by have := HQ.out.2; omega)⟩).trans cq
       refine ⟨_, rfl, ⟨A7.out.1.c0, cq8⟩, ?_⟩
       refine z15 (by simp [go_sem]; exact rfl) ?_
       have KV : Hid (KidsV d (X7.alloc (.cells #[.slice ad5 n5.length cp5, .slice ad7 n7.length cp7] 53)) (.slice (some ⟨X7.heap.size, 0, none⟩) 2 2) [(.slice ad5 n5.length cp5, n5), (.slice ad7 n7.length cp7, n7)]) := (z47 [(.slice ad5 n5.length cp5, n5), (.slice ad7 n7.length cp7, n7)] _ rfl A7.out.1.ltB A7.out.1.ltG (fun x hx => by simp at hx; rcases hx with rfl | rfl; exact (N5.out.1.grew G7.out); exact N7.out.1))
       have A9 := hid (A7.out.alloc (.cells #[.slice ad5 n5.length cp5, .slice ad7 n7.length cp7] 53))
       have G9 := hid ((Grew.refl d X7).alloc (.cells #[.slice ad5 n5.length cp5, .slice ad7 n7.length cp7] 53))
       have cq10 := ((G5.out.trans (G7.out.trans G9.out)).cell (p := ⟨q, m3.toNat, none⟩) ⟨z26 RBn.out, (show q ≠ d.B by have := HQ.out.1; omega), (show q ≠ d.G by have := HQ.out.2; omega)⟩).trans cq
       refine z29 (i := 21) (v := .slice (some ⟨X7.heap.size, 0, none⟩) 2 2) (w1 := X7.alloc (.cells #[.slice ad5 n5.length cp5, .slice ad7 n7.length cp7] 53)) rfl (by kernel_rfl) rfl rfl (by simp [go_sem]) ⟨A9.out.1.c0, cq10⟩ (by simp [go_sem]; exact rfl) ?_
       generalize X7.alloc (.cells #[.slice ad5 n5.length cp5, .slice ad7 n7.length cp7] 53) = X9 at *
       refine z27 (i := 22) (f := 56) (args := #[.agg #[.int .i64 kv, .int .i64 0, .string ⟨#[]⟩, .string ⟨#[]⟩, .string ⟨#[]⟩, .int .i64 0], .slice (some ⟨X7.heap.size, 0, none⟩) 2 2]) rfl (by kernel_rfl) rfl rfl (by simp [go_sem]) ?_
       refine (A9.out.put_kids kv 0 0 ⟨#[]⟩ ⟨#[]⟩ ⟨#[]⟩ KV.out ⟨z14, z14, z14⟩ (by simp) (by have := A9.out.bound HF.out (by omega) (by decide); have := N5.out.2; have := N7.out.2; simp [flatL]; omega)).mono ?_
       rintro e X11 ⟨v11, n11, rfl, hn11, hl11, ha, hg⟩
       have A11 := hid ha
       have G11 := hid hg
       clear ha hg
       have N11 := hid (And.intro hn11 hl11)
       clear hn11 hl11
       have cq12 := ((G5.out.trans (G7.out.trans (G9.out.trans G11.out))).cell (p := ⟨q, m3.toNat, none⟩) ⟨z26 RBn.out, (show q ≠ d.B by have := HQ.out.1; omega), (show q ≠ d.G by have := HQ.out.2; omega)⟩).trans cq
       refine ⟨_, rfl, ⟨A11.out.1.c0, cq12⟩, ?_⟩
       refine z15 (by simp [go_sem]; exact rfl) ?_
       refine pick_o 23 v11 ⟨A11.out.1.c0, cq12⟩ ?_
       refine z32 (by kernel_rfl) ?_
       go_wp2_with fail
       go_ret
       exact A11.out.done 1 N11.out.1 (by have := N11.out.2; have := N5.out.2; have := N7.out.2; simp [flatL] at *; omega) (by omega)
     · refine ⟨_, 30, #[.pointer (some ⟨d.G, 0, none⟩), .int .i64 1, .slice ad ks.length cp, .slice adm ms.length cpm, .int .i64 deep], rfl, rfl, by simp [go_sem], ?_⟩
       refine (A3.out.nodes (HO.out deep 1 _ _ _ _ _ _ (by have := HD.out; omega) (by have := HD.out; omega) (A3.out.fit HF.out 10 (by omega)) A3.out.1 (HE.out.grew (G1.out.trans (G2.out.trans G3.out))).down)).mono ?_
       rintro e X4 ⟨v4, n4, s4, t4, rfl, hn4, hl4, ha, hg⟩
       have A4 := hid ha
       have G4 := hid hg
       clear ha hg
       have N4 := hid (And.intro hn4 hl4)
       obtain ⟨ad4, cp4, rfl⟩ := hn4.is
       clear hn4 hl4
       refine ⟨_, rfl, (A4.out.1.c0), ?_⟩
       refine z15 (by simp [go_sem]; exact rfl) ?_
       refine z46 (i := 0) (j := 20) (by kernel_rfl) ?_ ?_
       · have RB := hid (MapKept.heap_alloc X4 (.cells #[.int .i64 11, .int .i64 12] 3)).1
         have HQ := hid (And.intro A4.out.1.ltB A4.out.1.ltG)
         have A5 := hid (A4.out.alloc (.cells #[.int .i64 11, .int .i64 12] 3))
         have G5 := hid ((Grew.refl d X4).alloc (.cells #[.int .i64 11, .int .i64 12] 3))
         refine ⟨_, .slice (some ⟨X4.heap.size, 0, none⟩) 2 2, X4.alloc (.cells #[.int .i64 11, .int .i64 12] 3), rfl, rfl, by simp [go_sem], A5.out.1.c0, ?_⟩
         refine z15 (by simp [go_sem]; exact rfl) ?_
         generalize X4.alloc (.cells #[.int .i64 11, .int .i64 12] 3) = X5 at *
         obtain ⟨q, hq⟩ : ∃ q, X4.heap.size = q := ⟨_, rfl⟩
         rw [hq] at RB HQ ⊢
         clear hq
         obtain ⟨kv, hkv⟩ := two_get 11 12 m3 hm3 hM3
         have cq := (z11 RB.out m3.toNat).trans hkv
         have RBn := hid RB.out
         clear hkv
         refine pick_o (hy := fun w' hw => by simp [go_sem, hm3, hM3]) 6 (.pointer (some ⟨q, m3.toNat, none⟩)) (A5.out.1.c0) ?_
         refine z54 (fun w' => w'.cell? ⟨d.G, 0, none⟩ = some (.pointer (some ⟨d.B, 0, none⟩)) ∧ w'.cell? ⟨q, m3.toNat, none⟩ = some (.int .i64 kv)) (fun w h => h.1) ?_
         refine pick_o (hy := fun w' hw => by simp [go_sem, hw.2]) 7 (.int .i64 kv) ⟨A5.out.1.c0, cq⟩ ?_
         refine pick_o 8 (.agg #[.int .i64 kv, .int .i64 0, .string ⟨#[]⟩, .string ⟨#[]⟩, .string ⟨#[]⟩, .int .i64 0]) ⟨A5.out.1.c0, cq⟩ ?_
         refine z27 (i := 20) (f := 30) (args := #[.pointer (some ⟨d.G, 0, none⟩), .int .i64 1, .slice ad ks.length cp, .slice adm ms.length cpm, .int .i64 deep]) rfl (by kernel_rfl) rfl rfl (by simp [go_sem]) ?_
         refine (A5.out.nodes (HO.out deep 1 _ _ _ _ _ _ (by have := HD.out; omega) (by have := HD.out; omega) (A5.out.fit HF.out 10 (by omega)) A5.out.1 (HE.out.grew (G1.out.trans (G2.out.trans (G3.out.trans (G4.out.trans G5.out))))).down)).mono ?_
         rintro e X6 ⟨v6, n6, s6, t6, rfl, hn6, hl6, ha, hg⟩
         have A6 := hid ha
         have G6 := hid hg
         clear ha hg
         have N6 := hid (And.intro hn6 hl6)
         obtain ⟨ad6, cp6, rfl⟩ := hn6.is
         clear hn6 hl6
         have cq7 := (G6.out.cell (p := ⟨q, m3.toNat, none⟩) ⟨z26 RBn.out, (show q ≠ d.B by have := HQ.out.1; omega), (show q ≠ d.G by have := HQ.out.2; omega)⟩).trans cq
         refine ⟨_, rfl, ⟨A6.out.1.c0, cq7⟩, ?_⟩
         refine z15 (by simp [go_sem]; exact rfl) ?_
         have KV : Hid (KidsV d (X6.alloc (.cells #[.slice ad4 n4.length cp4, .slice ad6 n6.length cp6] 53)) (.slice (some ⟨X6.heap.size, 0, none⟩) 2 2) [(.slice ad4 n4.length cp4, n4), (.slice ad6 n6.length cp6, n6)]) := (z47 [(.slice ad4 n4.length cp4, n4), (.slice ad6 n6.length cp6, n6)] _ rfl A6.out.1.ltB A6.out.1.ltG (fun x hx => by simp at hx; rcases hx with rfl | rfl; exact (N4.out.1.grew (G5.out.trans G6.out)); exact N6.out.1))
         have A8 := hid (A6.out.alloc (.cells #[.slice ad4 n4.length cp4, .slice ad6 n6.length cp6] 53))
         have G8 := hid ((Grew.refl d X6).alloc (.cells #[.slice ad4 n4.length cp4, .slice ad6 n6.length cp6] 53))
         have cq9 := ((G6.out.trans G8.out).cell (p := ⟨q, m3.toNat, none⟩) ⟨z26 RBn.out, (show q ≠ d.B by have := HQ.out.1; omega), (show q ≠ d.G by have := HQ.out.2; omega)⟩).trans cq
         refine z29 (i := 21) (v := .slice (some ⟨X6.heap.size, 0, none⟩) 2 2) (w1 := X6.alloc (.cells #[.slice ad4 n4.length cp4, .slice ad6 n6.length cp6] 53)) rfl (by kernel_rfl) rfl rfl (by simp [go_sem]) ⟨A8.out.1.c0, cq9⟩ (by simp [go_sem]; exact rfl) ?_
         generalize X6.alloc (.cells #[.slice ad4 n4.length cp4, .slice ad6 n6.length cp6] 53) = X8 at *
         refine z27 (i := 22) (f := 56) (args := #[.agg #[.int .i64 kv, .int .i64 0, .string ⟨#[]⟩, .string ⟨#[]⟩, .string ⟨#[]⟩, .int .i64 0], .slice (some ⟨X6.heap.size, 0, none⟩) 2 2]) rfl (by kernel_rfl) rfl rfl (by simp [go_sem]) ?_
         refine (A8.out.put_kids kv 0 0 ⟨#[]⟩ ⟨#[]⟩ ⟨#[]⟩ KV.out ⟨z14, z14, z14⟩ (by simp) (by have := A8.out.bound HF.out (by omega) (by decide); have := N4.out.2; have := N6.out.2; simp [flatL]; omega)).mono ?_
         rintro e X10 ⟨v10, n10, rfl, hn10, hl10, ha, hg⟩
         have A10 := hid ha
         have G10 := hid hg
         clear ha hg
         have N10 := hid (And.intro hn10 hl10)
         clear hn10 hl10
         have cq11 := ((G6.out.trans (G8.out.trans G10.out)).cell (p := ⟨q, m3.toNat, none⟩) ⟨z26 RBn.out, (show q ≠ d.B by have := HQ.out.1; omega), (show q ≠ d.G by have := HQ.out.2; omega)⟩).trans cq
         refine ⟨_, rfl, ⟨A10.out.1.c0, cq11⟩, ?_⟩
         refine z15 (by simp [go_sem]; exact rfl) ?_
         refine pick_o 23 v10 ⟨A10.out.1.c0, cq11⟩ ?_
         refine z32 (by kernel_rfl) ?_
         go_wp2_with fail
         go_ret
         exact A10.out.done 1 N10.out.1 (by have := N10.out.2; have := N4.out.2; have := N6.out.2; simp [flatL] at *; omega) (by omega)
       · refine ⟨_, 30, #[.pointer (some ⟨d.G, 0, none⟩), .int .i64 1, .slice ad ks.length cp, .slice adm ms.length cpm, .int .i64 deep], rfl, rfl, by simp [go_sem], ?_⟩
         refine (A4.out.nodes (HO.out deep 1 _ _ _ _ _ _ (by have := HD.out; omega) (by have := HD.out; omega) (A4.out.fit HF.out 10 (by omega)) A4.out.1 (HE.out.grew (G1.out.trans (G2.out.trans (G3.out.trans G4.out)))).down)).mono ?_
         rintro e X5 ⟨v5, n5, s5, t5, rfl, hn5, hl5, ha, hg⟩
         have A5 := hid ha
         have G5 := hid hg
         clear ha hg
         have N5 := hid (And.intro hn5 hl5)
         obtain ⟨ad5, cp5, rfl⟩ := hn5.is
         clear hn5 hl5
         refine ⟨_, rfl, (A5.out.1.c0), ?_⟩
         refine z15 (by simp [go_sem]; exact rfl) ?_
         refine pick_fork (i := 0) (j := 21) (by kernel_rfl) ?_ ?_
         · have RB := hid (MapKept.heap_alloc X5 (.cells #[.int .i64 11, .int .i64 12] 3)).1
           have HQ := hid (And.intro A5.out.1.ltB A5.out.1.ltG)
           have A6 := hid (A5.out.alloc (.cells #[.int .i64 11, .int .i64 12] 3))
           have G6 := hid ((Grew.refl d X5).alloc (.cells #[.int .i64 11, .int .i64 12] 3))
           refine ⟨_, .slice (some ⟨X5.heap.size, 0, none⟩) 2 2, X5.alloc (.cells #[.int .i64 11, .int .i64 12] 3), rfl, rfl, by simp [go_sem], A6.out.1.c0, ?_⟩
           refine z15 (by simp [go_sem]; exact rfl) ?_
           generalize X5.alloc (.cells #[.int .i64 11, .int .i64 12] 3) = X6 at *
           obtain ⟨q, hq⟩ : ∃ q, X5.heap.size = q := ⟨_, rfl⟩
           rw [hq] at RB HQ ⊢
           clear hq
           obtain ⟨kv, hkv⟩ := two_get 11 12 m3 hm3 hM3
           have cq := (z11 RB.out m3.toNat).trans hkv
           have RBn := hid RB.out
           clear hkv
           refine pick_o (hy := fun w' hw => by simp [go_sem, hm3, hM3]) 6 (.pointer (some ⟨q, m3.toNat, none⟩)) (A6.out.1.c0) ?_
           refine z54 (fun w' => w'.cell? ⟨d.G, 0, none⟩ = some (.pointer (some ⟨d.B, 0, none⟩)) ∧ w'.cell? ⟨q, m3.toNat, none⟩ = some (.int .i64 kv)) (fun w h => h.1) ?_
           refine pick_o (hy := fun w' hw => by simp [go_sem, hw.2]) 7 (.int .i64 kv) ⟨A6.out.1.c0, cq⟩ ?_
           refine pick_o 8 (.agg #[.int .i64 kv, .int .i64 0, .string ⟨#[]⟩, .string ⟨#[]⟩, .string ⟨#[]⟩, .int .i64 0]) ⟨A6.out.1.c0, cq⟩ ?_
           have KV : Hid (KidsV d (X6.alloc (.cells #[.slice ad4 n4.length cp4, .slice ad5 n5.length cp5] 53)) (.slice (some ⟨X6.heap.size, 0, none⟩) 2 2) [(.slice ad4 n4.length cp4, n4), (.slice ad5 n5.length cp5, n5)]) := (z47 [(.slice ad4 n4.length cp4, n4), (.slice ad5 n5.length cp5, n5)] _ rfl A6.out.1.ltB A6.out.1.ltG (fun x hx => by simp at hx; rcases hx with rfl | rfl; exact (N4.out.1.grew (G5.out.trans G6.out)); exact (N5.out.1.grew G6.out)))
           have A7 := hid (A6.out.alloc (.cells #[.slice ad4 n4.length cp4, .slice ad5 n5.length cp5] 53))
           have G7 := hid ((Grew.refl d X6).alloc (.cells #[.slice ad4 n4.length cp4, .slice ad5 n5.length cp5] 53))
           have cq8 := (G7.out.cell (p := ⟨q, m3.toNat, none⟩) ⟨z26 RBn.out, (show q ≠ d.B by have := HQ.out.1; omega), (show q ≠ d.G by have := HQ.out.2; omega)⟩).trans cq
           refine z29 (i := 21) (v := .slice (some ⟨X6.heap.size, 0, none⟩) 2 2) (w1 := X6.alloc (.cells #[.slice ad4 n4.length cp4, .slice ad5 n5.length cp5] 53)) rfl (by kernel_rfl) rfl rfl (by simp [go_sem]) ⟨A7.out.1.c0, cq8⟩ (by simp [go_sem]; exact rfl) ?_
           generalize X6.alloc (.cells #[.slice ad4 n4.length cp4, .slice ad5 n5.length cp5] 53) = X7 at *
           refine z27 (i := 22) (f := 56) (args := #[.agg #[.int .i64 kv, .int .i64 0, .string ⟨#[]⟩, .string ⟨#[]⟩, .string ⟨#[]⟩, .int .i64 0], .slice (some ⟨X6.heap.size, 0, none⟩) 2 2]) rfl (by kernel_rfl) rfl rfl (by simp [go_sem]) ?_
           refine (A7.out.put_kids kv 0 0 ⟨#[]⟩ ⟨#[]⟩ ⟨#[]⟩ KV.out ⟨z14, z14, z14⟩ (by simp) (by have := A7.out.bound HF.out (by omega) (by decide); have := N4.out.2; have := N5.out.2; simp [flatL]; omega)).mono ?_
           rintro e X9 ⟨v9, n9, rfl, hn9, hl9, ha, hg⟩
           have A9 := hid ha
           have G9 := hid hg
           clear ha hg
           have N9 := hid (And.intro hn9 hl9)
           clear hn9 hl9
           have cq10 := ((G7.out.trans G9.out).cell (p := ⟨q, m3.toNat, none⟩) ⟨z26 RBn.out, (show q ≠ d.B by have := HQ.out.1; omega), (show q ≠ d.G by have := HQ.out.2; omega)⟩).trans cq
           refine ⟨_, rfl, ⟨A9.out.1.c0, cq10⟩, ?_⟩
           refine z15 (by simp [go_sem]; exact rfl) ?_
           refine pick_o 23 v9 ⟨A9.out.1.c0, cq10⟩ ?_
           refine z32 (by kernel_rfl) ?_
           go_wp2_with fail
           go_ret
           exact A9.out.done 1 N9.out.1 (by have := N9.out.2; have := N4.out.2; have := N5.out.2; simp [flatL] at *; omega) (by omega)
         · have KV : Hid (KidsV d (X5.alloc (.cells #[.slice ad4 n4.length cp4, .slice ad5 n5.length cp5] 53)) (.slice (some ⟨X5.heap.size, 0, none⟩) 2 2) [(.slice ad4 n4.length cp4, n4), (.slice ad5 n5.length cp5, n5)]) := (z47 [(.slice ad4 n4.length cp4, n4), (.slice ad5 n5.length cp5, n5)] _ rfl A5.out.1.ltB A5.out.1.ltG (fun x hx => by simp at hx; rcases hx with rfl | rfl; exact (N4.out.1.grew G5.out); exact N5.out.1))
           have A6 := hid (A5.out.alloc (.cells #[.slice ad4 n4.length cp4, .slice ad5 n5.length cp5] 53))
           have G6 := hid ((Grew.refl d X5).alloc (.cells #[.slice ad4 n4.length cp4, .slice ad5 n5.length cp5] 53))
           refine ⟨_, .slice (some ⟨X5.heap.size, 0, none⟩) 2 2, X5.alloc (.cells #[.slice ad4 n4.length cp4, .slice ad5 n5.length cp5] 53), rfl, rfl, by simp [go_sem], (A6.out.1.c0), ?_⟩
           refine z15 (by simp [go_sem]; exact rfl) ?_
           generalize X5.alloc (.cells #[.slice ad4 n4.length cp4, .slice ad5 n5.length cp5] 53) = X6 at *
           have RB := hid (MapKept.heap_alloc X6 (.cells #[.int .i64 11, .int .i64 12] 3)).1
           have HQ := hid (And.intro A6.out.1.ltB A6.out.1.ltG)
           have A7 := hid (A6.out.alloc (.cells #[.int .i64 11, .int .i64 12] 3))
           have G7 := hid ((Grew.refl d X6).alloc (.cells #[.int .i64 11, .int .i64 12] 3))
           refine z29 (i := 0) (v := .slice (some ⟨X6.heap.size, 0, none⟩) 2 2) (w1 := X6.alloc (.cells #[.int .i64 11, .int .i64 12] 3)) rfl (by kernel_rfl) rfl rfl (by simp [go_sem]) A7.out.1.c0 (by simp [go_sem]; exact rfl) ?_
           generalize X6.alloc (.cells #[.int .i64 11, .int .i64 12] 3) = X7 at *
           obtain ⟨q, hq⟩ : ∃ q, X6.heap.size = q := ⟨_, rfl⟩
           rw [hq] at RB HQ ⊢
           clear hq
           obtain ⟨kv, hkv⟩ := two_get 11 12 m3 hm3 hM3
           have cq := (z11 RB.out m3.toNat).trans hkv
           have RBn := hid RB.out
           clear hkv
           refine pick_o (hy := fun w' hw => by simp [go_sem, hm3, hM3]) 6 (.pointer (some ⟨q, m3.toNat, none⟩)) (A7.out.1.c0) ?_
           refine z54 (fun w' => w'.cell? ⟨d.G, 0, none⟩ = some (.pointer (some ⟨d.B, 0, none⟩)) ∧ w'.cell? ⟨q, m3.toNat, none⟩ = some (.int .i64 kv)) (fun w h => h.1) ?_
           refine pick_o (hy := fun w' hw => by simp [go_sem, hw.2]) 7 (.int .i64 kv) ⟨A7.out.1.c0, cq⟩ ?_
           refine pick_o 8 (.agg #[.int .i64 kv, .int .i64 0, .string ⟨#[]⟩, .string ⟨#[]⟩, .string ⟨#[]⟩, .int .i64 0]) ⟨A7.out.1.c0, cq⟩ ?_
           refine z27 (i := 22) (f := 56) (args := #[.agg #[.int .i64 kv, .int .i64 0, .string ⟨#[]⟩, .string ⟨#[]⟩, .string ⟨#[]⟩, .int .i64 0], .slice (some ⟨X5.heap.size, 0, none⟩) 2 2]) rfl (by kernel_rfl) rfl rfl (by simp [go_sem]) ?_
           refine (A7.out.put_kids kv 0 0 ⟨#[]⟩ ⟨#[]⟩ ⟨#[]⟩ (KV.out.grew G7.out) ⟨z14, z14, z14⟩ (by simp) (by have := A7.out.bound HF.out (by omega) (by decide); have := N4.out.2; have := N5.out.2; simp [flatL]; omega)).mono ?_
           rintro e X8 ⟨v8, n8, rfl, hn8, hl8, ha, hg⟩
           have A8 := hid ha
           have G8 := hid hg
           clear ha hg
           have N8 := hid (And.intro hn8 hl8)
           clear hn8 hl8
           have cq9 := (G8.out.cell (p := ⟨q, m3.toNat, none⟩) ⟨z26 RBn.out, (show q ≠ d.B by have := HQ.out.1; omega), (show q ≠ d.G by have := HQ.out.2; omega)⟩).trans cq
           refine ⟨_, rfl, ⟨A8.out.1.c0, cq9⟩, ?_⟩
           refine z15 (by simp [go_sem]; exact rfl) ?_
           refine pick_o 23 v8 ⟨A8.out.1.c0, cq9⟩ ?_
           refine z32 (by kernel_rfl) ?_
           go_wp2_with fail
           go_ret
           exact A8.out.done 1 N8.out.1 (by have := N8.out.2; have := N4.out.2; have := N5.out.2; simp [flatL] at *; omega) (by omega)
theorem gown_calls {d : Dr} {ve v vm : Value} {es : List Ef} {W : World} {s : Cn} {ks : List Kn} {ms : List Bool} {D : Nat} (ty deep : Int) (hO : OfC d ve es D) (h1 : deep ≤ D) (h2 : -90 ≤ deep) (h3 : D ≤ 100) (h : Gen d ve W s) (hf : Fit s 100) (hE : Env d ve es W v ks vm ms (D + 1)) :
   Calls Tryz.prog 62 #[.pointer (some ⟨d.G, 0, none⟩), .int .i64 ty, v, vm, .int .i64 deep] W (NodesPost d ve W s 100) := by
 by_cases t1 : ty = 1
 · exact own1 ty t1 deep hO h1 h2 h3 h hf hE
 by_cases t2 : ty = 2
 · exact own2 ty t2 deep hO h1 h2 h3 h hf hE
 by_cases t3 : ty = 3
 · exact own3 ty t3 deep hO h1 h2 h3 h hf hE
 by_cases t4 : ty = 4
 · exact own4 ty t4 deep hO h1 h2 h3 h hf hE
 exact own5 ty t1 t2 t3 t4 deep hO h1 h2 h3 h hf hE
end
section
open Go.RowKit Go.Deep
theorem g_type {W : World} {B : Nat} {e : TypeId} {sz : Nat} {v : Value} {n : Nat} {xs : List Value} (h : W.ownsRow B e sz v n xs) {g : Nat} (hg : v.ownBlock = some g) : B ≤ g ∧ ∃ cur, W.heap[g]? = some (.cells cur e) := by
 obtain ⟨-, ⟨rfl, h0⟩ | ⟨g', cap, cur, rfl, hB, hc, -⟩⟩ := h
 · simp [Value.ownBlock] at hg
 · simp [Value.ownBlock] at hg
   subst hg
   exact ⟨hB, cur, hc⟩
theorem g_same {W W' : World} {B : Nat} {e : TypeId} {sz : Nat} {v : Value} {n : Nat} {xs : List Value} (h : W.ownsRow B e sz v n xs) (he : ∀ g, v.ownBlock = some g → W'.heap[g]? = W.heap[g]?) : W'.ownsRow B e sz v n xs := by
 obtain ⟨h0, ⟨rfl, h1⟩ | ⟨g, cap, cur, rfl, hB, hc, hr⟩⟩ := h
 · exact ⟨h0, Or.inl ⟨rfl, h1⟩⟩
 · exact ⟨h0, Or.inr ⟨g, cap, cur, rfl, hB, (he g (by simp [Value.ownBlock])).trans hc, hr⟩⟩
theorem g_is {W : World} {B : Nat} {e : TypeId} {sz : Nat} {v : Value} {n : Nat} {xs : List Value} (h : W.ownsRow B e sz v n xs) : ∃ ad c, v = .slice ad n c := by
 obtain ⟨-, ⟨rfl, h0⟩ | ⟨g', cap, cur, rfl, -⟩⟩ := h
 · exact ⟨none, 0, by rw [h0]⟩
 · exact ⟨_, _, rfl⟩
theorem g_grew {d : Dr} {W W' : World} {B : Nat} {e : TypeId} {sz : Nat} {v : Value} {n : Nat} {xs : List Value} (h : W.ownsRow B e sz v n xs) (h1 : d.B < B) (h2 : d.G < B) (g : Grew d W W') : W'.ownsRow B e sz v n xs :=
 g_same h fun k hk => g.block k ⟨(h.lt k hk).2, by have := (h.lt k hk).1; omega, by have := (h.lt k hk).1; omega⟩
theorem g_other {W W' : World} {B B' : Nat} {e e' : TypeId} {sz sz' : Nat} {v u : Value} {n m : Nat} {xs ys : List Value} (h : W.ownsRow B e sz v n xs) (hu : W.ownsRow B' e' sz' u m ys) (hg : W.grownBy W' u.ownBlock) (hne : e ≠ e') : W'.ownsRow B e sz v n xs :=
 g_same h fun k hk => hg.block k (h.lt k hk).2 fun ek => by
   obtain ⟨-, c1, hc1⟩ := g_type h hk
   obtain ⟨-, c2, hc2⟩ := g_type hu ek.symm
   rw [hc1] at hc2
   cases hc2
   exact hne rfl
theorem At.own {d : Dr} {ve : Value} {W X X' : World} {s s1 : Cn} {t c : Nat} {row : Option Nat} (h : At d ve W s X s1 t c) (h0 : Gen d ve W s) (hg : X.grownBy X' row) (hr : ∀ g, row = some g → W.heap.size ≤ g) : At d ve W s X' s1 t c := by
 have hs := h.2.1.size
 have h1 := h0.ltB
 have h2 := h0.ltG
 have hne : ∀ q, q < W.heap.size → some q ≠ row := fun q hq e => by have := hr q e.symm; omega
 have hgr : Grew d W X' := ⟨hg.os.trans h.2.1.os, hg.tape.trans h.2.1.tape, hg.output.trans h.2.1.output, Nat.le_trans hs hg.size, fun q hq => (hg.block q (by have := hq.1; omega) (hne q hq.1)).trans (h.2.1.block q hq)⟩
 refine ⟨⟨⟨(hg.block _ (by omega) (hne _ h1)).trans h.1.rd.blk, fun hl => ?_⟩, (hg.block _ (by omega) (hne _ h2)).trans h.1.blk, h.1.ne⟩, hgr, h.2.2⟩
 obtain ⟨b, off, ea, hq, hz⟩ := h0.rd.bytes hl
 refine ⟨b, off, ea, hq.grew hgr, fun i hi => ?_⟩
 obtain ⟨z, hz, h3⟩ := hz i hi
 exact ⟨z, (hgr.cell (p := ⟨b, off + i, none⟩) hq).trans hz, h3⟩
theorem Lies.congr {d : Dr} {W : World} {v : Value} {n sz : Nat} {F H : Nat → Value} (h : Lies d W v n sz F) (e : ∀ i, i < n * sz → F i = H i) : Lies d W v n sz H := by
 rcases h with h | ⟨b, off, cap, h1, h2, h3, h4, h5⟩
 · exact Or.inl h
 · exact Or.inr ⟨b, off, cap, h1, h2, h3, h4, fun i hi => by rw [h5 i hi, e i hi]⟩
def boV (b : Bool) (_ : Nat) : Value := .bool b
def gnV (j : Nat) (_ : Nat) : Value := .int .i64 (j : Int)
theorem info_bool : (Tryz.prog.info? 4).map (fun i => (i.zero, i.size, i.bytes)) = some (some (.bool false), 1, 1) := by kernel_rfl
theorem info_int : (Tryz.prog.info? 3).map (fun i => (i.zero, i.size, i.bytes)) = some (some (.int .i64 0), 1, 8) := by kernel_rfl
theorem info_list : (Tryz.prog.info? 53).map (fun i => (i.zero, i.size, i.bytes)) = some (some (.slice none 0 0), 1, 24) := by kernel_rfl
theorem bools_lies {d : Dr} {W : World} {v : Value} {ms : List Bool} (h : BoolsD d W v ms) : Lies d W v ms.length 1 (fun i => boV (ms.getD (i / 1) default) (i % 1)) :=
 Lies.congr h fun i _ => by rw [Nat.div_one]; rfl
theorem bools_own {d : Dr} {W : World} {B : Nat} {v : Value} {ms : List Bool} (h : W.ownsRow B 4 1 v ms.length (rowZ boV 1 ms)) (h1 : d.B < B) (h2 : d.G < B) : BoolsD d W v ms :=
 (lies_owns (f := boV) (by decide) h h1 h2).congr fun i _ => by rw [Nat.div_one]; rfl
theorem rowZ_set (ms : List Bool) (i : Nat) (b : Bool) : (rowZ boV 1 ms).set i (.bool b) = rowZ boV 1 (ms.set i b) := by
 have e : ∀ l : List Bool, rowZ boV 1 l = l.map fun x => .bool x := fun l => by
   unfold rowZ
   induction l with
   | nil => rfl
   | cons x l ih => rw [List.flatMap_cons, ih]; rfl
 rw [e, e, List.map_set]
theorem bools_set {W : World} {B : Nat} {v : Value} {ms : List Bool} (h : W.ownsRow B 4 1 v ms.length (rowZ boV 1 ms)) {i : Nat} (hi : i < ms.length) (b : Bool) :
   ∃ g cap u, v = .slice (some ⟨g, 0, none⟩) ms.length cap ∧ B ≤ g ∧ g < W.heap.size ∧ W.cell? ⟨g, i, none⟩ = some u ∧ W.frozen? ⟨g, i, none⟩ = false ∧ (W.setCell ⟨g, i, none⟩ (.bool b)).ownsRow B 4 1 v (ms.set i b).length (rowZ boV 1 (ms.set i b)) ∧ W.grownBy (W.setCell ⟨g, i, none⟩ (.bool b)) (some g) := by
 have h' := h
 obtain ⟨-, ⟨-, h0⟩ | ⟨g, cap, cur, rfl, hB, hc, hnc, hcm, hsz, htake⟩⟩ := h
 · omega
 · refine ⟨g, cap, _, rfl, hB, z26 hc, (h'.cellAt i (by omega)).trans (z48 boV 1 (by decide) ms i (by omega)), z13 hc i, ?_, kept_set (kept_refl W (some g)) i _⟩
   refine ⟨rowZ_len _ _ _, Or.inr ⟨g, cap, cur.setIfInBounds i (.bool b), by rw [List.length_set], hB, ?_, by rw [List.length_set]; exact hnc, hcm, by simpa using hsz, ?_⟩⟩
   · rw [setCell_eq_setRow W g i cur 4 (0, 0) (.bool b) hc]
     exact setRow_heap W g _ _ 4 _ hc
   · rw [← rowZ_set, ← htake, List.length_set, Array.toList_setIfInBounds, List.take_set]

structure Kd where
 ad : Option Addr
 cp : Nat
 ns : List Nd

instance : Inhabited Kd := ⟨⟨none, 0, []⟩⟩
def Kd.val (k : Kd) : Value := .slice k.ad k.ns.length k.cp
def kdV (k : Kd) (_ : Nat) : Value := k.val
theorem kd_one (k : Kd) (i : Nat) : (kdV k i).oneCell' = true := rfl
theorem in_one (j i : Nat) : (gnV j i).oneCell' = true := rfl
theorem bo_one (b : Bool) (i : Nat) : (boV b i).oneCell' = true := rfl
def kdL (ls : List Kd) : List (Value × List Nd) := ls.map fun k => (k.val, k.ns)
theorem kids_own {d : Dr} {X : World} {B : Nat} {v : Value} {ls : List Kd} (h : X.ownsRow B 53 1 v ls.length (rowZ kdV 1 ls)) (h1 : d.B < B) (h2 : d.G < B) (hn : ∀ k ∈ ls, NodesD d X k.val k.ns) : KidsV d X v (kdL ls) := by
 refine ⟨?_, fun x hx => ?_⟩
 · have hl : (kdL ls).length = ls.length := by simp [kdL]
   rw [hl]
   refine (lies_owns (f := kdV) (by decide) h h1 h2).congr fun i hi => ?_
   rw [Nat.div_one]
   rw [Nat.mul_one] at hi
   simp [kdL, kdV, List.getD, hi]
 · unfold kdL at hx
   rw [List.mem_map] at hx
   obtain ⟨k, hk, rfl⟩ := hx
   exact hn k hk
theorem NodesD.other {d : Dr} {X X' : World} {v u : Value} {ns : List Nd} {B : Nat} {ls : List Kd} (h : NodesD d X v ns) (hu : X.ownsRow B 53 1 u ls.length (rowZ kdV 1 ls)) (h1 : 1 ≤ ls.length) (hg : X.grownBy X' u.ownBlock) : NodesD d X' v ns := by
 obtain ⟨h, hb⟩ := h
 refine ⟨?_, hb⟩
 rcases h with h | ⟨b, off, cap, rfl, hn, rfl, hq, hc⟩
 · exact Or.inl h
 · refine Or.inr ⟨b, 0, cap, rfl, hn, rfl, ⟨Nat.lt_of_lt_of_le hq.1 hg.size, hq.2⟩, fun i hi => ?_⟩
   have hne : some b ≠ u.ownBlock := fun e => by
     have h' := hu
     obtain ⟨-, ⟨-, h0⟩ | ⟨g, cap', cur, rfl, hB, hcc, -⟩⟩ := hu
     · omega
     · simp [Value.ownBlock] at e
       subst e
       have e1 := h'.cellAt 0 (by omega)
       rw [z48 kdV 1 (by decide) ls 0 (by omega)] at e1
       have e2 := hc 0 (by omega)
       rw [Nat.zero_add, e1] at e2
       cases e2
   exact (World.cell?_of_block (a := ⟨b, 0 + i, none⟩) (hg.block b hq.1 hne)).trans (hc i hi)

structure Hn (d : Dr) (ve : Value) (W : World) (s : Cn) (X : World) (s1 : Cn) (t c : Nat) (vk : Value) (ls : List Kd) (vo : Value) (os : List Nat) : Prop where
 at_ : At d ve W s X s1 t c
 kids : X.ownsRow W.heap.size 53 1 vk ls.length (rowZ kdV 1 ls)
 ops : X.ownsRow W.heap.size 3 1 vo os.length (rowZ gnV 1 os)
 nodes : ∀ k ∈ ls, NodesD d X k.val k.ns
 some_ : 1 ≤ ls.length
theorem kd_lit {d : Dr} (X : World) (k : Kd) (h1 : d.B < X.heap.size) (h2 : d.G < X.heap.size) : Lies d (X.alloc (.cells #[.slice k.ad k.ns.length k.cp] 53)) (.slice (some ⟨X.heap.size, 0, none⟩) 1 1) [k].length 1 (fun i => kdV ([k].getD (i / 1) default) (i % 1)) :=
 lies_lit (f := kdV) (sz := 1) (by decide) X 53 [k] _ rfl h1 h2
theorem hn_start {d : Dr} {ve : Value} {W X : World} {s s1 : Cn} {t c : Nat} {vo : Value} {os : List Nat} (ha : At d ve W s X s1 t c) (ho : X.ownsRow W.heap.size 3 1 vo os.length (rowZ gnV 1 os)) (k1 k2 : Kd) (h1 : NodesD d X k1.val k1.ns) (h2 : NodesD d X k2.val k2.ns) :
   Hn d ve W s (X.alloc (.cells #[k1.val, k2.val] 53)) s1 t c (.slice (some ⟨X.heap.size, 0, none⟩) 2 2) [k1, k2] vo os := by
 have hg : Grew d X (X.alloc (.cells #[k1.val, k2.val] 53)) := (Grew.refl d X).alloc _
 refine ⟨ha.alloc _, World.ownsRow_lit (base := W.heap.size) (e := 53) (size := 1) X #[k1.val, k2.val] 2 ha.2.1.size (by unfold maxLen; omega) rfl, ho.alloc _, fun k hk => ?_, by simp⟩
 simp at hk
 rcases hk with rfl | rfl
 · exact h1.grew hg
 · exact h2.grew hg
def boxW (X : World) (nm : ByteArray) (ar re : Int) : World := (((X.alloc (.cells #[.string ⟨#[]⟩, .int .i64 0, .int .i64 0] 112)).setCell ⟨X.heap.size, 0, none⟩ (.string nm)).setCell ⟨X.heap.size, 1, none⟩ (.int .i64 ar)).setCell ⟨X.heap.size, 2, none⟩ (.int .i64 re)
theorem set_heap {W : World} {g i : Nat} {c : Array Value} {t : TypeId} {v : Value} (h : W.heap[g]? = some (.cells c t)) : (W.setCell ⟨g, i, none⟩ v).heap[g]? = some (.cells (c.setIfInBounds i v) t) := by
 rw [setCell_eq_setRow W g i c t (0, 0) v h]
 exact setRow_heap W g _ _ t _ h
theorem boxW_heap (X : World) (nm : ByteArray) (ar re : Int) : (boxW X nm ar re).heap[X.heap.size]? = some (.cells #[.string nm, .int .i64 ar, .int .i64 re] 112) :=
 set_heap (set_heap (set_heap (MapKept.heap_alloc X _).1))
theorem boxW_below (X : World) (nm : ByteArray) (ar re : Int) : Below X.heap.size X (boxW X nm ar re) :=
 (((((Below.refl _ _).alloc (Nat.le_refl _) _).setCell (Nat.le_refl _) _).setCell (Nat.le_refl _) _).setCell (Nat.le_refl _) _)
theorem ops_at {X : World} {B : Nat} {ad : Option Addr} {n cp : Nat} {os : List Nat} (h : X.ownsRow B 3 1 (.slice ad n cp) os.length (rowZ gnV 1 os)) {i : Nat} (hi : i < os.length) : ∃ g j, ad = some ⟨g, 0, none⟩ ∧ j ∈ os ∧ B ≤ g ∧ g < X.heap.size ∧ X.cell? ⟨g, i, none⟩ = some (.int .i64 (j : Int)) := by
 have h' := h
 obtain ⟨-, ⟨-, h0⟩ | ⟨g, cap, cur, e, hB, hc, -⟩⟩ := h
 · omega
 · cases e
   exact ⟨g, os.getD i default, rfl, getD_mem hi, hB, z26 hc, (h'.cellAt i (by omega)).trans ((z48 gnV 1 (by decide) os i (by omega)).trans (by rw [Nat.div_one]; rfl))⟩
theorem Hn.app {d : Dr} {ve : Value} {W wr X : World} {s s1 s2 : Cn} {t t' c c' : Nat} {vk vo : Value} {ls : List Kd} {os : List Nat} (h : Hn d ve W s wr s1 t c vk ls vo os) (h0 : Gen d ve W s) (ha : At d ve W s X s2 t' c') (hg : Grew d wr X) (k : Kd) (hk : NodesD d X k.val k.ns) (hl : ls.length ≤ 1000) (ty : TypeId) :
   ∃ v' X', (Builtin.append_ #[158, 158] ty #[vk, .slice (some ⟨X.heap.size, 0, none⟩) 1 1]).run Tryz.prog (X.alloc (.cells #[.slice k.ad k.ns.length k.cp] 53)) = .ok v' X' ∧ Hn d ve W s X' s2 t' c' v' (ls ++ [k]) vo os := by
 obtain ⟨i0, hinf, hz0, hz1, hz2⟩ := info_parts info_list
 have hkX := (g_grew h.kids h0.ltB h0.ltG hg).alloc (.cells #[.slice k.ad k.ns.length k.cp] 53)
 have hoX := (g_grew h.ops h0.ltB h0.ltG hg).alloc (.cells #[.slice k.ad k.ns.length k.cp] 53)
 have haX := ha.alloc (.cells #[.slice k.ad k.ns.length k.cp] 53)
 have hgX : Grew d X (X.alloc (.cells #[.slice k.ad k.ns.length k.cp] 53)) := (Grew.refl d X).alloc _
 have hli := kd_lit X k ha.1.ltB ha.1.ltG
 obtain ⟨v', X', hr, ho, hgr⟩ := app_row (d := d) kd_one Tryz.underlying158 hinf hz0 hz1 hz2 rfl (by decide) (by decide) hkX hli (by simp; omega) haX.2.1.size ty
 refine ⟨v', X', hr, haX.own h0 hgr (fun g hg => (hkX.lt g hg).1), ho, g_other hoX hkX hgr (by decide), fun x hx => ?_, by simp⟩
 rw [List.mem_append, List.mem_singleton] at hx
 rcases hx with hx | rfl
 · exact (((h.nodes x hx).grew hg).grew hgX).other hkX h.some_ hgr
 · exact (hk.grew hgX).other hkX h.some_ hgr
end
end Go.Proofs.YtfmkgppkgmjpfaaGreatDoor
