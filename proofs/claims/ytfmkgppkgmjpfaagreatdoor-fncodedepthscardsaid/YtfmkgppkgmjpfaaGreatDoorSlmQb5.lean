import Derived.Test.YtfmkgppkgmjpfaaGreatDoorSlmQb4
import Derived.Test.YtfmkgppkgmjpfaaGreatDoorSlmQb3
namespace Go.Proofs.YtfmkgppkgmjpfaaGreatDoor
section
open Go.RowKit Go.Deep
theorem bo_start {W X : World} (hs : W.heap.size ≤ X.heap.size) : (X.alloc (.cells #[] 4)).ownsRow W.heap.size 4 1 (.slice (some ⟨X.heap.size, 0, none⟩) 0 0) ([] : List Bool).length (rowZ boV 1 []) := World.ownsRow_made X #[] 0 hs (Nat.zero_le _) rfl

structure Pk (d : Dr) (ve : Value) (W : World) (s : Cn) (X : World) (s1 : Cn) (t c : Nat) (vi : Value) (ms : List Bool) (vo : Value) (os : List Nat) (E : Nat) : Prop where
 at_ : At d ve W s X s1 t c
 may : X.ownsRow W.heap.size 4 1 vi ms.length (rowZ boV 1 ms)
 ops : X.ownsRow W.heap.size 3 1 vo os.length (rowZ gnV 1 os)
 len : ms.length = E
 lt : ∀ j ∈ os, j < E
 few : os.length ≤ 4
theorem Pk.grew {d : Dr} {ve : Value} {W X X' : World} {s s1 s2 : Cn} {t t' c c' : Nat} {vi vo : Value} {ms : List Bool} {os : List Nat} {E : Nat} (h : Pk d ve W s X s1 t c vi ms vo os E) (h0 : Gen d ve W s) (ha : At d ve W s X' s2 t' c') (hg : Grew d X X') : Pk d ve W s X' s2 t' c' vi ms vo os E :=
 ⟨ha, g_grew h.may h0.ltB h0.ltG hg, g_grew h.ops h0.ltB h0.ltG hg, h.len, h.lt, h.few⟩
theorem in_lit {d : Dr} (X : World) (j : Nat) (h1 : d.B < X.heap.size) (h2 : d.G < X.heap.size) : Lies d (X.alloc (.cells #[.int .i64 (j : Int)] 3)) (.slice (some ⟨X.heap.size, 0, none⟩) 1 1) [j].length 1 (fun i => gnV ([j].getD (i / 1) default) (i % 1)) :=
 lies_lit (f := gnV) (sz := 1) (by decide) X 3 [j] _ rfl h1 h2
theorem Pk.app {d : Dr} {ve : Value} {W X : World} {s s1 : Cn} {t c : Nat} {vi vo : Value} {ms : List Bool} {os : List Nat} {E : Nat} (h : Pk d ve W s X s1 t c vi ms vo os E) (h0 : Gen d ve W s) (j : Nat) (hj : j < E) (hf : os.length < 4) (ty : TypeId) :
   ∃ v' X', (Builtin.append_ #[25, 25] ty #[vo, .slice (some ⟨X.heap.size, 0, none⟩) 1 1]).run Tryz.prog (X.alloc (.cells #[.int .i64 (j : Int)] 3)) = .ok v' X' ∧ Pk d ve W s X' s1 t c vi ms v' (os ++ [j]) E := by
 obtain ⟨i0, hinf, hz0, hz1, hz2⟩ := info_parts info_int
 have hmX := h.may.alloc (.cells #[.int .i64 (j : Int)] 3)
 have hoX := h.ops.alloc (.cells #[.int .i64 (j : Int)] 3)
 have haX := h.at_.alloc (.cells #[.int .i64 (j : Int)] 3)
 obtain ⟨v', X', hr, ho, hgr⟩ := app_row (d := d) in_one Tryz.underlying25 hinf hz0 hz1 hz2 rfl (by decide) (by decide) hoX (in_lit X j h.at_.1.ltB h.at_.1.ltG) (by simp; omega) haX.2.1.size ty
 refine ⟨v', X', hr, haX.own h0 hgr (fun g hg => (hoX.lt g hg).1), g_other hmX hoX hgr (by decide), ho, h.len, fun x hx => ?_, by simp; omega⟩
 rw [List.mem_append, List.mem_singleton] at hx
 rcases hx with hx | rfl
 · exact h.lt x hx
 · exact hj
theorem Pk.set {d : Dr} {ve : Value} {W X : World} {s s1 : Cn} {t c : Nat} {vi vo : Value} {ms : List Bool} {os : List Nat} {E : Nat} (h : Pk d ve W s X s1 t c vi ms vo os E) (h0 : Gen d ve W s) (j : Nat) (hj : j < E) :
   ∃ g cap u, vi = .slice (some ⟨g, 0, none⟩) E cap ∧ X.cell? ⟨g, j, none⟩ = some u ∧ X.frozen? ⟨g, j, none⟩ = false ∧ Pk d ve W s (X.setCell ⟨g, j, none⟩ (.bool true)) s1 t c vi (ms.set j true) vo os E := by
 obtain ⟨g, cap, u, rfl, hB, hlt, hc, hf, hown, hgr⟩ := bools_set h.may (i := j) (by rw [h.len]; exact hj) true
 refine ⟨g, cap, u, by rw [h.len], hc, hf, h.at_.own h0 hgr (fun k hk => by cases hk; exact hB), hown, g_same h.ops (fun k hk => hgr.block k (h.ops.lt k hk).2 (fun e => ?_)), by rw [List.length_set]; exact h.len, h.lt, h.few⟩
 cases e
 obtain ⟨-, c1, hc1⟩ := g_type h.ops hk
 obtain ⟨-, c2, hc2⟩ := g_type h.may (g := g) rfl
 rw [hc1] at hc2
 cases hc2
set_option maxHeartbeats 8000000 in
set_option maxRecDepth 100000 in
theorem handler_calls {d : Dr} {ve v vm : Value} {es : List Ef} {W : World} {s : Cn} {ks : List Kn} {ms : List Bool} {D : Nat} (ty : Int) (deep : Int) (hO : OfC d ve es D) (h1 : deep ≤ D) (h2 : -90 ≤ deep) (h3 : D ≤ 100) (h : Gen d ve W s) (hf : Fit s 250) (hE : Env d ve es W v ks vm ms (D + 1)) :
   Calls Tryz.prog 59 #[.pointer (some ⟨d.G, 0, none⟩), .int .i64 ty, v, vm, .int .i64 deep] W (NodesPost d ve W s 250) := by
 have HF := hid hf
 have HO := hid hO
 have A0 := hid (At.start h)
 have HE := hid hE
 have HD := hid (And.intro h1 (And.intro h2 h3))
 have hdu : deep ≤ 1000 := by omega
 obtain ⟨ad, cp, rfl⟩ := hE.know.is
 obtain ⟨adm, cpm, rfl⟩ := hE.may.is
 have H0 := hid h
 obtain ⟨ade, cpe, rfl⟩ := hE.effs.is
 clear hO h1 h3 h hf hE
 have HL : Hid (es.length ≤ 4 ∧ ms.length = es.length) := ⟨HE.out.few, HE.out.len⟩
 obtain ⟨ib, hbi, hb0, hb1, hb2⟩ := info_parts info_bool
 go_enter Tryz.func59, Tryz.ntmps59
 have HEW := HE
 have g0 := A0.out.1.c0
 go_wp2_with fail
 refine (A0.out.pick HF.out (by omega) 4 (by decide)).mono ?_
 rintro e X1 ⟨m1, s1, rfl, hm1, hM1, ha, hg⟩
 have A1 := hid ha
 have G1 := hid hg
 clear ha hg
 clear g0
 have hcs : m1 = 0 ∨ 1 ≤ m1 := by omega
 rcases hcs with rfl | h1
 · clear hm1
   have bs := hid (bo_start (W := W) (X := X1) A1.out.2.1.size)
   go_wp2_with (at_builtin; refine z36 rfl _ _ 91 rfl _ _ rfl rfl (fun ty => app_row (d := d) bo_one Tryz.underlying91 hbi hb0 hb1 hb2 rfl (by decide) (by decide) bs.out (bools_lies ((HE.out.grew G1.out).may.grew ((Grew.refl d X1).alloc _))) (by have := HL.out; simp; omega) (by have := A1.out.2.1.size; simp; omega) ty) ?_; intro vi Xi hvi; have AI := hid (And.intro ((A1.out.alloc _).own H0.out hvi.2 (fun g hg => (bs.out.lt g hg).1)) hvi.1); clear hvi)
   rw [List.nil_append] at AI
   obtain ⟨adi, cpi, rfl⟩ := g_is AI.out.2
   have P0 : Hid (Pk d (.slice ade es.length cpe) W s Xi _ _ _ (.slice adi ms.length cpi) ms (.slice none 0 0) [] es.length) := ⟨AI.out.1, AI.out.2, World.ownsRow_nil _ _ _ _, HL.out.2, fun j hj => by simp at hj, by simp⟩
   clear bs AI
   go_loopw [13, 14] (fun o i wr => ∃ (i' : Nat) (ms' : List Bool) (os' : List Nat) (s' : Cn) (t' c' : Nat), i = .int .i64 i' ∧ i' ≤ es.length ∧ Hid (Pk d (.slice ade es.length cpe) W s wr s' t' c' (.slice adi ms.length cpi) ms' o os' es.length) ∧ Hid (c' ≤ 1 + i')) (fun _ i _ => es.length - (intOf i).toNat)
   case atStart => exact ⟨0, ms, [], _, _, _, rfl, Nat.zero_le _, P0, by show _ ≤ _; omega⟩
   case round =>
     obtain ⟨i', ms', os', s', t', c', rfl, hle, HP, HC⟩ := hrel
     obtain ⟨ado, cpo, rfl⟩ := g_is HP.out.ops
     have g0 := HP.out.at_.1.c0
     have g1 := HP.out.at_.1.c1
     by_cases hi : (i' : Int) < (es.length : Int)
     · obtain ⟨g, cap, u, hv, -, -, -⟩ := HP.out.set H0.out i' (by omega)
       simp only [Value.slice.injEq] at hv
       obtain ⟨rfl, -, rfl⟩ := hv
       have hi0 : (0 : Int) ≤ (i' : Int) := by omega
       have hi2 : (i' : Int) < (ms.length : Int) := by have := HL.out.2; omega
       have hstep : es.length - (intOf (.int .i64 ((i' + 1 : Nat) : Int))).toNat < es.length - (intOf (.int .i64 (i' : Int))).toNat := z60 hi
       go_wp2_with fail
       refine (HP.out.at_.pick HF.out (by have := HC.out; have := HL.out.1; omega) 2 (by decide)).mono ?_
       rintro e X2 ⟨m, s2, rfl, hm0, hm1, ha, hg⟩
       have HP2 := hid (HP.out.grew H0.out ha hg)
       clear ha hg g0 g1 HP P0
       by_cases hm : m = 0
       · subst hm
         by_cases hf : (os'.length : Int) < 4
         · go_wp2_with (at_builtin; refine z36 rfl _ _ 25 rfl _ _ rfl rfl (fun ty => HP2.out.app H0.out i' (by omega) (by omega) ty) ?_; intro v3 X3 hv3; obtain ⟨ad3, cp3, hv9⟩ := g_is hv3.ops; rw [show (os' ++ [i']).length = os'.length + 1 by simp] at hv9; subst hv9; obtain ⟨g', cap', u', hv', hcu, hfu, hset⟩ := hv3.set H0.out i' (by omega); have HP4 := hid hset; simp only [Value.slice.injEq, Option.some.injEq, Addr.mk.injEq] at hv'; obtain ⟨⟨rfl, -⟩, -, rfl⟩ := hv'; clear hv3 hset)
           rw [z31 (by have := HL.out.1; omega)]
           exact ⟨⟨i' + 1, _, _, s2, t' + 1, c' + 1, rfl, by omega, HP4, by show _ ≤ _; have := HC.out; omega⟩, hstep⟩
         · go_wp2_with fail
           rw [z31 (by have := HL.out.1; omega)]
           exact ⟨⟨i' + 1, _, _, s2, t' + 1, c' + 1, rfl, by omega, HP2, by show _ ≤ _; have := HC.out; omega⟩, hstep⟩
       · have hz : (m == 0) = false := by simp [hm]
         go_wp2_with fail
         rw [z31 (by have := HL.out.1; omega)]
         exact ⟨⟨i' + 1, _, _, s2, t' + 1, c' + 1, rfl, by omega, HP2, by show _ ≤ _; have := HC.out; omega⟩, hstep⟩
     · have ei : i' = es.length := by omega
       have hc5 : c' ≤ 5 := by have := HC.out; have := HL.out.1; omega
       have AH := hid HP.out.at_
       have HE2 := hid (HE.out.grew AH.out.2.1)
       have MI := hid (And.intro (bools_own (d := d) HP.out.may H0.out.ltB H0.out.ltG) HP.out.len)
       have HOs := hid (And.intro HP.out.lt HP.out.few)
       have OR := hid HP.out.ops
       clear HE HP P0 HC ei
       have HE := HE2
       clear HE2
       rename World => Y0
       go_wp2_with fail
       refine (AH.out.name HF.out (by omega)).mono ?_
       rintro e X2 ⟨x2, s2, rfl, hb2, ha, hg⟩
       have A2 := hid ha
       have G2 := hid hg
       clear ha hg
       have B2 := hid hb2
       clear hb2
       clear g0 g1
       go_wp2_with fail
       refine (A2.out.nodes (HO.out deep ty _ _ _ _ _ _ (by have := HD.out; omega) (by have := HD.out; omega) (A2.out.fit HF.out 10 (by omega)) A2.out.1 ((HE.out.grew G2.out).let (MI.out.1.grew G2.out) MI.out.2))).mono ?_
       rintro e X3 ⟨v3, n3, s3, t3, rfl, hn3, hl3, ha, hg⟩
       have A3 := hid ha
       have G3 := hid hg
       clear ha hg
       have N3 := hid (And.intro hn3 hl3)
       obtain ⟨ad3, cp3, rfl⟩ := hn3.is
       clear hn3 hl3
       go_wp2_with fail
       refine (A3.out.add x2 ty 0 (HE.out.grew (G2.out.trans G3.out)).know B2.out (by have := HE.out.room; omega)).mono ?_
       rintro e X4 ⟨u4, ks4, rfl, hk4, hkl4, ha, hg⟩
       have A4 := hid ha
       have G4 := hid hg
       clear ha hg
       have K4 := hid (And.intro hk4 hkl4)
       obtain ⟨ad4, cp4, rfl⟩ := hk4.is
       clear hk4 hkl4
       go_wp2_with fail
       refine (A4.out.nodes (HO.out deep ty _ _ _ _ _ _ (by have := HD.out; omega) (by have := HD.out; omega) (A4.out.fit HF.out 10 (by omega)) A4.out.1 ((HE.out.grew (G2.out.trans (G3.out.trans G4.out))).with K4.out.1 (by have := K4.out.2; omega)))).mono ?_
       rintro e X5 ⟨v5, n5, s5, t5, rfl, hn5, hl5, ha, hg⟩
       have A5 := hid ha
       have G5 := hid hg
       clear ha hg
       have N5 := hid (And.intro hn5 hl5)
       obtain ⟨ad5, cp5, rfl⟩ := hn5.is
       clear hn5 hl5
       go_wp2_with fail
       refine (A5.out.put1 25 0 0 x2 ByteArray.empty ByteArray.empty N5.out.1 ⟨B2.out, z14, z14⟩ (by have := A5.out.bound HF.out (by omega) (by decide); have := N5.out.2; omega)).mono ?_
       rintro e X6 ⟨v6, n6, rfl, hn6, hl6, ha, hg⟩
       have A6 := hid ha
       have G6 := hid hg
       clear ha hg
       have N6 := hid (And.intro hn6 hl6)
       obtain ⟨ad6, cp6, rfl⟩ := hn6.is
       clear hn6 hl6
       have HS : Hid (Hn d (.slice ade es.length cpe) W s (X6.alloc (.cells #[.slice ad3 n3.length cp3, .slice ad6 n6.length cp6] 53)) _ _ _ (.slice (some ⟨X6.heap.size, 0, none⟩) 2 2) [⟨ad3, cp3, n3⟩, ⟨ad6, cp6, n6⟩] (.slice ado os'.length cpo) os') := hn_start A6.out (g_grew OR.out H0.out.ltB H0.out.ltG (G2.out.trans (G3.out.trans (G4.out.trans (G5.out.trans G6.out))))) ⟨ad3, cp3, n3⟩ ⟨ad6, cp6, n6⟩ (N3.out.1.grew (G4.out.trans (G5.out.trans G6.out))) N6.out.1
       have hfl : (flatL (kdL [⟨ad3, cp3, n3⟩, ⟨ad6, cp6, n6⟩])).length ≤ n3.length + n6.length := by simp [flatL, kdL]
       go_wp2_with fail
       go_loopw [16, 17] (fun kv i wr => ∃ (i2 : Nat) (ls : List Kd) (s2 : Cn) (t2 c2 : Nat), i = .int .i64 i2 ∧ i2 ≤ os'.length ∧ Hid (Hn d (.slice ade es.length cpe) W s wr s2 t2 c2 kv ls (.slice ado os'.length cpo) os') ∧ Hid (c2 ≤ 30 + 40 * i2 ∧ ls.length = 2 + i2 ∧ (flatL (kdL ls)).length ≤ t2 + 3 + 8 * i2)) (fun _ i _ => os'.length - (intOf i).toNat)
       case atStart => exact ⟨0, [⟨ad3, cp3, n3⟩, ⟨ad6, cp6, n6⟩], _, _, _, rfl, Nat.zero_le _, HS, by omega, rfl, by have := N3.out.2; have := N6.out.2; have := N5.out.2; omega⟩
       case round =>
         obtain ⟨i2, ls, s2, t2, c2, rfl, hle2, HH, HB⟩ := hrel
         obtain ⟨adk, cpk, rfl⟩ := g_is HH.out.kids
         by_cases hj : (i2 : Int) < (os'.length : Int)
         · rename World => Y1
           have hc2 : c2 + 40 ≤ 190 := by have := HB.out; have := HOs.out.2; omega
           have AR := hid HH.out.at_
           obtain ⟨go, j, rfl, hjo, hgB, hgl, cj⟩ := ops_at HH.out.ops (i := i2) (by omega)
           have hjE : j < es.length := HOs.out.1 j hjo
           have HEr := hid (HEW.out.grew AR.out.2.1)
           obtain ⟨be, oe, xn, xa, xr, rfl, -, hbr, hqe, c0, c1, c2'⟩ := HEr.out.effs.at (i := j) hjE
           have HQ := hid (And.intro hqe (And.intro hbr (And.intro hgl (And.intro (show go ≠ d.B by have := H0.out.ltB; omega) (show go ≠ d.G by have := H0.out.ltG; omega)))))
           have HE := HEr
           have hj0 : (0 : Int) ≤ (j : Int) := by omega
           have hj1 : (j : Int) < (es.length : Int) := by omega
           have hi20 : (0 : Int) ≤ (i2 : Int) := by omega
           have hstep : os'.length - (intOf (.int .i64 ((i2 + 1 : Nat) : Int))).toNat < os'.length - (intOf (.int .i64 (i2 : Int))).toNat := z60 hj
           clear hqe hbr hgl hgB hjE hjo
           go_upto_region 17 with fail
           refine z33 (S := fun w' => w'.cell? ⟨d.G, 1, none⟩ = some (.slice (some ⟨be, oe, none⟩) es.length cpe) ∧ w'.cell? ⟨go, i2, none⟩ = some (.int .i64 (j : Int)) ∧ w'.cell? ⟨be, oe + j * 3, none⟩ = some (.string xn) ∧ w'.cell? ⟨be, oe + j * 3 + 1, none⟩ = some (.int .i64 xa) ∧ w'.cell? ⟨be, oe + j * 3 + 2, none⟩ = some (.int .i64 xr)) (by kernel_rfl) rfl rfl ?_
           have A7 := hid AR.out.drew
           have G7 := hid (Grew.refl d Y1).drew
           generalize Y1.drew = X7 at *
           refine pick_o 0 (.pointer (some ⟨d.G, 0, none⟩)) ⟨A7.out.1.c1, ((G7.out.cell (p := ⟨go, i2, none⟩) ⟨HQ.out.2.2.1, HQ.out.2.2.2.1, HQ.out.2.2.2.2⟩).trans cj), ((G7.out.cell (p := ⟨be, oe + j * 3, none⟩) HQ.out.1).trans c0), ((G7.out.cell (p := ⟨be, oe + j * 3 + 1, none⟩) HQ.out.1).trans c1), ((G7.out.cell (p := ⟨be, oe + j * 3 + 2, none⟩) HQ.out.1).trans c2')⟩ ?_
           refine pick_o 1 (.pointer (some ⟨d.G, 0, none⟩)) ⟨A7.out.1.c1, ((G7.out.cell (p := ⟨go, i2, none⟩) ⟨HQ.out.2.2.1, HQ.out.2.2.2.1, HQ.out.2.2.2.2⟩).trans cj), ((G7.out.cell (p := ⟨be, oe + j * 3, none⟩) HQ.out.1).trans c0), ((G7.out.cell (p := ⟨be, oe + j * 3 + 1, none⟩) HQ.out.1).trans c1), ((G7.out.cell (p := ⟨be, oe + j * 3 + 2, none⟩) HQ.out.1).trans c2')⟩ ?_
           refine pick_o 2 (.pointer (some ⟨d.G, 1, none⟩)) ⟨A7.out.1.c1, ((G7.out.cell (p := ⟨go, i2, none⟩) ⟨HQ.out.2.2.1, HQ.out.2.2.2.1, HQ.out.2.2.2.2⟩).trans cj), ((G7.out.cell (p := ⟨be, oe + j * 3, none⟩) HQ.out.1).trans c0), ((G7.out.cell (p := ⟨be, oe + j * 3 + 1, none⟩) HQ.out.1).trans c1), ((G7.out.cell (p := ⟨be, oe + j * 3 + 2, none⟩) HQ.out.1).trans c2')⟩ ?_
           refine pick_o (hy := fun w' hw => by simp [go_sem, hw.1]) 3 (.slice (some ⟨be, oe, none⟩) es.length cpe) ⟨A7.out.1.c1, ((G7.out.cell (p := ⟨go, i2, none⟩) ⟨HQ.out.2.2.1, HQ.out.2.2.2.1, HQ.out.2.2.2.2⟩).trans cj), ((G7.out.cell (p := ⟨be, oe + j * 3, none⟩) HQ.out.1).trans c0), ((G7.out.cell (p := ⟨be, oe + j * 3 + 1, none⟩) HQ.out.1).trans c1), ((G7.out.cell (p := ⟨be, oe + j * 3 + 2, none⟩) HQ.out.1).trans c2')⟩ ?_
           refine pick_o 4 ((.slice (some ⟨go, 0, none⟩) os'.length cpo)) ⟨A7.out.1.c1, ((G7.out.cell (p := ⟨go, i2, none⟩) ⟨HQ.out.2.2.1, HQ.out.2.2.2.1, HQ.out.2.2.2.2⟩).trans cj), ((G7.out.cell (p := ⟨be, oe + j * 3, none⟩) HQ.out.1).trans c0), ((G7.out.cell (p := ⟨be, oe + j * 3 + 1, none⟩) HQ.out.1).trans c1), ((G7.out.cell (p := ⟨be, oe + j * 3 + 2, none⟩) HQ.out.1).trans c2')⟩ ?_
           refine pick_o 5 (.int .i64 (i2 : Int)) ⟨A7.out.1.c1, ((G7.out.cell (p := ⟨go, i2, none⟩) ⟨HQ.out.2.2.1, HQ.out.2.2.2.1, HQ.out.2.2.2.2⟩).trans cj), ((G7.out.cell (p := ⟨be, oe + j * 3, none⟩) HQ.out.1).trans c0), ((G7.out.cell (p := ⟨be, oe + j * 3 + 1, none⟩) HQ.out.1).trans c1), ((G7.out.cell (p := ⟨be, oe + j * 3 + 2, none⟩) HQ.out.1).trans c2')⟩ ?_
           refine pick_o (hy := fun w' hw => by simp [go_sem, hi20, hj]) 6 (.pointer (some ⟨go, i2, none⟩)) ⟨A7.out.1.c1, ((G7.out.cell (p := ⟨go, i2, none⟩) ⟨HQ.out.2.2.1, HQ.out.2.2.2.1, HQ.out.2.2.2.2⟩).trans cj), ((G7.out.cell (p := ⟨be, oe + j * 3, none⟩) HQ.out.1).trans c0), ((G7.out.cell (p := ⟨be, oe + j * 3 + 1, none⟩) HQ.out.1).trans c1), ((G7.out.cell (p := ⟨be, oe + j * 3 + 2, none⟩) HQ.out.1).trans c2')⟩ ?_
           refine pick_o (hy := fun w' hw => by simp [go_sem, hw.2.1]) 7 (.int .i64 (j : Int)) ⟨A7.out.1.c1, ((G7.out.cell (p := ⟨go, i2, none⟩) ⟨HQ.out.2.2.1, HQ.out.2.2.2.1, HQ.out.2.2.2.2⟩).trans cj), ((G7.out.cell (p := ⟨be, oe + j * 3, none⟩) HQ.out.1).trans c0), ((G7.out.cell (p := ⟨be, oe + j * 3 + 1, none⟩) HQ.out.1).trans c1), ((G7.out.cell (p := ⟨be, oe + j * 3 + 2, none⟩) HQ.out.1).trans c2')⟩ ?_
           refine pick_o (hy := fun w' hw => by simp [go_sem, hj0, hj1]) 8 (.pointer (some ⟨be, oe + j * 3, none⟩)) ⟨A7.out.1.c1, ((G7.out.cell (p := ⟨go, i2, none⟩) ⟨HQ.out.2.2.1, HQ.out.2.2.2.1, HQ.out.2.2.2.2⟩).trans cj), ((G7.out.cell (p := ⟨be, oe + j * 3, none⟩) HQ.out.1).trans c0), ((G7.out.cell (p := ⟨be, oe + j * 3 + 1, none⟩) HQ.out.1).trans c1), ((G7.out.cell (p := ⟨be, oe + j * 3 + 2, none⟩) HQ.out.1).trans c2')⟩ ?_
           refine pick_o (hy := fun w' hw => by simp [go_sem, hw.2.2.1, hw.2.2.2.1, hw.2.2.2.2]) 9 (.agg #[.string xn, .int .i64 xa, .int .i64 xr]) ⟨A7.out.1.c1, ((G7.out.cell (p := ⟨go, i2, none⟩) ⟨HQ.out.2.2.1, HQ.out.2.2.2.1, HQ.out.2.2.2.2⟩).trans cj), ((G7.out.cell (p := ⟨be, oe + j * 3, none⟩) HQ.out.1).trans c0), ((G7.out.cell (p := ⟨be, oe + j * 3 + 1, none⟩) HQ.out.1).trans c1), ((G7.out.cell (p := ⟨be, oe + j * 3 + 2, none⟩) HQ.out.1).trans c2')⟩ ?_
           have A8 := hid (A7.out.alloc (.cells #[.string ⟨#[]⟩, .int .i64 0, .int .i64 0] 112))
           have G8 := hid ((Grew.refl d X7).alloc (.cells #[.string ⟨#[]⟩, .int .i64 0, .int .i64 0] 112))
           refine z29 (i := 10) (v := .pointer (some ⟨X7.heap.size, 0, none⟩)) (w1 := X7.alloc (.cells #[.string ⟨#[]⟩, .int .i64 0, .int .i64 0] 112)) rfl (by kernel_rfl) rfl rfl (by simp [go_sem]) ⟨A8.out.1.c1, (((G7.out.trans G8.out).cell (p := ⟨go, i2, none⟩) ⟨HQ.out.2.2.1, HQ.out.2.2.2.1, HQ.out.2.2.2.2⟩).trans cj), (((G7.out.trans G8.out).cell (p := ⟨be, oe + j * 3, none⟩) HQ.out.1).trans c0), (((G7.out.trans G8.out).cell (p := ⟨be, oe + j * 3 + 1, none⟩) HQ.out.1).trans c1), (((G7.out.trans G8.out).cell (p := ⟨be, oe + j * 3 + 2, none⟩) HQ.out.1).trans c2')⟩ (by simp [go_sem]; exact rfl) ?_
           have EB := hid (boxW_heap X7 xn xa xr)
           have A9 := hid (A7.out.below (boxW_below X7 xn xa xr))
           have G9 : Hid (Grew d X7 (boxW X7 xn xa xr)) := Grew.of_below (boxW_below X7 xn xa xr)
           have HQ2 := hid (And.intro A7.out.1.ltB A7.out.1.ltG)
           refine z40 (i := 11) (w1 := boxW X7 xn xa xr) rfl rfl (by kernel_rfl) rfl rfl (by simp [go_sem, boxW]) ⟨A9.out.1.c1, (((G7.out.trans G9.out).cell (p := ⟨go, i2, none⟩) ⟨HQ.out.2.2.1, HQ.out.2.2.2.1, HQ.out.2.2.2.2⟩).trans cj), (((G7.out.trans G9.out).cell (p := ⟨be, oe + j * 3, none⟩) HQ.out.1).trans c0), (((G7.out.trans G9.out).cell (p := ⟨be, oe + j * 3 + 1, none⟩) HQ.out.1).trans c1), (((G7.out.trans G9.out).cell (p := ⟨be, oe + j * 3 + 2, none⟩) HQ.out.1).trans c2')⟩ ?_
           refine z32 (by kernel_rfl) ?_
           obtain ⟨bq, hbq⟩ : ∃ q, X7.heap.size = q := ⟨_, rfl⟩
           generalize boxW X7 xn xa xr = X9 at *
           rw [hbq] at EB HQ2 ⊢
           clear hbq cj c0 c1 c2' A8 G8
           go_wp2_with fail
           refine (A9.out.name HF.out (by omega)).mono ?_
           rintro e X10 ⟨x10, s10, rfl, hb10, ha, hg⟩
           have A10 := hid ha
           have G10 := hid hg
           clear ha hg
           have B10 := hid hb10
           clear hb10
           go_wp2_with fail
           refine (A10.out.name HF.out (by omega)).mono ?_
           rintro e X11 ⟨x11, s11, rfl, hb11, ha, hg⟩
           have A11 := hid ha
           have G11 := hid hg
           clear ha hg
           have B11 := hid hb11
           clear hb11
           have ec := (((G10.out.trans G11.out)).cell (p := ⟨bq, 1, none⟩) ⟨z26 EB.out, (show bq ≠ d.B by have := HQ2.out.1; omega), (show bq ≠ d.G by have := HQ2.out.2; omega)⟩).trans (z11 EB.out 1)
           have ec : X11.cell? ⟨bq, 1, none⟩ = some (.int .i64 xa) := ec
           go_wp2_with fail
           refine (z65 xa _).mono ?_
           rintro e W9 ⟨rfl, rfl⟩
           clear ec
           go_wp2_with fail
           refine (A11.out.add x10 xa 0 (HE.out.grew (G7.out.trans (G9.out.trans (G10.out.trans G11.out)))).know B10.out (by have := HE.out.room; omega)).mono ?_
           rintro e X12 ⟨u12, ks12, rfl, hk12, hkl12, ha, hg⟩
           have A12 := hid ha
           have G12 := hid hg
           clear ha hg
           have K12 := hid (And.intro hk12 hkl12)
           obtain ⟨ad12, cp12, rfl⟩ := hk12.is
           clear hk12 hkl12
           have g0 := A12.out.1.c0
           go_wp2_with fail
           refine (A12.out.pick HF.out (by omega) 6 (by decide)).mono ?_
           rintro e X13 ⟨m13, s13, rfl, hm13, hM13, ha, hg⟩
           have A13 := hid ha
           have G13 := hid hg
           clear ha hg
           clear g0
           by_cases hm6 : m13 = 0
           · subst hm6
             have ec := (((G10.out.trans (G11.out.trans (G12.out.trans G13.out)))).cell (p := ⟨bq, 2, none⟩) ⟨z26 EB.out, (show bq ≠ d.B by have := HQ2.out.1; omega), (show bq ≠ d.G by have := HQ2.out.2; omega)⟩).trans (z11 EB.out 2)
             have ec : X13.cell? ⟨bq, 2, none⟩ = some (.int .i64 xr) := ec
             go_wp2_with fail
             refine (z65 xr _).mono ?_
             rintro e W9 ⟨rfl, rfl⟩
             clear ec
             go_wp2_with fail
             refine (A13.out.add x11 (wrap64 (10 + ty)) xr (K12.out.1.grew G13.out) B11.out (by have := HE.out.room; have := K12.out.2; omega)).mono ?_
             rintro e X14 ⟨u14, ks14, rfl, hk14, hkl14, ha, hg⟩
             have A14 := hid ha
             have G14 := hid hg
             clear ha hg
             have K14 := hid (And.intro hk14 hkl14)
             obtain ⟨ad14, cp14, rfl⟩ := hk14.is
             clear hk14 hkl14
             go_wp2_with fail
             refine (A14.out.nodes (HO.out deep ty _ _ _ _ _ _ (by have := HD.out; omega) (by have := HD.out; omega) (A14.out.fit HF.out 10 (by omega)) A14.out.1 ((HE.out.grew (G7.out.trans (G9.out.trans (G10.out.trans (G11.out.trans (G12.out.trans (G13.out.trans G14.out))))))).with K14.out.1 (by have := K12.out.2; have := K14.out.2; omega)))).mono ?_
             rintro e X15 ⟨v15, n15, s15, t15, rfl, hn15, hl15, ha, hg⟩
             have A15 := hid ha
             have G15 := hid hg
             clear ha hg
             have N15 := hid (And.intro hn15 hl15)
             obtain ⟨ad15, cp15, rfl⟩ := hn15.is
             clear hn15 hl15
             have ec := (((G10.out.trans (G11.out.trans (G12.out.trans (G13.out.trans (G14.out.trans G15.out)))))).cell (p := ⟨bq, 0, none⟩) ⟨z26 EB.out, (show bq ≠ d.B by have := HQ2.out.1; omega), (show bq ≠ d.G by have := HQ2.out.2; omega)⟩).trans (z11 EB.out 0)
             have ec : X15.cell? ⟨bq, 0, none⟩ = some (.string xn) := ec
             go_wp2_with fail
             refine (A15.out.put1 26 0 0 xn x10 x11 N15.out.1 ⟨HQ.out.2.1, B10.out, B11.out⟩ (by have := A15.out.bound HF.out (by omega) (by decide); have := N15.out.2; omega)).mono ?_
             rintro e X16 ⟨v16, n16, rfl, hn16, hl16, ha, hg⟩
             have A16 := hid ha
             have G16 := hid hg
             clear ha hg
             have N16 := hid (And.intro hn16 hl16)
             obtain ⟨ad16, cp16, rfl⟩ := hn16.is
             clear hn16 hl16
             clear ec
             have HFl : Hid ((flatL (kdL (ls ++ [⟨ad16, cp16, n16⟩]))).length = (flatL (kdL ls)).length + n16.length) := by show _ = _; simp [flatL, kdL]
             have HLL : Hid (ls.length ≤ 1000) := by show _ ≤ _; have := HB.out; have := HOs.out.2; omega
             go_wp2_with (at_builtin; refine z36 rfl _ _ 158 rfl _ _ rfl rfl (fun ty_ => HH.out.app H0.out A16.out (G7.out.trans (G9.out.trans (G10.out.trans (G11.out.trans (G12.out.trans (G13.out.trans (G14.out.trans (G15.out.trans G16.out)))))))) ⟨ad16, cp16, n16⟩ N16.out.1 HLL.out ty_) ?_; intro vq Xq hvq; have HQQ := hid hvq; clear hvq)
             rw [z31 (by have := HOs.out.2; omega)]
             exact ⟨⟨i2 + 1, ls ++ [⟨ad16, cp16, n16⟩], _, _, _, rfl, by omega, HQQ, by have := HB.out; omega, by have := HB.out; simp; omega, by have := HB.out; have := HFl.out; have := N16.out.2; have := N15.out.2; omega⟩, hstep⟩
           · have z6 : (m13 == 0) = false := by simp [hm6]
             go_wp2_with fail
             refine (A13.out.nodes (HO.out deep ty _ _ _ _ _ _ (by have := HD.out; omega) (by have := HD.out; omega) (A13.out.fit HF.out 10 (by omega)) A13.out.1 ((HE.out.grew (G7.out.trans (G9.out.trans (G10.out.trans (G11.out.trans (G12.out.trans G13.out)))))).with (K12.out.1.grew G13.out) (by have := K12.out.2; omega)))).mono ?_
             rintro e X14 ⟨v14, n14, s14, t14, rfl, hn14, hl14, ha, hg⟩
             have A14 := hid ha
             have G14 := hid hg
             clear ha hg
             have N14 := hid (And.intro hn14 hl14)
             obtain ⟨ad14, cp14, rfl⟩ := hn14.is
             clear hn14 hl14
             have ec := (((G10.out.trans (G11.out.trans (G12.out.trans (G13.out.trans G14.out))))).cell (p := ⟨bq, 0, none⟩) ⟨z26 EB.out, (show bq ≠ d.B by have := HQ2.out.1; omega), (show bq ≠ d.G by have := HQ2.out.2; omega)⟩).trans (z11 EB.out 0)
             have ec : X14.cell? ⟨bq, 0, none⟩ = some (.string xn) := ec
             go_wp2_with fail
             refine (A14.out.put1 26 0 0 xn x10 x11 N14.out.1 ⟨HQ.out.2.1, B10.out, B11.out⟩ (by have := A14.out.bound HF.out (by omega) (by decide); have := N14.out.2; omega)).mono ?_
             rintro e X15 ⟨v15, n15, rfl, hn15, hl15, ha, hg⟩
             have A15 := hid ha
             have G15 := hid hg
             clear ha hg
             have N15 := hid (And.intro hn15 hl15)
             obtain ⟨ad15, cp15, rfl⟩ := hn15.is
             clear hn15 hl15
             clear ec
             have HFl : Hid ((flatL (kdL (ls ++ [⟨ad15, cp15, n15⟩]))).length = (flatL (kdL ls)).length + n15.length) := by show _ = _; simp [flatL, kdL]
             have HLL : Hid (ls.length ≤ 1000) := by show _ ≤ _; have := HB.out; have := HOs.out.2; omega
             go_wp2_with (at_builtin; refine z36 rfl _ _ 158 rfl _ _ rfl rfl (fun ty_ => HH.out.app H0.out A15.out (G7.out.trans (G9.out.trans (G10.out.trans (G11.out.trans (G12.out.trans (G13.out.trans (G14.out.trans G15.out))))))) ⟨ad15, cp15, n15⟩ N15.out.1 HLL.out ty_) ?_; intro vq Xq hvq; have HQQ := hid hvq; clear hvq)
             rw [z31 (by have := HOs.out.2; omega)]
             exact ⟨⟨i2 + 1, ls ++ [⟨ad15, cp15, n15⟩], _, _, _, rfl, by omega, HQQ, by have := HB.out; omega, by have := HB.out; simp; omega, by have := HB.out; have := HFl.out; have := N15.out.2; have := N14.out.2; omega⟩, hstep⟩
         · have e2 : i2 = os'.length := by omega
           have hb4 := HOs.out.2
           have hcz : c2 ≤ 190 ∧ (flatL (kdL ls)).length ≤ t2 + 35 := by have := HB.out; omega
           have AZ := hid HH.out.at_
           have HKZ := hid (kids_own HH.out.kids H0.out.ltB H0.out.ltG HH.out.nodes)
           go_wp2_with fail
           refine (AZ.out.put_kids 24 0 0 ⟨#[]⟩ ⟨#[]⟩ ⟨#[]⟩ HKZ.out ⟨z14, z14, z14⟩ (by simp [kdL]; have := HB.out; omega) (by have := AZ.out.bound HF.out (by omega) (by decide); omega)).mono ?_
           rintro e XZ ⟨vz, nz, rfl, hnz, hlz, haz, hgz⟩
           have NZ := hid (And.intro haz (And.intro hnz hlz))
           clear haz hnz hlz hgz
           go_wp2_with fail
           go_ret
           exact NZ.out.1.done 36 NZ.out.2.1 (by have := NZ.out.2.2; omega) (by omega)
 · have z0 : (m1 == 0) = false := by simp; omega
   have bs := hid (bo_start (W := W) (X := X1) A1.out.2.1.size)
   go_wp2_with (at_builtin; refine z36 rfl _ _ 91 rfl _ _ rfl rfl (fun ty => app_row (d := d) bo_one Tryz.underlying91 hbi hb0 hb1 hb2 rfl (by decide) (by decide) bs.out (bools_lies ((HE.out.grew G1.out).may.grew ((Grew.refl d X1).alloc _))) (by have := HL.out; simp; omega) (by have := A1.out.2.1.size; simp; omega) ty) ?_; intro vi Xi hvi; have AI := hid (And.intro ((A1.out.alloc _).own H0.out hvi.2 (fun g hg => (bs.out.lt g hg).1)) hvi.1); clear hvi)
   rw [List.nil_append] at AI
   obtain ⟨adi, cpi, rfl⟩ := g_is AI.out.2
   have P0 : Hid (Pk d (.slice ade es.length cpe) W s Xi _ _ _ (.slice adi ms.length cpi) ms (.slice none 0 0) [] es.length) := ⟨AI.out.1, AI.out.2, World.ownsRow_nil _ _ _ _, HL.out.2, fun j hj => by simp at hj, by simp⟩
   clear bs AI
   go_loopw [13, 14] (fun o i wr => ∃ (i' : Nat) (ms' : List Bool) (os' : List Nat) (s' : Cn) (t' c' : Nat), i = .int .i64 i' ∧ i' ≤ es.length ∧ Hid (Pk d (.slice ade es.length cpe) W s wr s' t' c' (.slice adi ms.length cpi) ms' o os' es.length) ∧ Hid (c' ≤ 1 + i')) (fun _ i _ => es.length - (intOf i).toNat)
   case atStart => exact ⟨0, ms, [], _, _, _, rfl, Nat.zero_le _, P0, by show _ ≤ _; omega⟩
   case round =>
     obtain ⟨i', ms', os', s', t', c', rfl, hle, HP, HC⟩ := hrel
     obtain ⟨ado, cpo, rfl⟩ := g_is HP.out.ops
     have g0 := HP.out.at_.1.c0
     have g1 := HP.out.at_.1.c1
     by_cases hi : (i' : Int) < (es.length : Int)
     · obtain ⟨g, cap, u, hv, -, -, -⟩ := HP.out.set H0.out i' (by omega)
       simp only [Value.slice.injEq] at hv
       obtain ⟨rfl, -, rfl⟩ := hv
       have hi0 : (0 : Int) ≤ (i' : Int) := by omega
       have hi2 : (i' : Int) < (ms.length : Int) := by have := HL.out.2; omega
       have hstep : es.length - (intOf (.int .i64 ((i' + 1 : Nat) : Int))).toNat < es.length - (intOf (.int .i64 (i' : Int))).toNat := z60 hi
       go_wp2_with fail
       refine (HP.out.at_.pick HF.out (by have := HC.out; have := HL.out.1; omega) 2 (by decide)).mono ?_
       rintro e X2 ⟨m, s2, rfl, hm0, hm1, ha, hg⟩
       have HP2 := hid (HP.out.grew H0.out ha hg)
       clear ha hg g0 g1 HP P0
       by_cases hm : m = 0
       · subst hm
         by_cases hf : (os'.length : Int) < 4
         · go_wp2_with (at_builtin; refine z36 rfl _ _ 25 rfl _ _ rfl rfl (fun ty => HP2.out.app H0.out i' (by omega) (by omega) ty) ?_; intro v3 X3 hv3; obtain ⟨ad3, cp3, hv9⟩ := g_is hv3.ops; rw [show (os' ++ [i']).length = os'.length + 1 by simp] at hv9; subst hv9; obtain ⟨g', cap', u', hv', hcu, hfu, hset⟩ := hv3.set H0.out i' (by omega); have HP4 := hid hset; simp only [Value.slice.injEq, Option.some.injEq, Addr.mk.injEq] at hv'; obtain ⟨⟨rfl, -⟩, -, rfl⟩ := hv'; clear hv3 hset)
           rw [z31 (by have := HL.out.1; omega)]
           exact ⟨⟨i' + 1, _, _, s2, t' + 1, c' + 1, rfl, by omega, HP4, by show _ ≤ _; have := HC.out; omega⟩, hstep⟩
         · go_wp2_with fail
           rw [z31 (by have := HL.out.1; omega)]
           exact ⟨⟨i' + 1, _, _, s2, t' + 1, c' + 1, rfl, by omega, HP2, by show _ ≤ _; have := HC.out; omega⟩, hstep⟩
       · have hz : (m == 0) = false := by simp [hm]
         go_wp2_with fail
         rw [z31 (by have := HL.out.1; omega)]
         exact ⟨⟨i' + 1, _, _, s2, t' + 1, c' + 1, rfl, by omega, HP2, by show _ ≤ _; have := HC.out; omega⟩, hstep⟩
     · have ei : i' = es.length := by omega
       have hc5 : c' ≤ 5 := by have := HC.out; have := HL.out.1; omega
       have AH := hid HP.out.at_
       have HE2 := hid (HE.out.grew AH.out.2.1)
       have MI := hid (And.intro (bools_own (d := d) HP.out.may H0.out.ltB H0.out.ltG) HP.out.len)
       have HOs := hid (And.intro HP.out.lt HP.out.few)
       have OR := hid HP.out.ops
       clear HE HP P0 HC ei
       have HE := HE2
       clear HE2
       rename World => Y0
       go_wp2_with fail
       refine (AH.out.name HF.out (by omega)).mono ?_
       rintro e X2 ⟨x2, s2, rfl, hb2, ha, hg⟩
       have A2 := hid ha
       have G2 := hid hg
       clear ha hg
       have B2 := hid hb2
       clear hb2
       clear g0 g1
       go_wp2_with fail
       refine (A2.out.nodes (HO.out deep ty _ _ _ _ _ _ (by have := HD.out; omega) (by have := HD.out; omega) (A2.out.fit HF.out 10 (by omega)) A2.out.1 ((HE.out.grew G2.out).let (MI.out.1.grew G2.out) MI.out.2))).mono ?_
       rintro e X3 ⟨v3, n3, s3, t3, rfl, hn3, hl3, ha, hg⟩
       have A3 := hid ha
       have G3 := hid hg
       clear ha hg
       have N3 := hid (And.intro hn3 hl3)
       obtain ⟨ad3, cp3, rfl⟩ := hn3.is
       clear hn3 hl3
       go_wp2_with fail
       refine (A3.out.add x2 ty 0 (HE.out.grew (G2.out.trans G3.out)).know B2.out (by have := HE.out.room; omega)).mono ?_
       rintro e X4 ⟨u4, ks4, rfl, hk4, hkl4, ha, hg⟩
       have A4 := hid ha
       have G4 := hid hg
       clear ha hg
       have K4 := hid (And.intro hk4 hkl4)
       obtain ⟨ad4, cp4, rfl⟩ := hk4.is
       clear hk4 hkl4
       go_wp2_with fail
       refine (A4.out.nodes (HO.out deep ty _ _ _ _ _ _ (by have := HD.out; omega) (by have := HD.out; omega) (A4.out.fit HF.out 10 (by omega)) A4.out.1 ((HE.out.grew (G2.out.trans (G3.out.trans G4.out))).with K4.out.1 (by have := K4.out.2; omega)))).mono ?_
       rintro e X5 ⟨v5, n5, s5, t5, rfl, hn5, hl5, ha, hg⟩
       have A5 := hid ha
       have G5 := hid hg
       clear ha hg
       have N5 := hid (And.intro hn5 hl5)
       obtain ⟨ad5, cp5, rfl⟩ := hn5.is
       clear hn5 hl5
       go_wp2_with fail
       refine (A5.out.put1 25 0 0 x2 ByteArray.empty ByteArray.empty N5.out.1 ⟨B2.out, z14, z14⟩ (by have := A5.out.bound HF.out (by omega) (by decide); have := N5.out.2; omega)).mono ?_
       rintro e X6 ⟨v6, n6, rfl, hn6, hl6, ha, hg⟩
       have A6 := hid ha
       have G6 := hid hg
       clear ha hg
       have N6 := hid (And.intro hn6 hl6)
       obtain ⟨ad6, cp6, rfl⟩ := hn6.is
       clear hn6 hl6
       have HS : Hid (Hn d (.slice ade es.length cpe) W s (X6.alloc (.cells #[.slice ad3 n3.length cp3, .slice ad6 n6.length cp6] 53)) _ _ _ (.slice (some ⟨X6.heap.size, 0, none⟩) 2 2) [⟨ad3, cp3, n3⟩, ⟨ad6, cp6, n6⟩] (.slice ado os'.length cpo) os') := hn_start A6.out (g_grew OR.out H0.out.ltB H0.out.ltG (G2.out.trans (G3.out.trans (G4.out.trans (G5.out.trans G6.out))))) ⟨ad3, cp3, n3⟩ ⟨ad6, cp6, n6⟩ (N3.out.1.grew (G4.out.trans (G5.out.trans G6.out))) N6.out.1
       have hfl : (flatL (kdL [⟨ad3, cp3, n3⟩, ⟨ad6, cp6, n6⟩])).length ≤ n3.length + n6.length := by simp [flatL, kdL]
       go_wp2_with fail
       go_loopw [16, 17] (fun kv i wr => ∃ (i2 : Nat) (ls : List Kd) (s2 : Cn) (t2 c2 : Nat), i = .int .i64 i2 ∧ i2 ≤ os'.length ∧ Hid (Hn d (.slice ade es.length cpe) W s wr s2 t2 c2 kv ls (.slice ado os'.length cpo) os') ∧ Hid (c2 ≤ 30 + 40 * i2 ∧ ls.length = 2 + i2 ∧ (flatL (kdL ls)).length ≤ t2 + 3 + 8 * i2)) (fun _ i _ => os'.length - (intOf i).toNat)
       case atStart => exact ⟨0, [⟨ad3, cp3, n3⟩, ⟨ad6, cp6, n6⟩], _, _, _, rfl, Nat.zero_le _, HS, by omega, rfl, by have := N3.out.2; have := N6.out.2; have := N5.out.2; omega⟩
       case round =>
         obtain ⟨i2, ls, s2, t2, c2, rfl, hle2, HH, HB⟩ := hrel
         obtain ⟨adk, cpk, rfl⟩ := g_is HH.out.kids
         by_cases hj : (i2 : Int) < (os'.length : Int)
         · rename World => Y1
           have hc2 : c2 + 40 ≤ 190 := by have := HB.out; have := HOs.out.2; omega
           have AR := hid HH.out.at_
           obtain ⟨go, j, rfl, hjo, hgB, hgl, cj⟩ := ops_at HH.out.ops (i := i2) (by omega)
           have hjE : j < es.length := HOs.out.1 j hjo
           have HEr := hid (HEW.out.grew AR.out.2.1)
           obtain ⟨be, oe, xn, xa, xr, rfl, -, hbr, hqe, c0, c1, c2'⟩ := HEr.out.effs.at (i := j) hjE
           have HQ := hid (And.intro hqe (And.intro hbr (And.intro hgl (And.intro (show go ≠ d.B by have := H0.out.ltB; omega) (show go ≠ d.G by have := H0.out.ltG; omega)))))
           have HE := HEr
           have hj0 : (0 : Int) ≤ (j : Int) := by omega
           have hj1 : (j : Int) < (es.length : Int) := by omega
           have hi20 : (0 : Int) ≤ (i2 : Int) := by omega
           have hstep : os'.length - (intOf (.int .i64 ((i2 + 1 : Nat) : Int))).toNat < os'.length - (intOf (.int .i64 (i2 : Int))).toNat := z60 hj
           clear hqe hbr hgl hgB hjE hjo
           go_upto_region 17 with fail
           refine z33 (S := fun w' => w'.cell? ⟨d.G, 1, none⟩ = some (.slice (some ⟨be, oe, none⟩) es.length cpe) ∧ w'.cell? ⟨go, i2, none⟩ = some (.int .i64 (j : Int)) ∧ w'.cell? ⟨be, oe + j * 3, none⟩ = some (.string xn) ∧ w'.cell? ⟨be, oe + j * 3 + 1, none⟩ = some (.int .i64 xa) ∧ w'.cell? ⟨be, oe + j * 3 + 2, none⟩ = some (.int .i64 xr)) (by kernel_rfl) rfl rfl ?_
           have A7 := hid AR.out.drew
           have G7 := hid (Grew.refl d Y1).drew
           generalize Y1.drew = X7 at *
           refine pick_o 0 (.pointer (some ⟨d.G, 0, none⟩)) ⟨A7.out.1.c1, ((G7.out.cell (p := ⟨go, i2, none⟩) ⟨HQ.out.2.2.1, HQ.out.2.2.2.1, HQ.out.2.2.2.2⟩).trans cj), ((G7.out.cell (p := ⟨be, oe + j * 3, none⟩) HQ.out.1).trans c0), ((G7.out.cell (p := ⟨be, oe + j * 3 + 1, none⟩) HQ.out.1).trans c1), ((G7.out.cell (p := ⟨be, oe + j * 3 + 2, none⟩) HQ.out.1).trans c2')⟩ ?_
           refine pick_o 1 (.pointer (some ⟨d.G, 0, none⟩)) ⟨A7.out.1.c1, ((G7.out.cell (p := ⟨go, i2, none⟩) ⟨HQ.out.2.2.1, HQ.out.2.2.2.1, HQ.out.2.2.2.2⟩).trans cj), ((G7.out.cell (p := ⟨be, oe + j * 3, none⟩) HQ.out.1).trans c0), ((G7.out.cell (p := ⟨be, oe + j * 3 + 1, none⟩) HQ.out.1).trans c1), ((G7.out.cell (p := ⟨be, oe + j * 3 + 2, none⟩) HQ.out.1).trans c2')⟩ ?_
           refine pick_o 2 (.pointer (some ⟨d.G, 1, none⟩)) ⟨A7.out.1.c1, ((G7.out.cell (p := ⟨go, i2, none⟩) ⟨HQ.out.2.2.1, HQ.out.2.2.2.1, HQ.out.2.2.2.2⟩).trans cj), ((G7.out.cell (p := ⟨be, oe + j * 3, none⟩) HQ.out.1).trans c0), ((G7.out.cell (p := ⟨be, oe + j * 3 + 1, none⟩) HQ.out.1).trans c1), ((G7.out.cell (p := ⟨be, oe + j * 3 + 2, none⟩) HQ.out.1).trans c2')⟩ ?_
           refine pick_o (hy := fun w' hw => by simp [go_sem, hw.1]) 3 (.slice (some ⟨be, oe, none⟩) es.length cpe) ⟨A7.out.1.c1, ((G7.out.cell (p := ⟨go, i2, none⟩) ⟨HQ.out.2.2.1, HQ.out.2.2.2.1, HQ.out.2.2.2.2⟩).trans cj), ((G7.out.cell (p := ⟨be, oe + j * 3, none⟩) HQ.out.1).trans c0), ((G7.out.cell (p := ⟨be, oe + j * 3 + 1, none⟩) HQ.out.1).trans c1), ((G7.out.cell (p := ⟨be, oe + j * 3 + 2, none⟩) HQ.out.1).trans c2')⟩ ?_
           refine pick_o 4 ((.slice (some ⟨go, 0, none⟩) os'.length cpo)) ⟨A7.out.1.c1, ((G7.out.cell (p := ⟨go, i2, none⟩) ⟨HQ.out.2.2.1, HQ.out.2.2.2.1, HQ.out.2.2.2.2⟩).trans cj), ((G7.out.cell (p := ⟨be, oe + j * 3, none⟩) HQ.out.1).trans c0), ((G7.out.cell (p := ⟨be, oe + j * 3 + 1, none⟩) HQ.out.1).trans c1), ((G7.out.cell (p := ⟨be, oe + j * 3 + 2, none⟩) HQ.out.1).trans c2')⟩ ?_
           refine pick_o 5 (.int .i64 (i2 : Int)) ⟨A7.out.1.c1, ((G7.out.cell (p := ⟨go, i2, none⟩) ⟨HQ.out.2.2.1, HQ.out.2.2.2.1, HQ.out.2.2.2.2⟩).trans cj), ((G7.out.cell (p := ⟨be, oe + j * 3, none⟩) HQ.out.1).trans c0), ((G7.out.cell (p := ⟨be, oe + j * 3 + 1, none⟩) HQ.out.1).trans c1), ((G7.out.cell (p := ⟨be, oe + j * 3 + 2, none⟩) HQ.out.1).trans c2')⟩ ?_
           refine pick_o (hy := fun w' hw => by simp [go_sem, hi20, hj]) 6 (.pointer (some ⟨go, i2, none⟩)) ⟨A7.out.1.c1, ((G7.out.cell (p := ⟨go, i2, none⟩) ⟨HQ.out.2.2.1, HQ.out.2.2.2.1, HQ.out.2.2.2.2⟩).trans cj), ((G7.out.cell (p := ⟨be, oe + j * 3, none⟩) HQ.out.1).trans c0), ((G7.out.cell (p := ⟨be, oe + j * 3 + 1, none⟩) HQ.out.1).trans c1), ((G7.out.cell (p := ⟨be, oe + j * 3 + 2, none⟩) HQ.out.1).trans c2')⟩ ?_
           refine pick_o (hy := fun w' hw => by simp [go_sem, hw.2.1]) 7 (.int .i64 (j : Int)) ⟨A7.out.1.c1, ((G7.out.cell (p := ⟨go, i2, none⟩) ⟨HQ.out.2.2.1, HQ.out.2.2.2.1, HQ.out.2.2.2.2⟩).trans cj), ((G7.out.cell (p := ⟨be, oe + j * 3, none⟩) HQ.out.1).trans c0), ((G7.out.cell (p := ⟨be, oe + j * 3 + 1, none⟩) HQ.out.1).trans c1), ((G7.out.cell (p := ⟨be, oe + j * 3 + 2, none⟩) HQ.out.1).trans c2')⟩ ?_
           refine pick_o (hy := fun w' hw => by simp [go_sem, hj0, hj1]) 8 (.pointer (some ⟨be, oe + j * 3, none⟩)) ⟨A7.out.1.c1, ((G7.out.cell (p := ⟨go, i2, none⟩) ⟨HQ.out.2.2.1, HQ.out.2.2.2.1, HQ.out.2.2.2.2⟩).trans cj), ((G7.out.cell (p := ⟨be, oe + j * 3, none⟩) HQ.out.1).trans c0), ((G7.out.cell (p := ⟨be, oe + j * 3 + 1, none⟩) HQ.out.1).trans c1), ((G7.out.cell (p := ⟨be, oe + j * 3 + 2, none⟩) HQ.out.1).trans c2')⟩ ?_
           refine pick_o (hy := fun w' hw => by simp [go_sem, hw.2.2.1, hw.2.2.2.1, hw.2.2.2.2]) 9 (.agg #[.string xn, .int .i64 xa, .int .i64 xr]) ⟨A7.out.1.c1, ((G7.out.cell (p := ⟨go, i2, none⟩) ⟨HQ.out.2.2.1, HQ.out.2.2.2.1, HQ.out.2.2.2.2⟩).trans cj), ((G7.out.cell (p := ⟨be, oe + j * 3, none⟩) HQ.out.1).trans c0), ((G7.out.cell (p := ⟨be, oe + j * 3 + 1, none⟩) HQ.out.1).trans c1), ((G7.out.cell (p := ⟨be, oe + j * 3 + 2, none⟩) HQ.out.1).trans c2')⟩ ?_
           have A8 := hid (A7.out.alloc (.cells #[.string ⟨#[]⟩, .int .i64 0, .int .i64 0] 112))
           have G8 := hid ((Grew.refl d X7).alloc (.cells #[.string ⟨#[]⟩, .int .i64 0, .int .i64 0] 112))
           refine z29 (i := 10) (v := .pointer (some ⟨X7.heap.size, 0, none⟩)) (w1 := X7.alloc (.cells #[.string ⟨#[]⟩, .int .i64 0, .int .i64 0] 112)) rfl (by kernel_rfl) rfl rfl (by simp [go_sem]) ⟨A8.out.1.c1, (((G7.out.trans G8.out).cell (p := ⟨go, i2, none⟩) ⟨HQ.out.2.2.1, HQ.out.2.2.2.1, HQ.out.2.2.2.2⟩).trans cj), (((G7.out.trans G8.out).cell (p := ⟨be, oe + j * 3, none⟩) HQ.out.1).trans c0), (((G7.out.trans G8.out).cell (p := ⟨be, oe + j * 3 + 1, none⟩) HQ.out.1).trans c1), (((G7.out.trans G8.out).cell (p := ⟨be, oe + j * 3 + 2, none⟩) HQ.out.1).trans c2')⟩ (by simp [go_sem]; exact rfl) ?_
           have EB := hid (boxW_heap X7 xn xa xr)
           have A9 := hid (A7.out.below (boxW_below X7 xn xa xr))
           have G9 : Hid (Grew d X7 (boxW X7 xn xa xr)) := Grew.of_below (boxW_below X7 xn xa xr)
           have HQ2 := hid (And.intro A7.out.1.ltB A7.out.1.ltG)
           refine z40 (i := 11) (w1 := boxW X7 xn xa xr) rfl rfl (by kernel_rfl) rfl rfl (by simp [go_sem, boxW]) ⟨A9.out.1.c1, (((G7.out.trans G9.out).cell (p := ⟨go, i2, none⟩) ⟨HQ.out.2.2.1, HQ.out.2.2.2.1, HQ.out.2.2.2.2⟩).trans cj), (((G7.out.trans G9.out).cell (p := ⟨be, oe + j * 3, none⟩) HQ.out.1).trans c0), (((G7.out.trans G9.out).cell (p := ⟨be, oe + j * 3 + 1, none⟩) HQ.out.1).trans c1), (((G7.out.trans G9.out).cell (p := ⟨be, oe + j * 3 + 2, none⟩) HQ.out.1).trans c2')⟩ ?_
           refine z32 (by kernel_rfl) ?_
           obtain ⟨bq, hbq⟩ : ∃ q, X7.heap.size = q := ⟨_, rfl⟩
           generalize boxW X7 xn xa xr = X9 at *
           rw [hbq] at EB HQ2 ⊢
           clear hbq cj c0 c1 c2' A8 G8
           go_wp2_with fail
           refine (A9.out.name HF.out (by omega)).mono ?_
           rintro e X10 ⟨x10, s10, rfl, hb10, ha, hg⟩
           have A10 := hid ha
           have G10 := hid hg
           clear ha hg
           have B10 := hid hb10
           clear hb10
           go_wp2_with fail
           refine (A10.out.name HF.out (by omega)).mono ?_
           rintro e X11 ⟨x11, s11, rfl, hb11, ha, hg⟩
           have A11 := hid ha
           have G11 := hid hg
           clear ha hg
           have B11 := hid hb11
           clear hb11
           have ec := (((G10.out.trans G11.out)).cell (p := ⟨bq, 1, none⟩) ⟨z26 EB.out, (show bq ≠ d.B by have := HQ2.out.1; omega), (show bq ≠ d.G by have := HQ2.out.2; omega)⟩).trans (z11 EB.out 1)
           have ec : X11.cell? ⟨bq, 1, none⟩ = some (.int .i64 xa) := ec
           go_wp2_with fail
           refine (z65 xa _).mono ?_
           rintro e W9 ⟨rfl, rfl⟩
           clear ec
           go_wp2_with fail
           refine (A11.out.add x10 xa 0 (HE.out.grew (G7.out.trans (G9.out.trans (G10.out.trans G11.out)))).know B10.out (by have := HE.out.room; omega)).mono ?_
           rintro e X12 ⟨u12, ks12, rfl, hk12, hkl12, ha, hg⟩
           have A12 := hid ha
           have G12 := hid hg
           clear ha hg
           have K12 := hid (And.intro hk12 hkl12)
           obtain ⟨ad12, cp12, rfl⟩ := hk12.is
           clear hk12 hkl12
           have ec := (((G10.out.trans (G11.out.trans G12.out))).cell (p := ⟨bq, 2, none⟩) ⟨z26 EB.out, (show bq ≠ d.B by have := HQ2.out.1; omega), (show bq ≠ d.G by have := HQ2.out.2; omega)⟩).trans (z11 EB.out 2)
           have ec : X12.cell? ⟨bq, 2, none⟩ = some (.int .i64 xr) := ec
           go_wp2_with fail
           refine (z65 xr _).mono ?_
           rintro e W9 ⟨rfl, rfl⟩
           clear ec
           go_wp2_with fail
           refine (A12.out.add x11 (wrap64 (10 + ty)) xr K12.out.1 B11.out (by have := HE.out.room; have := K12.out.2; omega)).mono ?_
           rintro e X13 ⟨u13, ks13, rfl, hk13, hkl13, ha, hg⟩
           have A13 := hid ha
           have G13 := hid hg
           clear ha hg
           have K13 := hid (And.intro hk13 hkl13)
           obtain ⟨ad13, cp13, rfl⟩ := hk13.is
           clear hk13 hkl13
           go_wp2_with fail
           refine (A13.out.nodes (HO.out deep ty _ _ _ _ _ _ (by have := HD.out; omega) (by have := HD.out; omega) (A13.out.fit HF.out 10 (by omega)) A13.out.1 ((HE.out.grew (G7.out.trans (G9.out.trans (G10.out.trans (G11.out.trans (G12.out.trans G13.out)))))).with K13.out.1 (by have := K12.out.2; have := K13.out.2; omega)))).mono ?_
           rintro e X14 ⟨v14, n14, s14, t14, rfl, hn14, hl14, ha, hg⟩
           have A14 := hid ha
           have G14 := hid hg
           clear ha hg
           have N14 := hid (And.intro hn14 hl14)
           obtain ⟨ad14, cp14, rfl⟩ := hn14.is
           clear hn14 hl14
           have g0 := A14.out.1.c0
           go_wp2_with fail
           refine (A14.out.pick HF.out (by omega) 3 (by decide)).mono ?_
           rintro e X15 ⟨m15, s15, rfl, hm15, hM15, ha, hg⟩
           have A15 := hid ha
           have G15 := hid hg
           clear ha hg
           clear g0
           by_cases hm3 : 0 < m15
           · have N16 := hid (And.intro (nd_lit_at (d := d) X15 ⟨5, 0, x11, ByteArray.empty, ByteArray.empty, 0⟩ (X15.heap.size) (by simp) A15.out.1.ltB A15.out.1.ltG ⟨B11.out, z14, z14⟩) (show [(⟨5, 0, x11, ByteArray.empty, ByteArray.empty, 0⟩ : Nd)].length = 1 from rfl))
             have A16 := hid (A15.out.alloc (.cells #[.int .i64 5, .int .i64 0, .string x11, .string ByteArray.empty, .string ByteArray.empty, .int .i64 0] 116))
             have G16 := hid ((Grew.refl d X15).alloc (.cells #[.int .i64 5, .int .i64 0, .string x11, .string ByteArray.empty, .string ByteArray.empty, .int .i64 0] 116))
             have ec := (((G10.out.trans (G11.out.trans (G12.out.trans (G13.out.trans (G14.out.trans (G15.out.trans G16.out))))))).cell (p := ⟨bq, 2, none⟩) ⟨z26 EB.out, (show bq ≠ d.B by have := HQ2.out.1; omega), (show bq ≠ d.G by have := HQ2.out.2; omega)⟩).trans (z11 EB.out 2)
             have ec : (X15.alloc (.cells #[.int .i64 5, .int .i64 0, .string x11, .string ⟨#[]⟩, .string ⟨#[]⟩, .int .i64 0] 116)).cell? ⟨bq, 2, none⟩ = some (.int .i64 xr) := ec
             go_wp2_with fail
             refine (z65 xr _).mono ?_
             rintro e W9 ⟨rfl, rfl⟩
             clear ec
             go_wp2_with fail
             refine (A16.out.add x11 0 0 (K13.out.1.grew (G14.out.trans (G15.out.trans G16.out))) B11.out (by have := HE.out.room; have := K12.out.2; have := K13.out.2; omega)).mono ?_
             rintro e X17 ⟨u17, ks17, rfl, hk17, hkl17, ha, hg⟩
             have A17 := hid ha
             have G17 := hid hg
             clear ha hg
             have K17 := hid (And.intro hk17 hkl17)
             obtain ⟨ad17, cp17, rfl⟩ := hk17.is
             clear hk17 hkl17
             go_wp2_with fail
             refine (A17.out.nodes (HO.out (deep - 1) xr _ _ _ _ _ _ (by have := HD.out; omega) (by have := HD.out; omega) (A17.out.fit HF.out 10 (by omega)) A17.out.1 ((HE.out.grew (G7.out.trans (G9.out.trans (G10.out.trans (G11.out.trans (G12.out.trans (G13.out.trans (G14.out.trans (G15.out.trans (G16.out.trans G17.out)))))))))).with K17.out.1 (by have := K12.out.2; have := K13.out.2; have := K17.out.2; omega)))).mono ?_
             rintro e X18 ⟨v18, n18, s18, t18, rfl, hn18, hl18, ha, hg⟩
             have A18 := hid ha
             have G18 := hid hg
             clear ha hg
             have N18 := hid (And.intro hn18 hl18)
             obtain ⟨ad18, cp18, rfl⟩ := hn18.is
             clear hn18 hl18
             go_wp2_with fail
             refine (A18.out.put2 7 0 0 ByteArray.empty ByteArray.empty ByteArray.empty (N16.out.1.grew (G17.out.trans G18.out)) N18.out.1 ⟨z14, z14, z14⟩ (by have := A18.out.bound HF.out (by omega) (by decide); have := N16.out.2; have := N18.out.2; omega)).mono ?_
             rintro e X19 ⟨v19, n19, rfl, hn19, hl19, ha, hg⟩
             have A19 := hid ha
             have G19 := hid hg
             clear ha hg
             have N19 := hid (And.intro hn19 hl19)
             obtain ⟨ad19, cp19, rfl⟩ := hn19.is
             clear hn19 hl19
             by_cases hty1 : ty = 1
             · subst hty1
               have g0 := A19.out.1.c0
               go_wp2_with fail
               refine (A19.out.pick HF.out (by omega) 4 (by decide)).mono ?_
               rintro e X20 ⟨m20, s20, rfl, hm20, hM20, ha, hg⟩
               have A20 := hid ha
               have G20 := hid hg
               clear ha hg
               clear g0
               by_cases hm4 : m20 = 0
               · subst hm4
                 have N21 := hid (And.intro (nd_lit_at (d := d) X20 ⟨5, 0, x11, ByteArray.empty, ByteArray.empty, 0⟩ (X20.heap.size) (by simp) A20.out.1.ltB A20.out.1.ltG ⟨B11.out, z14, z14⟩) (show [(⟨5, 0, x11, ByteArray.empty, ByteArray.empty, 0⟩ : Nd)].length = 1 from rfl))
                 have A21 := hid (A20.out.alloc (.cells #[.int .i64 5, .int .i64 0, .string x11, .string ByteArray.empty, .string ByteArray.empty, .int .i64 0] 116))
                 have G21 := hid ((Grew.refl d X20).alloc (.cells #[.int .i64 5, .int .i64 0, .string x11, .string ByteArray.empty, .string ByteArray.empty, .int .i64 0] 116))
                 have ec := (((G10.out.trans (G11.out.trans (G12.out.trans (G13.out.trans (G14.out.trans (G15.out.trans (G16.out.trans (G17.out.trans (G18.out.trans (G19.out.trans (G20.out.trans G21.out)))))))))))).cell (p := ⟨bq, 2, none⟩) ⟨z26 EB.out, (show bq ≠ d.B by have := HQ2.out.1; omega), (show bq ≠ d.G by have := HQ2.out.2; omega)⟩).trans (z11 EB.out 2)
                 have ec : (X20.alloc (.cells #[.int .i64 5, .int .i64 0, .string x11, .string ⟨#[]⟩, .string ⟨#[]⟩, .int .i64 0] 116)).cell? ⟨bq, 2, none⟩ = some (.int .i64 xr) := ec
                 go_wp2_with fail
                 refine (z65 xr _).mono ?_
                 rintro e W9 ⟨rfl, rfl⟩
                 clear ec
                 go_wp2_with fail
                 refine (A21.out.add x11 0 0 (K13.out.1.grew (G14.out.trans (G15.out.trans (G16.out.trans (G17.out.trans (G18.out.trans (G19.out.trans (G20.out.trans G21.out)))))))) B11.out (by have := HE.out.room; have := K12.out.2; have := K13.out.2; omega)).mono ?_
                 rintro e X22 ⟨u22, ks22, rfl, hk22, hkl22, ha, hg⟩
                 have A22 := hid ha
                 have G22 := hid hg
                 clear ha hg
                 have K22 := hid (And.intro hk22 hkl22)
                 obtain ⟨ad22, cp22, rfl⟩ := hk22.is
                 clear hk22 hkl22
                 go_wp2_with fail
                 refine (A22.out.nodes (leaf_calls xr A22.out.1 (A22.out.fit HF.out 10 (by omega)) K22.out.1 (by have := HE.out.room; have := K12.out.2; have := K13.out.2; have := K22.out.2; omega))).mono ?_
                 rintro e X23 ⟨v23, n23, s23, t23, rfl, hn23, hl23, ha, hg⟩
                 have A23 := hid ha
                 have G23 := hid hg
                 clear ha hg
                 have N23 := hid (And.intro hn23 hl23)
                 obtain ⟨ad23, cp23, rfl⟩ := hn23.is
                 clear hn23 hl23
                 go_wp2_with fail
                 refine (A23.out.put2 7 0 0 ByteArray.empty ByteArray.empty ByteArray.empty (N21.out.1.grew (G22.out.trans G23.out)) N23.out.1 ⟨z14, z14, z14⟩ (by have := A23.out.bound HF.out (by omega) (by decide); have := N21.out.2; have := N23.out.2; omega)).mono ?_
                 rintro e X24 ⟨v24, n24, rfl, hn24, hl24, ha, hg⟩
                 have A24 := hid ha
                 have G24 := hid hg
                 clear ha hg
                 have N24 := hid (And.intro hn24 hl24)
                 obtain ⟨ad24, cp24, rfl⟩ := hn24.is
                 clear hn24 hl24
                 go_wp2_with fail
                 refine (A24.out.put2 11 0 0 ByteArray.empty ByteArray.empty ByteArray.empty (N19.out.1.grew (G20.out.trans (G21.out.trans (G22.out.trans (G23.out.trans G24.out))))) N24.out.1 ⟨z14, z14, z14⟩ (by have := A24.out.bound HF.out (by omega) (by decide); have := N19.out.2; have := N16.out.2; have := N18.out.2; have := N24.out.2; have := N21.out.2; have := N23.out.2; omega)).mono ?_
                 rintro e X25 ⟨v25, n25, rfl, hn25, hl25, ha, hg⟩
                 have A25 := hid ha
                 have G25 := hid hg
                 clear ha hg
                 have N25 := hid (And.intro hn25 hl25)
                 obtain ⟨ad25, cp25, rfl⟩ := hn25.is
                 clear hn25 hl25
                 have ec := (((G10.out.trans (G11.out.trans (G12.out.trans (G13.out.trans (G14.out.trans (G15.out.trans (G16.out.trans (G17.out.trans (G18.out.trans (G19.out.trans (G20.out.trans (G21.out.trans (G22.out.trans (G23.out.trans (G24.out.trans G25.out)))))))))))))))).cell (p := ⟨bq, 0, none⟩) ⟨z26 EB.out, (show bq ≠ d.B by have := HQ2.out.1; omega), (show bq ≠ d.G by have := HQ2.out.2; omega)⟩).trans (z11 EB.out 0)
                 have ec : X25.cell? ⟨bq, 0, none⟩ = some (.string xn) := ec
                 go_wp2_with fail
                 refine (A25.out.put1 26 0 0 xn x10 x11 N25.out.1 ⟨HQ.out.2.1, B10.out, B11.out⟩ (by have := A25.out.bound HF.out (by omega) (by decide); have := N25.out.2; have := N19.out.2; have := N16.out.2; have := N18.out.2; have := N24.out.2; have := N21.out.2; have := N23.out.2; omega)).mono ?_
                 rintro e X26 ⟨v26, n26, rfl, hn26, hl26, ha, hg⟩
                 have A26 := hid ha
                 have G26 := hid hg
                 clear ha hg
                 have N26 := hid (And.intro hn26 hl26)
                 obtain ⟨ad26, cp26, rfl⟩ := hn26.is
                 clear hn26 hl26
                 clear ec
                 have HFl : Hid ((flatL (kdL (ls ++ [⟨ad26, cp26, n26⟩]))).length = (flatL (kdL ls)).length + n26.length) := by show _ = _; simp [flatL, kdL]
                 have HLL : Hid (ls.length ≤ 1000) := by show _ ≤ _; have := HB.out; have := HOs.out.2; omega
                 go_wp2_with (at_builtin; refine z36 rfl _ _ 158 rfl _ _ rfl rfl (fun ty_ => HH.out.app H0.out A26.out (G7.out.trans (G9.out.trans (G10.out.trans (G11.out.trans (G12.out.trans (G13.out.trans (G14.out.trans (G15.out.trans (G16.out.trans (G17.out.trans (G18.out.trans (G19.out.trans (G20.out.trans (G21.out.trans (G22.out.trans (G23.out.trans (G24.out.trans (G25.out.trans G26.out)))))))))))))))))) ⟨ad26, cp26, n26⟩ N26.out.1 HLL.out ty_) ?_; intro vq Xq hvq; have HQQ := hid hvq; clear hvq)
                 rw [z31 (by have := HOs.out.2; omega)]
                 exact ⟨⟨i2 + 1, ls ++ [⟨ad26, cp26, n26⟩], _, _, _, rfl, by omega, HQQ, by have := HB.out; omega, by have := HB.out; simp; omega, by have := HB.out; have := HFl.out; have := N26.out.2; have := N25.out.2; have := N19.out.2; have := N16.out.2; have := N18.out.2; have := N24.out.2; have := N21.out.2; have := N23.out.2; omega⟩, hstep⟩
               · have z4 : (m20 == 0) = false := by simp [hm4]
                 have ec := (((G10.out.trans (G11.out.trans (G12.out.trans (G13.out.trans (G14.out.trans (G15.out.trans (G16.out.trans (G17.out.trans (G18.out.trans (G19.out.trans G20.out))))))))))).cell (p := ⟨bq, 0, none⟩) ⟨z26 EB.out, (show bq ≠ d.B by have := HQ2.out.1; omega), (show bq ≠ d.G by have := HQ2.out.2; omega)⟩).trans (z11 EB.out 0)
                 have ec : X20.cell? ⟨bq, 0, none⟩ = some (.string xn) := ec
                 go_wp2_with fail
                 refine (A20.out.put1 26 0 0 xn x10 x11 (N19.out.1.grew G20.out) ⟨HQ.out.2.1, B10.out, B11.out⟩ (by have := A20.out.bound HF.out (by omega) (by decide); have := N19.out.2; have := N16.out.2; have := N18.out.2; omega)).mono ?_
                 rintro e X21 ⟨v21, n21, rfl, hn21, hl21, ha, hg⟩
                 have A21 := hid ha
                 have G21 := hid hg
                 clear ha hg
                 have N21 := hid (And.intro hn21 hl21)
                 obtain ⟨ad21, cp21, rfl⟩ := hn21.is
                 clear hn21 hl21
                 clear ec
                 have HFl : Hid ((flatL (kdL (ls ++ [⟨ad21, cp21, n21⟩]))).length = (flatL (kdL ls)).length + n21.length) := by show _ = _; simp [flatL, kdL]
                 have HLL : Hid (ls.length ≤ 1000) := by show _ ≤ _; have := HB.out; have := HOs.out.2; omega
                 go_wp2_with (at_builtin; refine z36 rfl _ _ 158 rfl _ _ rfl rfl (fun ty_ => HH.out.app H0.out A21.out (G7.out.trans (G9.out.trans (G10.out.trans (G11.out.trans (G12.out.trans (G13.out.trans (G14.out.trans (G15.out.trans (G16.out.trans (G17.out.trans (G18.out.trans (G19.out.trans (G20.out.trans G21.out))))))))))))) ⟨ad21, cp21, n21⟩ N21.out.1 HLL.out ty_) ?_; intro vq Xq hvq; have HQQ := hid hvq; clear hvq)
                 rw [z31 (by have := HOs.out.2; omega)]
                 exact ⟨⟨i2 + 1, ls ++ [⟨ad21, cp21, n21⟩], _, _, _, rfl, by omega, HQQ, by have := HB.out; omega, by have := HB.out; simp; omega, by have := HB.out; have := HFl.out; have := N21.out.2; have := N19.out.2; have := N16.out.2; have := N18.out.2; omega⟩, hstep⟩
             · have zt : (ty == 1) = false := by simp [hty1]
               have ec := (((G10.out.trans (G11.out.trans (G12.out.trans (G13.out.trans (G14.out.trans (G15.out.trans (G16.out.trans (G17.out.trans (G18.out.trans G19.out)))))))))).cell (p := ⟨bq, 0, none⟩) ⟨z26 EB.out, (show bq ≠ d.B by have := HQ2.out.1; omega), (show bq ≠ d.G by have := HQ2.out.2; omega)⟩).trans (z11 EB.out 0)
               have ec : X19.cell? ⟨bq, 0, none⟩ = some (.string xn) := ec
               go_wp2_with fail
               refine (A19.out.put1 26 0 0 xn x10 x11 N19.out.1 ⟨HQ.out.2.1, B10.out, B11.out⟩ (by have := A19.out.bound HF.out (by omega) (by decide); have := N19.out.2; have := N16.out.2; have := N18.out.2; omega)).mono ?_
               rintro e X20 ⟨v20, n20, rfl, hn20, hl20, ha, hg⟩
               have A20 := hid ha
               have G20 := hid hg
               clear ha hg
               have N20 := hid (And.intro hn20 hl20)
               obtain ⟨ad20, cp20, rfl⟩ := hn20.is
               clear hn20 hl20
               clear ec
               have HFl : Hid ((flatL (kdL (ls ++ [⟨ad20, cp20, n20⟩]))).length = (flatL (kdL ls)).length + n20.length) := by show _ = _; simp [flatL, kdL]
               have HLL : Hid (ls.length ≤ 1000) := by show _ ≤ _; have := HB.out; have := HOs.out.2; omega
               go_wp2_with (at_builtin; refine z36 rfl _ _ 158 rfl _ _ rfl rfl (fun ty_ => HH.out.app H0.out A20.out (G7.out.trans (G9.out.trans (G10.out.trans (G11.out.trans (G12.out.trans (G13.out.trans (G14.out.trans (G15.out.trans (G16.out.trans (G17.out.trans (G18.out.trans (G19.out.trans G20.out)))))))))))) ⟨ad20, cp20, n20⟩ N20.out.1 HLL.out ty_) ?_; intro vq Xq hvq; have HQQ := hid hvq; clear hvq)
               rw [z31 (by have := HOs.out.2; omega)]
               exact ⟨⟨i2 + 1, ls ++ [⟨ad20, cp20, n20⟩], _, _, _, rfl, by omega, HQQ, by have := HB.out; omega, by have := HB.out; simp; omega, by have := HB.out; have := HFl.out; have := N20.out.2; have := N19.out.2; have := N16.out.2; have := N18.out.2; omega⟩, hstep⟩
           · have hm30 : m15 = 0 := by omega
             subst hm30
             have ec := (((G10.out.trans (G11.out.trans (G12.out.trans (G13.out.trans (G14.out.trans G15.out)))))).cell (p := ⟨bq, 0, none⟩) ⟨z26 EB.out, (show bq ≠ d.B by have := HQ2.out.1; omega), (show bq ≠ d.G by have := HQ2.out.2; omega)⟩).trans (z11 EB.out 0)
             have ec : X15.cell? ⟨bq, 0, none⟩ = some (.string xn) := ec
             go_wp2_with fail
             refine (A15.out.put1 26 0 0 xn x10 x11 (N14.out.1.grew G15.out) ⟨HQ.out.2.1, B10.out, B11.out⟩ (by have := A15.out.bound HF.out (by omega) (by decide); have := N14.out.2; omega)).mono ?_
             rintro e X16 ⟨v16, n16, rfl, hn16, hl16, ha, hg⟩
             have A16 := hid ha
             have G16 := hid hg
             clear ha hg
             have N16 := hid (And.intro hn16 hl16)
             obtain ⟨ad16, cp16, rfl⟩ := hn16.is
             clear hn16 hl16
             clear ec
             have HFl : Hid ((flatL (kdL (ls ++ [⟨ad16, cp16, n16⟩]))).length = (flatL (kdL ls)).length + n16.length) := by show _ = _; simp [flatL, kdL]
             have HLL : Hid (ls.length ≤ 1000) := by show _ ≤ _; have := HB.out; have := HOs.out.2; omega
             go_wp2_with (at_builtin; refine z36 rfl _ _ 158 rfl _ _ rfl rfl (fun ty_ => HH.out.app H0.out A16.out (G7.out.trans (G9.out.trans (G10.out.trans (G11.out.trans (G12.out.trans (G13.out.trans (G14.out.trans (G15.out.trans G16.out)))))))) ⟨ad16, cp16, n16⟩ N16.out.1 HLL.out ty_) ?_; intro vq Xq hvq; have HQQ := hid hvq; clear hvq)
             rw [z31 (by have := HOs.out.2; omega)]
             exact ⟨⟨i2 + 1, ls ++ [⟨ad16, cp16, n16⟩], _, _, _, rfl, by omega, HQQ, by have := HB.out; omega, by have := HB.out; simp; omega, by have := HB.out; have := HFl.out; have := N16.out.2; have := N14.out.2; omega⟩, hstep⟩
         · have e2 : i2 = os'.length := by omega
           have hb4 := HOs.out.2
           have hcz : c2 ≤ 190 ∧ (flatL (kdL ls)).length ≤ t2 + 35 := by have := HB.out; omega
           have AZ := hid HH.out.at_
           have HKZ := hid (kids_own HH.out.kids H0.out.ltB H0.out.ltG HH.out.nodes)
           go_wp2_with fail
           refine (AZ.out.put_kids 23 0 0 ⟨#[]⟩ ⟨#[]⟩ ⟨#[]⟩ HKZ.out ⟨z14, z14, z14⟩ (by simp [kdL]; have := HB.out; omega) (by have := AZ.out.bound HF.out (by omega) (by decide); omega)).mono ?_
           rintro e XZ ⟨vz, nz, rfl, hnz, hlz, haz, hgz⟩
           have NZ := hid (And.intro haz (And.intro hnz hlz))
           clear haz hnz hlz hgz
           go_wp2_with fail
           go_ret
           exact NZ.out.1.done 36 NZ.out.2.1 (by have := NZ.out.2.2; omega) (by omega)
end
section
open Go.RowKit Go.Deep
def HanC (d : Dr) (ve : Value) (es : List Ef) (D : Nat) : Prop :=
 ∀ (ty deep : Int) (v vm : Value) (ks : List Kn) (ms : List Bool) (X : World) (s : Cn), deep ≤ D → -90 ≤ deep → Gen d ve X s → Fit s 250 → Env d ve es X v ks vm ms (D + 1) →
   Calls Tryz.prog 59 #[.pointer (some ⟨d.G, 0, none⟩), .int .i64 ty, v, vm, .int .i64 deep] X (NodesPost d ve X s 250)
theorem of_post {d : Dr} {ve : Value} {W X : World} {s s1 : Cn} {e : Ending} {Y : World} {c : Nat} (hg : Grew d W X) (e1 : s1.p = s.p) (e2 : s1.next = s.next) (e3 : s1.left = s.left - 1) (h : NodesPost d ve X s1 c e Y) (hc : c ≤ 9 ∨ (0 < s.left ∧ c ≤ 300)) : NodesPost d ve W s 10 e Y := by
 obtain ⟨v, ns, s', t, h1, h2, h3, h4, h5, h6⟩ := h
 refine ⟨v, ns, s', t + 1, h1, h2, by omega, h4, hg.trans h5, ?_⟩
 unfold Spent at h6 ⊢
 omega
theorem of_fit {s s1 : Cn} (hf : Fit s 10) (e1 : s1.p = s.p) (e2 : s1.next = s.next) (e3 : s1.left = s.left - 1) : Fit s1 9 ∧ (0 < s.left → Fit s1 300) := by
 unfold Fit at hf ⊢
 omega
set_option maxHeartbeats 4000000 in
set_option maxRecDepth 100000 in
theorem leaf5n {d : Dr} {ve v : Value} {W : World} {s : Cn} {ks : List Kn} (ty : Int) (h1 : ty ≠ 1) (h2 : ty ≠ 2) (h3 : ty ≠ 3) (h4 : ty ≠ 4) (h : Gen d ve W s) (hf : Fit s 9) (hk : KnowsD d W v ks) (hl : ks.length ≤ 998) :
   Calls Tryz.prog 55 #[.pointer (some ⟨d.G, 0, none⟩), .int .i64 ty, v] W (NodesPost d ve W s 9) := by
 have HF := hid hf
 have A0 := hid (At.start h)
 have HKn := hid hk
 have HKl := hid hl
 have HK := hid (A0.out.nodes0 (z63 ty h (by unfold Fit at hf; omega) hk (by omega)))
 obtain ⟨ad, cp, rfl⟩ := hk.is
 clear hk hl h hf
 have e1 : (ty == 1) = false := by simp [h1]
 have e2 : (ty == 2) = false := by simp [h2]
 have e3 : (ty == 3) = false := by simp [h3]
 have e4 : (ty == 4) = false := by simp [h4]
 clear h1 h2 h3 h4
 go_enter Tryz.func55, Tryz.ntmps55
 go_wp2_with fail
 refine HK.out.mono ?_
 rintro e X1 ⟨v1, n1, s1, t1, rfl, hn1, hl1, ha1, hg1⟩
 have A1 := hid ha1
 have N1 := hid (And.intro hn1 hl1)
 have G1 := hid hg1
 obtain ⟨ad1, cp1, rfl⟩ := hn1.is
 obtain ⟨l1, hl1e⟩ : ∃ l, n1.length = l := ⟨_, rfl⟩
 have HL1 := hid hl1e
 rw [hl1e] at N1 ⊢
 clear hn1 hl1 ha1 hg1 HK hl1e A0
 by_cases hz : l1 = 0
 · subst hz
   go_wp2_with fail
   refine (A1.out.name HF.out (by omega)).mono ?_
   rintro e X2 ⟨x2, s2, rfl, hb2, ha, hg⟩
   have A2 := hid ha
   have G2 := hid hg
   clear ha hg
   have B2 := hid hb2
   clear hb2
   go_wp2_with fail
   refine (A2.out.add x2 1 0 (HKn.out.grew (G1.out.trans G2.out)) B2.out (by have := HKl.out; omega)).mono ?_
   rintro e X3 ⟨u3, ks3, rfl, hk3, hkl3, ha, hg⟩
   have A3 := hid ha
   have G3 := hid hg
   clear ha hg
   have K3 := hid (And.intro hk3 hkl3)
   clear hk3 hkl3
   go_wp2_with fail
   refine (A3.out.nodes (leaf1 1 rfl A3.out.1 (A3.out.fit HF.out 4 (by omega)) K3.out.1 (by have := K3.out.2; have := HKl.out; omega))).mono ?_
   rintro e X4 ⟨v4, n4, s4, t4, rfl, hn4, hl4, ha, hg⟩
   have A4 := hid ha
   have G4 := hid hg
   clear ha hg
   have N4 := hid (And.intro hn4 hl4)
   obtain ⟨ad4, cp4, rfl⟩ := hn4.is
   clear hn4 hl4
   go_wp2_with fail
   refine (A4.out.put1 6 0 0 x2 ByteArray.empty ByteArray.empty N4.out.1 ⟨B2.out, z14, z14⟩ (by have := A4.out.bound HF.out (by omega) (by decide); have := N4.out.2; omega)).mono ?_
   rintro e X5 ⟨v5, n5, rfl, hn5, hl5, ha, hg⟩
   have A5 := hid ha
   have G5 := hid hg
   clear ha hg
   have N5 := hid (And.intro hn5 hl5)
   obtain ⟨ad5, cp5, rfl⟩ := hn5.is
   clear hn5 hl5
   go_wp2_with fail
   go_ret
   exact A5.out.done 1 N5.out.1 (by have := N5.out.2; have := N4.out.2; omega) (by omega)
 · have hz' : (0 : Int) < (l1 : Int) := by omega
   have g0 := A1.out.1.c0
   go_wp2_with fail
   refine (A1.out.pick HF.out (by omega) 3 (by decide)).mono ?_
   rintro e X2 ⟨m2, s2, rfl, hm2, hM2, ha, hg⟩
   have A2 := hid ha
   have G2 := hid hg
   clear ha hg
   clear g0
   by_cases hm : 0 < m2
   · go_wp2_with fail
     go_ret
     exact A2.out.done 0 (N1.out.1.grew G2.out) (by have := N1.out.2; have := HL1.out; omega) (by omega)
   · have hm0 : m2 = 0 := by omega
     subst hm0
     go_wp2_with fail
     refine (A2.out.name HF.out (by omega)).mono ?_
     rintro e X3 ⟨x3, s3, rfl, hb3, ha, hg⟩
     have A3 := hid ha
     have G3 := hid hg
     clear ha hg
     have B3 := hid hb3
     clear hb3
     go_wp2_with fail
     refine (A3.out.add x3 1 0 (HKn.out.grew (G1.out.trans (G2.out.trans G3.out))) B3.out (by have := HKl.out; omega)).mono ?_
     rintro e X4 ⟨u4, ks4, rfl, hk4, hkl4, ha, hg⟩
     have A4 := hid ha
     have G4 := hid hg
     clear ha hg
     have K4 := hid (And.intro hk4 hkl4)
     clear hk4 hkl4
     go_wp2_with fail
     refine (A4.out.nodes (leaf1 1 rfl A4.out.1 (A4.out.fit HF.out 4 (by omega)) K4.out.1 (by have := K4.out.2; have := HKl.out; omega))).mono ?_
     rintro e X5 ⟨v5, n5, s5, t5, rfl, hn5, hl5, ha, hg⟩
     have A5 := hid ha
     have G5 := hid hg
     clear ha hg
     have N5 := hid (And.intro hn5 hl5)
     obtain ⟨ad5, cp5, rfl⟩ := hn5.is
     clear hn5 hl5
     go_wp2_with fail
     refine (A5.out.put1 6 0 0 x3 ByteArray.empty ByteArray.empty N5.out.1 ⟨B3.out, z14, z14⟩ (by have := A5.out.bound HF.out (by omega) (by decide); have := N5.out.2; omega)).mono ?_
     rintro e X6 ⟨v6, n6, rfl, hn6, hl6, ha, hg⟩
     have A6 := hid ha
     have G6 := hid hg
     clear ha hg
     have N6 := hid (And.intro hn6 hl6)
     obtain ⟨ad6, cp6, rfl⟩ := hn6.is
     clear hn6 hl6
     go_wp2_with fail
     go_ret
     exact A6.out.done 1 N6.out.1 (by have := N6.out.2; have := N5.out.2; omega) (by omega)
theorem leaf_nine {d : Dr} {ve v : Value} {W : World} {s : Cn} {ks : List Kn} (ty : Int) (h : Gen d ve W s) (hf : Fit s 9) (hk : KnowsD d W v ks) (hl : ks.length ≤ 998) :
   Calls Tryz.prog 55 #[.pointer (some ⟨d.G, 0, none⟩), .int .i64 ty, v] W (NodesPost d ve W s 9) := by
 by_cases h1 : ty = 1
 · exact (leaf1 ty h1 h (hf.mono (by omega)) hk (by omega)).mono fun e W' h => h.mono (by omega)
 by_cases h2 : ty = 2
 · exact (leaf2 ty h2 h (hf.mono (by omega)) hk (by omega)).mono fun e W' h => h.mono (by omega)
 by_cases h3 : ty = 3
 · exact (leaf3 ty h3 h (hf.mono (by omega)) hk (by omega)).mono fun e W' h => h.mono (by omega)
 by_cases h4 : ty = 4
 · exact (leaf4 ty h4 h (hf.mono (by omega)) hk (by omega)).mono fun e W' h => h.mono (by omega)
 exact leaf5n ty h1 h2 h3 h4 h hf hk hl
set_option maxHeartbeats 8000000 in
set_option maxRecDepth 100000 in
theorem of_step {d : Dr} {ve : Value} {es : List Ef} {D : Nat} (hD : D ≤ 90) (hO : OfC d ve es D) (hH : HanC d ve es D) : OfC d ve es (D + 1) := by
 intro deep ty v vm ks ms W s h1 h2 hf h hE
 have HO := hid hO
 have HH := hid hH
 have hl := h.setLeft (s.left - 1)
 have f2 := h.f2
 have c2 := h.c2
 have HF0 := hid hf
 have HW : Hid (wrap64 (s.left - 1) = s.left - 1) := by show _ = _; unfold Fit at hf; unfold wrap64; omega
 have HD0 := hid (And.intro h1 (And.intro h2 hD))
 obtain ⟨ad, cp, rfl⟩ := hE.know.is
 obtain ⟨adm, cpm, rfl⟩ := hE.may.is
 obtain ⟨X, hX⟩ : ∃ X, W.setCell ⟨d.G, 2, none⟩ (.int .i64 (s.left - 1)) = X := ⟨_, rfl⟩
 rw [hX] at hl
 have HX := hid hX
 obtain ⟨s1, hs1⟩ : ∃ s1 : Cn, { s with left := s.left - 1 } = s1 := ⟨_, rfl⟩
 rw [hs1] at hl
 have e1 : s1.p = s.p := by rw [← hs1]
 have e2 : s1.next = s.next := by rw [← hs1]
 have e3 : s1.left = s.left - 1 := by rw [← hs1]
 have HFF := hid (of_fit hf e1 e2 e3)
 have HP := hid (fun (c : Nat) (e : Ending) (Y : World) (h : NodesPost d ve X s1 c e Y) (hc : c ≤ 9 ∨ (0 < s.left ∧ c ≤ 300)) => of_post hl.2 e1 e2 e3 h hc)
 have A0 := hid (At.start hl.1)
 have HE := hid (hE.grew hl.2)
 have g2 := hl.1.c2
 have g0 := hl.1.c0
 rw [e3] at g2
 obtain ⟨L, hL⟩ : ∃ L : Int, s.left - 1 = L := ⟨_, rfl⟩
 have HLe := hid hL
 rw [hL] at g2
 clear hO hH hl hf h hE hX hs1 e1 e2 e3 hL
 go_enter Tryz.func30, Tryz.ntmps30
 go_upto_region 2 with fail
 try rw [HW.out]
 rw [HX.out]
 clear c2 f2 HW HX
 have HLF := hid (leaf_nine ty A0.out.1 HFF.out.1 HE.out.know (by have := HE.out.room; omega))
 by_cases hd : deep ≤ 1
 · go_wp2_with fail
   refine HLF.out.mono ?_
   rintro e Xl ⟨vl, nl, sl, tl, rfl, hnl, hll, hgl, hgrl, hspl⟩
   have NL := hid (And.intro hnl (And.intro hll (And.intro hgl (And.intro hgrl hspl))))
   clear hnl hll hgl hgrl hspl
   go_wp2_with fail
   go_ret
   exact HP.out 9 _ _ ⟨vl, nl, sl, tl, rfl, NL.out.1, NL.out.2.1, NL.out.2.2.1, NL.out.2.2.2.1, NL.out.2.2.2.2⟩ (Or.inl (by omega))
 · by_cases hl0 : L ≤ 0
   · go_wp2_with fail
     refine HLF.out.mono ?_
     rintro e Xl ⟨vl, nl, sl, tl, rfl, hnl, hll, hgl, hgrl, hspl⟩
     have NL := hid (And.intro hnl (And.intro hll (And.intro hgl (And.intro hgrl hspl))))
     clear hnl hll hgl hgrl hspl
     go_wp2_with fail
     go_ret
     exact HP.out 9 _ _ ⟨vl, nl, sl, tl, rfl, NL.out.1, NL.out.2.1, NL.out.2.2.1, NL.out.2.2.2.1, NL.out.2.2.2.2⟩ (Or.inl (by omega))
   · have HPos : Hid (0 < s.left) := by show _ < _; have := HLe.out; omega
     have HF := hid (HFF.out.2 HPos.out)
     have HD := hid (And.intro (show deep - 1 ≤ (D : Int) by have := HD0.out.1; omega) (And.intro (show -90 ≤ deep - 1 by omega) (show D ≤ 100 by omega)))
     have hdu : deep ≤ 1000 := by have := HD0.out; omega
     go_wp2_with fail
     refine (A0.out.pick HF.out (by omega) 9 (by decide)).mono ?_
     rintro e X1 ⟨m1, s51, rfl, hm1, hM1, ha, hg⟩
     have A1 := hid ha
     have G1 := hid hg
     clear ha hg
     by_cases h9 : m1 = 0
     · subst h9
       have HL3 := hid (A1.out.nodes (leaf_calls ty A1.out.1 (A1.out.fit HF.out 10 (by omega)) (HE.out.grew G1.out).know (by have := HE.out.room; omega)))
       go_wp2_with fail
       refine HL3.out.mono ?_
       rintro e X2 ⟨v2, n2, s2, t2, rfl, hn2, hl2, ha, hg⟩
       have A2 := hid ha
       have G2 := hid hg
       clear ha hg
       have N2 := hid (And.intro hn2 hl2)
       clear hn2 hl2
       go_wp2_with fail
       go_ret
       exact HP.out 300 _ _ (A2.out.done 0 N2.out.1 (by have := N2.out.2; omega) (by omega)) (Or.inr ⟨HPos.out, by omega⟩)
     · have z9 : (m1 == 0) = false := by simp [h9]
       have g0 := A1.out.1.c0
       go_wp2_with fail
       refine (A1.out.pick HF.out (by omega) 11 (by decide)).mono ?_
       rintro e X2 ⟨m2, s2, rfl, hm2, hM2, ha, hg⟩
       have A2 := hid ha
       have G2 := hid hg
       clear ha hg
       clear g0
       have hcs : m2 = 0 ∨ m2 = 1 ∨ m2 = 2 ∨ m2 = 3 ∨ m2 = 4 ∨ m2 = 5 ∨ m2 = 6 ∨ m2 = 7 ∨ m2 = 8 ∨ m2 = 9 ∨ m2 = 10 := by omega
       rcases hcs with rfl | rfl | rfl | rfl | rfl | rfl | rfl | rfl | rfl | rfl | rfl
       · go_wp2_with fail
         refine (A2.out.nodes (HO.out (deep - 1) 2 _ _ _ _ _ _ (by have := HD.out; omega) (by have := HD.out; omega) (A2.out.fit HF.out 10 (by omega)) A2.out.1 (HE.out.grew (G1.out.trans G2.out)).down)).mono ?_
         rintro e X3 ⟨v3, n3, s3, t3, rfl, hn3, hl3, ha, hg⟩
         have A3 := hid ha
         have G3 := hid hg
         clear ha hg
         have N3 := hid (And.intro hn3 hl3)
         obtain ⟨ad3, cp3, rfl⟩ := hn3.is
         clear hn3 hl3
         go_wp2_with fail
         refine (A3.out.nodes (HO.out (deep - 1) ty _ _ _ _ _ _ (by have := HD.out; omega) (by have := HD.out; omega) (A3.out.fit HF.out 10 (by omega)) A3.out.1 (HE.out.grew (G1.out.trans (G2.out.trans G3.out))).down)).mono ?_
         rintro e X4 ⟨v4, n4, s4, t4, rfl, hn4, hl4, ha, hg⟩
         have A4 := hid ha
         have G4 := hid hg
         clear ha hg
         have N4 := hid (And.intro hn4 hl4)
         obtain ⟨ad4, cp4, rfl⟩ := hn4.is
         clear hn4 hl4
         go_wp2_with fail
         refine (A4.out.nodes (HO.out (deep - 1) ty _ _ _ _ _ _ (by have := HD.out; omega) (by have := HD.out; omega) (A4.out.fit HF.out 10 (by omega)) A4.out.1 (HE.out.grew (G1.out.trans (G2.out.trans (G3.out.trans G4.out)))).down)).mono ?_
         rintro e X5 ⟨v5, n5, s5, t5, rfl, hn5, hl5, ha, hg⟩
         have A5 := hid ha
         have G5 := hid hg
         clear ha hg
         have N5 := hid (And.intro hn5 hl5)
         obtain ⟨ad5, cp5, rfl⟩ := hn5.is
         clear hn5 hl5
         go_wp2_with fail
         refine (A5.out.put3 10 0 0 ByteArray.empty ByteArray.empty ByteArray.empty (N3.out.1.grew (G4.out.trans G5.out)) (N4.out.1.grew G5.out) N5.out.1 ⟨z14, z14, z14⟩ (by have := A5.out.bound HF.out (by omega) (by decide); have := N3.out.2; have := N4.out.2; have := N5.out.2; omega)).mono ?_
         rintro e X6 ⟨v6, n6, rfl, hn6, hl6, ha, hg⟩
         have A6 := hid ha
         have G6 := hid hg
         clear ha hg
         have N6 := hid (And.intro hn6 hl6)
         obtain ⟨ad6, cp6, rfl⟩ := hn6.is
         clear hn6 hl6
         go_wp2_with fail
         go_ret
         exact HP.out 300 _ _ (A6.out.done 1 N6.out.1 (by have := N6.out.2; have := N3.out.2; have := N4.out.2; have := N5.out.2; omega) (by omega)) (Or.inr ⟨HPos.out, by omega⟩)
       · go_wp2_with fail
         refine (A2.out.name HF.out (by omega)).mono ?_
         rintro e X3 ⟨x3, s3, rfl, hb3, ha, hg⟩
         have A3 := hid ha
         have G3 := hid hg
         clear ha hg
         have B3 := hid hb3
         clear hb3
         have g0 := A3.out.1.c0
         go_wp2_with fail
         refine (A3.out.pick HF.out (by omega) 5 (by decide)).mono ?_
         rintro e X4 ⟨m4, s4, rfl, hm4, hM4, ha, hg⟩
         have A4 := hid ha
         have G4 := hid hg
         clear ha hg
         clear g0
         go_wp2_with fail
         refine (A4.out.nodes (HO.out (deep - 1) (1 + m4) _ _ _ _ _ _ (by have := HD.out; omega) (by have := HD.out; omega) (A4.out.fit HF.out 10 (by omega)) A4.out.1 (HE.out.grew (G1.out.trans (G2.out.trans (G3.out.trans G4.out)))).down)).mono ?_
         rintro e X5 ⟨v5, n5, s5, t5, rfl, hn5, hl5, ha, hg⟩
         have A5 := hid ha
         have G5 := hid hg
         clear ha hg
         have N5 := hid (And.intro hn5 hl5)
         obtain ⟨ad5, cp5, rfl⟩ := hn5.is
         clear hn5 hl5
         go_wp2_with fail
         refine (A5.out.add x3 (1 + m4) 0 (HE.out.grew (G1.out.trans (G2.out.trans (G3.out.trans (G4.out.trans G5.out))))).know B3.out (by have := HE.out.room; omega)).mono ?_
         rintro e X6 ⟨u6, ks6, rfl, hk6, hkl6, ha, hg⟩
         have A6 := hid ha
         have G6 := hid hg
         clear ha hg
         have K6 := hid (And.intro hk6 hkl6)
         obtain ⟨ad6, cp6, rfl⟩ := hk6.is
         clear hk6 hkl6
         go_wp2_with fail
         refine (A6.out.nodes (HO.out (deep - 1) ty _ _ _ _ _ _ (by have := HD.out; omega) (by have := HD.out; omega) (A6.out.fit HF.out 10 (by omega)) A6.out.1 ((HE.out.grew (G1.out.trans (G2.out.trans (G3.out.trans (G4.out.trans (G5.out.trans G6.out)))))).with K6.out.1 (by have := K6.out.2; omega)))).mono ?_
         rintro e X7 ⟨v7, n7, s7, t7, rfl, hn7, hl7, ha, hg⟩
         have A7 := hid ha
         have G7 := hid hg
         clear ha hg
         have N7 := hid (And.intro hn7 hl7)
         obtain ⟨ad7, cp7, rfl⟩ := hn7.is
         clear hn7 hl7
         go_wp2_with fail
         refine (A7.out.put2 8 0 0 x3 ByteArray.empty ByteArray.empty (N5.out.1.grew (G6.out.trans G7.out)) N7.out.1 ⟨B3.out, z14, z14⟩ (by have := A7.out.bound HF.out (by omega) (by decide); have := N5.out.2; have := N7.out.2; omega)).mono ?_
         rintro e X8 ⟨v8, n8, rfl, hn8, hl8, ha, hg⟩
         have A8 := hid ha
         have G8 := hid hg
         clear ha hg
         have N8 := hid (And.intro hn8 hl8)
         obtain ⟨ad8, cp8, rfl⟩ := hn8.is
         clear hn8 hl8
         go_wp2_with fail
         go_ret
         exact HP.out 300 _ _ (A8.out.done 1 N8.out.1 (by have := N8.out.2; have := N5.out.2; have := N7.out.2; omega) (by omega)) (Or.inr ⟨HPos.out, by omega⟩)
       · go_wp2_with fail
         refine (A2.out.name HF.out (by omega)).mono ?_
         rintro e X3 ⟨x3, s3, rfl, hb3, ha, hg⟩
         have A3 := hid ha
         have G3 := hid hg
         clear ha hg
         have B3 := hid hb3
         clear hb3
         go_wp2_with fail
         refine (A3.out.name HF.out (by omega)).mono ?_
         rintro e X4 ⟨x4, s4, rfl, hb4, ha, hg⟩
         have A4 := hid ha
         have G4 := hid hg
         clear ha hg
         have B4 := hid hb4
         clear hb4
         go_wp2_with fail
         refine (A4.out.nodes (HO.out (deep - 1) 4 _ _ _ _ _ _ (by have := HD.out; omega) (by have := HD.out; omega) (A4.out.fit HF.out 10 (by omega)) A4.out.1 (HE.out.grew (G1.out.trans (G2.out.trans (G3.out.trans G4.out)))).down)).mono ?_
         rintro e X5 ⟨v5, n5, s5, t5, rfl, hn5, hl5, ha, hg⟩
         have A5 := hid ha
         have G5 := hid hg
         clear ha hg
         have N5 := hid (And.intro hn5 hl5)
         obtain ⟨ad5, cp5, rfl⟩ := hn5.is
         clear hn5 hl5
         go_wp2_with fail
         refine (A5.out.nodes (HO.out (deep - 1) ty _ _ _ _ _ _ (by have := HD.out; omega) (by have := HD.out; omega) (A5.out.fit HF.out 10 (by omega)) A5.out.1 (HE.out.grew (G1.out.trans (G2.out.trans (G3.out.trans (G4.out.trans G5.out))))).down)).mono ?_
         rintro e X6 ⟨v6, n6, s6, t6, rfl, hn6, hl6, ha, hg⟩
         have A6 := hid ha
         have G6 := hid hg
         clear ha hg
         have N6 := hid (And.intro hn6 hl6)
         obtain ⟨ad6, cp6, rfl⟩ := hn6.is
         clear hn6 hl6
         go_wp2_with fail
         refine (A6.out.add x3 1 0 (HE.out.grew (G1.out.trans (G2.out.trans (G3.out.trans (G4.out.trans (G5.out.trans G6.out)))))).know B3.out (by have := HE.out.room; omega)).mono ?_
         rintro e X7 ⟨u7, ks7, rfl, hk7, hkl7, ha, hg⟩
         have A7 := hid ha
         have G7 := hid hg
         clear ha hg
         have K7 := hid (And.intro hk7 hkl7)
         obtain ⟨ad7, cp7, rfl⟩ := hk7.is
         clear hk7 hkl7
         go_wp2_with fail
         refine (A7.out.add x4 4 0 K7.out.1 B4.out (by have := HE.out.room; have := K7.out.2; omega)).mono ?_
         rintro e X8 ⟨u8, ks8, rfl, hk8, hkl8, ha, hg⟩
         have A8 := hid ha
         have G8 := hid hg
         clear ha hg
         have K8 := hid (And.intro hk8 hkl8)
         obtain ⟨ad8, cp8, rfl⟩ := hk8.is
         clear hk8 hkl8
         go_wp2_with fail
         refine (A8.out.nodes (HO.out (deep - 1) ty _ _ _ _ _ _ (by have := HD.out; omega) (by have := HD.out; omega) (A8.out.fit HF.out 10 (by omega)) A8.out.1 ((HE.out.grew (G1.out.trans (G2.out.trans (G3.out.trans (G4.out.trans (G5.out.trans (G6.out.trans (G7.out.trans G8.out)))))))).with K8.out.1 (by have := K7.out.2; have := K8.out.2; omega)))).mono ?_
         rintro e X9 ⟨v9, n9, s9, t9, rfl, hn9, hl9, ha, hg⟩
         have A9 := hid ha
         have G9 := hid hg
         clear ha hg
         have N9 := hid (And.intro hn9 hl9)
         obtain ⟨ad9, cp9, rfl⟩ := hn9.is
         clear hn9 hl9
         go_wp2_with fail
         refine (A9.out.put3 20 0 0 x3 x4 ByteArray.empty (N5.out.1.grew (G6.out.trans (G7.out.trans (G8.out.trans G9.out)))) (N6.out.1.grew (G7.out.trans (G8.out.trans G9.out))) N9.out.1 ⟨B3.out, B4.out, z14⟩ (by have := A9.out.bound HF.out (by omega) (by decide); have := N5.out.2; have := N6.out.2; have := N9.out.2; omega)).mono ?_
         rintro e X10 ⟨v10, n10, rfl, hn10, hl10, ha, hg⟩
         have A10 := hid ha
         have G10 := hid hg
         clear ha hg
         have N10 := hid (And.intro hn10 hl10)
         obtain ⟨ad10, cp10, rfl⟩ := hn10.is
         clear hn10 hl10
         go_wp2_with fail
         go_ret
         exact HP.out 300 _ _ (A10.out.done 1 N10.out.1 (by have := N10.out.2; have := N5.out.2; have := N6.out.2; have := N9.out.2; omega) (by omega)) (Or.inr ⟨HPos.out, by omega⟩)
       · go_wp2_with fail
         refine (A2.out.nodes (HH.out ty (deep - 1) _ _ _ _ _ _ (by have := HD.out; omega) (by have := HD.out; omega) A2.out.1 (A2.out.fit HF.out 250 (by omega)) (HE.out.grew (G1.out.trans G2.out)))).mono ?_
         rintro e X3 ⟨v3, n3, s3, t3, rfl, hn3, hl3, ha, hg⟩
         have A3 := hid ha
         have G3 := hid hg
         clear ha hg
         have N3 := hid (And.intro hn3 hl3)
         obtain ⟨ad3, cp3, rfl⟩ := hn3.is
         clear hn3 hl3
         go_wp2_with fail
         go_ret
         exact HP.out 300 _ _ (A3.out.done 0 N3.out.1 (by have := N3.out.2; omega) (by omega)) (Or.inr ⟨HPos.out, by omega⟩)
       · go_wp2_with fail
         refine (A2.out.nodes (HH.out ty (deep - 1) _ _ _ _ _ _ (by have := HD.out; omega) (by have := HD.out; omega) A2.out.1 (A2.out.fit HF.out 250 (by omega)) (HE.out.grew (G1.out.trans G2.out)))).mono ?_
         rintro e X3 ⟨v3, n3, s3, t3, rfl, hn3, hl3, ha, hg⟩
         have A3 := hid ha
         have G3 := hid hg
         clear ha hg
         have N3 := hid (And.intro hn3 hl3)
         obtain ⟨ad3, cp3, rfl⟩ := hn3.is
         clear hn3 hl3
         go_wp2_with fail
         go_ret
         exact HP.out 300 _ _ (A3.out.done 0 N3.out.1 (by have := N3.out.2; omega) (by omega)) (Or.inr ⟨HPos.out, by omega⟩)
       · go_wp2_with fail
         refine (A2.out.nodes0 (cont_calls ty (deep - 1) HO.out (by have := HD.out; omega) (by have := HD.out; omega) (by have := HD.out; omega) A2.out.1 (A2.out.fit HF.out 30 (by omega)) (HE.out.grew (G1.out.trans G2.out)))).mono ?_
         rintro e X3 ⟨v3, n3, s3, t3, rfl, hn3, hl3, ha, hg⟩
         have A3 := hid ha
         have G3 := hid hg
         clear ha hg
         have N3 := hid (And.intro hn3 hl3)
         obtain ⟨ad3, cp3, rfl⟩ := hn3.is
         clear hn3 hl3
         by_cases hz : n3.length = 0
         · rw [hz]
           go_wp2_with fail
           refine (A3.out.nodes (gown_calls ty (deep - 1) HO.out (by have := HD.out; omega) (by have := HD.out; omega) (by have := HD.out; omega) A3.out.1 (A3.out.fit HF.out 100 (by omega)) (HE.out.grew (G1.out.trans (G2.out.trans G3.out))))).mono ?_
           rintro e X4 ⟨v4, n4, s4, t4, rfl, hn4, hl4, ha, hg⟩
           have A4 := hid ha
           have G4 := hid hg
           clear ha hg
           have N4 := hid (And.intro hn4 hl4)
           obtain ⟨ad4, cp4, rfl⟩ := hn4.is
           clear hn4 hl4
           go_wp2_with fail
           go_ret
           exact HP.out 300 _ _ (A4.out.done 0 N4.out.1 (by have := N4.out.2; omega) (by omega)) (Or.inr ⟨HPos.out, by omega⟩)
         · have hz' : (0 : Int) < (n3.length : Int) := by omega
           go_wp2_with fail
           go_ret
           exact HP.out 300 _ _ (A3.out.done 0 N3.out.1 (by have := N3.out.2; omega) (by omega)) (Or.inr ⟨HPos.out, by omega⟩)
       · go_wp2_with fail
         refine (A2.out.nodes0 (perform_calls ty (deep - 1) HO.out (by have := HD.out; omega) (by have := HD.out; omega) (by have := HD.out; omega) A2.out.1 (A2.out.fit HF.out 30 (by omega)) (HE.out.grew (G1.out.trans G2.out)))).mono ?_
         rintro e X3 ⟨v3, n3, s3, t3, rfl, hn3, hl3, ha, hg⟩
         have A3 := hid ha
         have G3 := hid hg
         clear ha hg
         have N3 := hid (And.intro hn3 hl3)
         obtain ⟨ad3, cp3, rfl⟩ := hn3.is
         clear hn3 hl3
         by_cases hz : n3.length = 0
         · rw [hz]
           go_wp2_with fail
           refine (A3.out.nodes (gown_calls ty (deep - 1) HO.out (by have := HD.out; omega) (by have := HD.out; omega) (by have := HD.out; omega) A3.out.1 (A3.out.fit HF.out 100 (by omega)) (HE.out.grew (G1.out.trans (G2.out.trans G3.out))))).mono ?_
           rintro e X4 ⟨v4, n4, s4, t4, rfl, hn4, hl4, ha, hg⟩
           have A4 := hid ha
           have G4 := hid hg
           clear ha hg
           have N4 := hid (And.intro hn4 hl4)
           obtain ⟨ad4, cp4, rfl⟩ := hn4.is
           clear hn4 hl4
           go_wp2_with fail
           go_ret
           exact HP.out 300 _ _ (A4.out.done 0 N4.out.1 (by have := N4.out.2; omega) (by omega)) (Or.inr ⟨HPos.out, by omega⟩)
         · have hz' : (0 : Int) < (n3.length : Int) := by omega
           go_wp2_with fail
           go_ret
           exact HP.out 300 _ _ (A3.out.done 0 N3.out.1 (by have := N3.out.2; omega) (by omega)) (Or.inr ⟨HPos.out, by omega⟩)
       · have g0 := A2.out.1.c0
         go_wp2_with fail
         refine (A2.out.pick HF.out (by omega) 2 (by decide)).mono ?_
         rintro e X3 ⟨m3, s3, rfl, hm3, hM3, ha, hg⟩
         have A3 := hid ha
         have G3 := hid hg
         clear ha hg
         clear g0
         by_cases h7 : m3 = 0
         · subst h7
           go_upto_region 29 with fail
           refine z33 (S := fun w' => w'.cell? ⟨d.G, 0, none⟩ = some (.pointer (some ⟨d.B, 0, none⟩))) (by kernel_rfl) rfl rfl ?_
           have A4 := hid A3.out.drew
           have G4 := hid (Grew.refl d X3).drew
           generalize X3.drew = X4 at *
           refine pick_o 0 (.agg #[.int .i64 17, .int .i64 0, .string ⟨#[]⟩, .string ⟨#[]⟩, .string ⟨#[]⟩, .int .i64 0]) (A4.out.1.c0) ?_
           refine pick_o 1 (.agg #[.int .i64 16, .int .i64 0, .string ⟨#[]⟩, .string ⟨#[]⟩, .string ⟨#[]⟩, .int .i64 0]) (A4.out.1.c0) ?_
           refine pick_o 2 (.pointer (some ⟨d.G, 0, none⟩)) (A4.out.1.c0) ?_
           refine pick_o 3 (.int .i64 ty) (A4.out.1.c0) ?_
           refine pick_o 4 (.slice ad ks.length cp) (A4.out.1.c0) ?_
           refine pick_o 5 (.slice adm ms.length cpm) (A4.out.1.c0) ?_
           refine pick_o 6 (.int .i64 (deep - 1)) (A4.out.1.c0) ?_
           refine pick_o 8 (.pointer (some ⟨d.G, 0, none⟩)) (A4.out.1.c0) ?_
           refine pick_o 9 (.pointer (some ⟨d.G, 0, none⟩)) (A4.out.1.c0) ?_
           refine pick_o 10 (.pointer (some ⟨d.G, 0, none⟩)) (A4.out.1.c0) ?_
           refine pick_o 11 (.pointer (some ⟨d.G, 0, none⟩)) (A4.out.1.c0) ?_
           refine pick_o (hy := fun w' hw => by simp [go_sem, hw]) 12 (.pointer (some ⟨d.B, 0, none⟩)) (A4.out.1.c0) ?_
           refine pick_o 15 (.slice ad ks.length cp) (A4.out.1.c0) ?_
           refine z27 (i := 7) (f := 30) (args := #[.pointer (some ⟨d.G, 0, none⟩), .int .i64 ty, .slice ad ks.length cp, .slice adm ms.length cpm, .int .i64 (deep - 1)]) rfl (by kernel_rfl) rfl rfl (by simp [go_sem]) ?_
           refine (A4.out.nodes (HO.out (deep - 1) ty _ _ _ _ _ _ (by have := HD.out; omega) (by have := HD.out; omega) (A4.out.fit HF.out 10 (by omega)) A4.out.1 (HE.out.grew (G1.out.trans (G2.out.trans (G3.out.trans G4.out)))).down)).mono ?_
           rintro e X5 ⟨v5, n5, s5, t5, rfl, hn5, hl5, ha, hg⟩
           have A5 := hid ha
           have G5 := hid hg
           clear ha hg
           have N5 := hid (And.intro hn5 hl5)
           obtain ⟨ad5, cp5, rfl⟩ := hn5.is
           clear hn5 hl5
           refine ⟨_, rfl, (A5.out.1.c0), ?_⟩
           refine z15 (by simp [go_sem]; exact rfl) ?_
           refine z27 (i := 13) (f := 16) (args := #[.pointer (some ⟨d.B, 0, none⟩), .int .i64 4]) rfl (by kernel_rfl) rfl rfl (by simp [go_sem]) ?_
           refine (A5.out.pick HF.out (by omega) 4 (by decide)).mono ?_
           rintro e X6 ⟨m6, s6, rfl, hm6, hM6, ha, hg⟩
           have A6 := hid ha
           have G6 := hid hg
           clear ha hg
           refine ⟨_, rfl, (A6.out.1.c0), ?_⟩
           refine z15 (by simp [go_sem]; exact rfl) ?_
           have hwr : IntKind.i64.wrap (1 + m6) = 1 + m6 := by rw [IntKind.wrap_i64]; omega
           refine pick_o (hy := fun w' hw => by simp [go_sem, hwr]) 14 (.int .i64 (1 + m6)) (A6.out.1.c0) ?_
           clear hwr
           refine z27 (i := 16) (f := 55) (args := #[.pointer (some ⟨d.G, 0, none⟩), .int .i64 (1 + m6), .slice ad ks.length cp]) rfl (by kernel_rfl) rfl rfl (by simp [go_sem]) ?_
           refine (A6.out.nodes (leaf_calls (1 + m6) A6.out.1 (A6.out.fit HF.out 10 (by omega)) (HE.out.grew (G1.out.trans (G2.out.trans (G3.out.trans (G4.out.trans (G5.out.trans G6.out)))))).know (by have := HE.out.room; omega))).mono ?_
           rintro e X7 ⟨v7, n7, s7, t7, rfl, hn7, hl7, ha, hg⟩
           have A7 := hid ha
           have G7 := hid hg
           clear ha hg
           have N7 := hid (And.intro hn7 hl7)
           obtain ⟨ad7, cp7, rfl⟩ := hn7.is
           clear hn7 hl7
           refine ⟨_, rfl, (A7.out.1.c0), ?_⟩
           refine z15 (by simp [go_sem]; exact rfl) ?_
           have KV : Hid (KidsV d (X7.alloc (.cells #[.slice ad5 n5.length cp5, .slice ad7 n7.length cp7] 53)) (.slice (some ⟨X7.heap.size, 0, none⟩) 2 2) [(.slice ad5 n5.length cp5, n5), (.slice ad7 n7.length cp7, n7)]) := (z47 [(.slice ad5 n5.length cp5, n5), (.slice ad7 n7.length cp7, n7)] _ rfl A7.out.1.ltB A7.out.1.ltG (fun x hx => by simp at hx; rcases hx with rfl | rfl; exact (N5.out.1.grew (G6.out.trans G7.out)); exact N7.out.1))
           have A8 := hid (A7.out.alloc (.cells #[.slice ad5 n5.length cp5, .slice ad7 n7.length cp7] 53))
           have G8 := hid ((Grew.refl d X7).alloc (.cells #[.slice ad5 n5.length cp5, .slice ad7 n7.length cp7] 53))
           refine z29 (i := 17) (v := .slice (some ⟨X7.heap.size, 0, none⟩) 2 2) (w1 := X7.alloc (.cells #[.slice ad5 n5.length cp5, .slice ad7 n7.length cp7] 53)) rfl (by kernel_rfl) rfl rfl (by simp [go_sem]) (A8.out.1.c0) (by simp [go_sem]; exact rfl) ?_
           generalize X7.alloc (.cells #[.slice ad5 n5.length cp5, .slice ad7 n7.length cp7] 53) = X8 at *
           refine z27 (i := 18) (f := 56) (args := #[.agg #[.int .i64 16, .int .i64 0, .string ⟨#[]⟩, .string ⟨#[]⟩, .string ⟨#[]⟩, .int .i64 0], .slice (some ⟨X7.heap.size, 0, none⟩) 2 2]) rfl (by kernel_rfl) rfl rfl (by simp [go_sem]) ?_
           refine (A8.out.put_kids 16 0 0 ⟨#[]⟩ ⟨#[]⟩ ⟨#[]⟩ KV.out ⟨z14, z14, z14⟩ (by simp) (by have := A8.out.bound HF.out (by omega) (by decide); have := N5.out.2; have := N7.out.2; simp [flatL]; omega)).mono ?_
           rintro e X9 ⟨v9, n9, rfl, hn9, hl9, ha, hg⟩
           have A9 := hid ha
           have G9 := hid hg
           clear ha hg
           have N9 := hid (And.intro hn9 hl9)
           obtain ⟨ad9, cp9, rfl⟩ := hn9.is
           clear hn9 hl9
           refine ⟨_, rfl, (A9.out.1.c0), ?_⟩
           refine z15 (by simp [go_sem]; exact rfl) ?_
           have KW : Hid (KidsV d (X9.alloc (.cells #[.slice ad9 n9.length cp9] 53)) (.slice (some ⟨X9.heap.size, 0, none⟩) 1 1) [(.slice ad9 n9.length cp9, n9)]) := (z47 [(.slice ad9 n9.length cp9, n9)] _ rfl A9.out.1.ltB A9.out.1.ltG (fun x hx => by simp at hx; rcases hx with rfl; exact N9.out.1))
           have A10 := hid (A9.out.alloc (.cells #[.slice ad9 n9.length cp9] 53))
           have G10 := hid ((Grew.refl d X9).alloc (.cells #[.slice ad9 n9.length cp9] 53))
           refine z29 (i := 19) (v := .slice (some ⟨X9.heap.size, 0, none⟩) 1 1) (w1 := X9.alloc (.cells #[.slice ad9 n9.length cp9] 53)) rfl (by kernel_rfl) rfl rfl (by simp [go_sem]) (A10.out.1.c0) (by simp [go_sem]; exact rfl) ?_
           generalize X9.alloc (.cells #[.slice ad9 n9.length cp9] 53) = X10 at *
           refine z27 (i := 20) (f := 56) (args := #[.agg #[.int .i64 17, .int .i64 0, .string ⟨#[]⟩, .string ⟨#[]⟩, .string ⟨#[]⟩, .int .i64 0], .slice (some ⟨X9.heap.size, 0, none⟩) 1 1]) rfl (by kernel_rfl) rfl rfl (by simp [go_sem]) ?_
           refine (A10.out.put_kids 17 0 0 ⟨#[]⟩ ⟨#[]⟩ ⟨#[]⟩ KW.out ⟨z14, z14, z14⟩ (by simp) (by have := A10.out.bound HF.out (by omega) (by decide); have q1 := N9.out.2; have := N5.out.2; have := N7.out.2; simp [flatL] at q1; simp [flatL]; omega)).mono ?_
           rintro e X11 ⟨v11, n11, rfl, hn11, hl11, ha, hg⟩
           have A11 := hid ha
           have G11 := hid hg
           clear ha hg
           have N11 := hid (And.intro hn11 hl11)
           obtain ⟨ad11, cp11, rfl⟩ := hn11.is
           clear hn11 hl11
           refine ⟨_, rfl, (A11.out.1.c0), ?_⟩
           refine z15 (by simp [go_sem]; exact rfl) ?_
           refine pick_o 21 (.slice ad11 n11.length cp11) (A11.out.1.c0) ?_
           refine z32 (by kernel_rfl) ?_
           go_wp2_with fail
           go_ret
           exact HP.out 300 _ _ (A11.out.done 5 N11.out.1 (by have := N11.out.2; have := N9.out.2; have := N5.out.2; have := N7.out.2; simp [flatL] at *; omega) (by omega)) (Or.inr ⟨HPos.out, by omega⟩)
         · have z7 : (m3 == 0) = false := by simp [h7]
           have g0 := A3.out.1.c0
           go_wp2_with fail
           refine (A3.out.pick HF.out (by omega) 4 (by decide)).mono ?_
           rintro e X4 ⟨m4, s4, rfl, hm4, hM4, ha, hg⟩
           have A4 := hid ha
           have G4 := hid hg
           clear ha hg
           clear g0
           go_wp2_with fail
           refine (A4.out.nodes (leaf_calls (1 + m4) A4.out.1 (A4.out.fit HF.out 10 (by omega)) (HE.out.grew (G1.out.trans (G2.out.trans (G3.out.trans G4.out)))).know (by have := HE.out.room; omega))).mono ?_
           rintro e X5 ⟨v5, n5, s5, t5, rfl, hn5, hl5, ha, hg⟩
           have A5 := hid ha
           have G5 := hid hg
           clear ha hg
           have N5 := hid (And.intro hn5 hl5)
           obtain ⟨ad5, cp5, rfl⟩ := hn5.is
           clear hn5 hl5
           go_wp2_with fail
           refine (A5.out.nodes (HO.out (deep - 1) ty _ _ _ _ _ _ (by have := HD.out; omega) (by have := HD.out; omega) (A5.out.fit HF.out 10 (by omega)) A5.out.1 (HE.out.grew (G1.out.trans (G2.out.trans (G3.out.trans (G4.out.trans G5.out))))).down)).mono ?_
           rintro e X6 ⟨v6, n6, s6, t6, rfl, hn6, hl6, ha, hg⟩
           have A6 := hid ha
           have G6 := hid hg
           clear ha hg
           have N6 := hid (And.intro hn6 hl6)
           obtain ⟨ad6, cp6, rfl⟩ := hn6.is
           clear hn6 hl6
           go_wp2_with fail
           refine (A6.out.put2 16 0 0 ByteArray.empty ByteArray.empty ByteArray.empty (N5.out.1.grew G6.out) N6.out.1 ⟨z14, z14, z14⟩ (by have := A6.out.bound HF.out (by omega) (by decide); have := N5.out.2; have := N6.out.2; omega)).mono ?_
           rintro e X7 ⟨v7, n7, rfl, hn7, hl7, ha, hg⟩
           have A7 := hid ha
           have G7 := hid hg
           clear ha hg
           have N7 := hid (And.intro hn7 hl7)
           obtain ⟨ad7, cp7, rfl⟩ := hn7.is
           clear hn7 hl7
           go_wp2_with fail
           refine (A7.out.put1 18 0 0 ByteArray.empty ByteArray.empty ByteArray.empty N7.out.1 ⟨z14, z14, z14⟩ (by have := A7.out.bound HF.out (by omega) (by decide); have := N7.out.2; have := N5.out.2; have := N6.out.2; omega)).mono ?_
           rintro e X8 ⟨v8, n8, rfl, hn8, hl8, ha, hg⟩
           have A8 := hid ha
           have G8 := hid hg
           clear ha hg
           have N8 := hid (And.intro hn8 hl8)
           obtain ⟨ad8, cp8, rfl⟩ := hn8.is
           clear hn8 hl8
           go_wp2_with fail
           go_ret
           exact HP.out 300 _ _ (A8.out.done 2 N8.out.1 (by have := N8.out.2; have := N7.out.2; have := N5.out.2; have := N6.out.2; omega) (by omega)) (Or.inr ⟨HPos.out, by omega⟩)
       · go_wp2_with fail
         refine (A2.out.nodes (gown_calls ty (deep - 1) HO.out (by have := HD.out; omega) (by have := HD.out; omega) (by have := HD.out; omega) A2.out.1 (A2.out.fit HF.out 100 (by omega)) (HE.out.grew (G1.out.trans G2.out)))).mono ?_
         rintro e X3 ⟨v3, n3, s3, t3, rfl, hn3, hl3, ha, hg⟩
         have A3 := hid ha
         have G3 := hid hg
         clear ha hg
         have N3 := hid (And.intro hn3 hl3)
         obtain ⟨ad3, cp3, rfl⟩ := hn3.is
         clear hn3 hl3
         go_wp2_with fail
         go_ret
         exact HP.out 300 _ _ (A3.out.done 0 N3.out.1 (by have := N3.out.2; omega) (by omega)) (Or.inr ⟨HPos.out, by omega⟩)
       · go_wp2_with fail
         refine (A2.out.nodes (gown_calls ty (deep - 1) HO.out (by have := HD.out; omega) (by have := HD.out; omega) (by have := HD.out; omega) A2.out.1 (A2.out.fit HF.out 100 (by omega)) (HE.out.grew (G1.out.trans G2.out)))).mono ?_
         rintro e X3 ⟨v3, n3, s3, t3, rfl, hn3, hl3, ha, hg⟩
         have A3 := hid ha
         have G3 := hid hg
         clear ha hg
         have N3 := hid (And.intro hn3 hl3)
         obtain ⟨ad3, cp3, rfl⟩ := hn3.is
         clear hn3 hl3
         go_wp2_with fail
         go_ret
         exact HP.out 300 _ _ (A3.out.done 0 N3.out.1 (by have := N3.out.2; omega) (by omega)) (Or.inr ⟨HPos.out, by omega⟩)
       · go_wp2_with fail
         refine (A2.out.nodes (gown_calls ty (deep - 1) HO.out (by have := HD.out; omega) (by have := HD.out; omega) (by have := HD.out; omega) A2.out.1 (A2.out.fit HF.out 100 (by omega)) (HE.out.grew (G1.out.trans G2.out)))).mono ?_
         rintro e X3 ⟨v3, n3, s3, t3, rfl, hn3, hl3, ha, hg⟩
         have A3 := hid ha
         have G3 := hid hg
         clear ha hg
         have N3 := hid (And.intro hn3 hl3)
         obtain ⟨ad3, cp3, rfl⟩ := hn3.is
         clear hn3 hl3
         go_wp2_with fail
         go_ret
         exact HP.out 300 _ _ (A3.out.done 0 N3.out.1 (by have := N3.out.2; omega) (by omega)) (Or.inr ⟨HPos.out, by omega⟩)
end
section
open Go.RowKit Go.Deep
set_option maxHeartbeats 8000000 in
set_option maxRecDepth 100000 in
theorem of_zero {d : Dr} {ve : Value} {es : List Ef} : OfC d ve es 0 := by
 intro deep ty v vm ks ms W s h1 h2 hf h hE
 have hl := h.setLeft (s.left - 1)
 have f2 := h.f2
 have c2 := h.c2
 have HW : Hid (wrap64 (s.left - 1) = s.left - 1) := by show _ = _; unfold Fit at hf; unfold wrap64; omega
 have hd : deep ≤ 1 := by omega
 obtain ⟨ad, cp, rfl⟩ := hE.know.is
 obtain ⟨adm, cpm, rfl⟩ := hE.may.is
 obtain ⟨X, hX⟩ : ∃ X, W.setCell ⟨d.G, 2, none⟩ (.int .i64 (s.left - 1)) = X := ⟨_, rfl⟩
 rw [hX] at hl
 have HX := hid hX
 obtain ⟨s1, hs1⟩ : ∃ s1 : Cn, { s with left := s.left - 1 } = s1 := ⟨_, rfl⟩
 rw [hs1] at hl
 have e1 : s1.p = s.p := by rw [← hs1]
 have e2 : s1.next = s.next := by rw [← hs1]
 have e3 : s1.left = s.left - 1 := by rw [← hs1]
 have HFF := hid (of_fit hf e1 e2 e3)
 have HP := hid (fun (c : Nat) (e : Ending) (Y : World) (h : NodesPost d ve X s1 c e Y) (hc : c ≤ 9 ∨ (0 < s.left ∧ c ≤ 300)) => of_post hl.2 e1 e2 e3 h hc)
 have A0 := hid (At.start hl.1)
 have HE := hid (hE.grew hl.2)
 have g2 := hl.1.c2
 have g0 := hl.1.c0
 rw [e3] at g2
 obtain ⟨L, hL⟩ : ∃ L : Int, s.left - 1 = L := ⟨_, rfl⟩
 have HLe := hid hL
 rw [hL] at g2
 clear hl hf h hE hX hs1 e1 e2 e3 hL
 go_enter Tryz.func30, Tryz.ntmps30
 go_upto_region 2 with fail
 try rw [HW.out]
 rw [HX.out]
 clear c2 f2 HW HX
 have HLF := hid (leaf_nine ty A0.out.1 HFF.out.1 HE.out.know (by have := HE.out.room; omega))
 go_wp2_with fail
 refine HLF.out.mono ?_
 rintro e Xl ⟨vl, nl, sl, tl, rfl, hnl, hll, hgl, hgrl, hspl⟩
 have NL := hid (And.intro hnl (And.intro hll (And.intro hgl (And.intro hgrl hspl))))
 clear hnl hll hgl hgrl hspl
 go_wp2_with fail
 go_ret
 exact HP.out 9 _ _ ⟨vl, nl, sl, tl, rfl, NL.out.1, NL.out.2.1, NL.out.2.2.1, NL.out.2.2.2.1, NL.out.2.2.2.2⟩ (Or.inl (by omega))
theorem of_all {d : Dr} {ve : Value} {es : List Ef} : ∀ D : Nat, D ≤ 90 → OfC d ve es D
 | 0, _ => of_zero
 | D + 1, h => of_step (by omega) (of_all D (by omega)) (fun ty deep v vm ks ms X s h1 h2 hG hF hE => handler_calls ty deep (of_all D (by omega)) h1 h2 (by omega) hG hF hE)
end
section
open Go.RowKit Go.Deep
def Dr.on (d : Dr) (G : Nat) : Dr := ⟨d.B, G, d.a0, d.len, d.cap⟩
theorem free_on {d : Dr} {W W' : World} {q : Nat} (h : d.free W q) (hs : W.heap.size ≤ W'.heap.size) {G : Nat} (hg : W.heap.size ≤ G) : (d.on G).free W' q :=
 ⟨Nat.lt_of_lt_of_le h.1 hs, h.2.1, by have := h.1; show q ≠ G; omega⟩
theorem free_off {d : Dr} {W : World} {q G : Nat} (hG : d.G = d.B) (h : (d.on G).free W q) : d.free W q := ⟨h.1, h.2.1, by rw [hG]; exact h.2.1⟩
theorem Lies.on {d : Dr} {W W' : World} {v : Value} {n sz G : Nat} {F : Nat → Value} (h : Lies d W v n sz F) (hb : Below W.heap.size W W') (hg : W.heap.size ≤ G) : Lies (d.on G) W' v n sz F := by
 rcases h with h | ⟨b, off, cap, h1, h2, h3, h4, h5⟩
 · exact Or.inl h
 · exact Or.inr ⟨b, off, cap, h1, h2, h3, free_on h4 hb.size hg, fun i hi => (hb.cell (p := ⟨b, off + i, none⟩) h4.1).trans (h5 i hi)⟩
theorem Lies.off {d : Dr} {W : World} {v : Value} {n sz G : Nat} {F : Nat → Value} (hG : d.G = d.B) (h : Lies (d.on G) W v n sz F) : Lies d W v n sz F := by
 rcases h with h | ⟨b, off, cap, h1, h2, h3, h4, h5⟩
 · exact Or.inl h
 · exact Or.inr ⟨b, off, cap, h1, h2, h3, free_off hG h4, h5⟩
theorem Rdr.on {d : Dr} {W W' : World} {p G : Nat} (h : Rdr d W p) (hb : Below W.heap.size W W') (hg : W.heap.size ≤ G) : Rdr (d.on G) W' p := by
 refine ⟨(hb.block _ (z26 h.blk)).trans h.blk, fun hl => ?_⟩
 obtain ⟨b, off, ea, hq, hz⟩ := h.bytes hl
 refine ⟨b, off, ea, free_on hq hb.size hg, fun i hi => ?_⟩
 obtain ⟨z, hz, h2⟩ := hz i hi
 exact ⟨z, (hb.cell (p := ⟨b, off + i, none⟩) hq.1).trans hz, h2⟩
theorem Rdr.off {d : Dr} {W : World} {p G : Nat} (hG : d.G = d.B) (h : Rdr (d.on G) W p) : Rdr d W p := by
 refine ⟨h.blk, fun hl => ?_⟩
 obtain ⟨b, off, ea, hq, hz⟩ := h.bytes hl
 exact ⟨b, off, ea, free_off hG hq, hz⟩
theorem Grew.off {d : Dr} {W X Y : World} {G : Nat} (h : Grew d W X) (g : Grew (d.on G) X Y) (hg : W.heap.size ≤ G) : Grew d W Y :=
 ⟨g.os.trans h.os, g.tape.trans h.tape, g.output.trans h.output, Nat.le_trans h.size g.size, fun q hq => (g.block q ⟨Nat.lt_of_lt_of_le hq.1 h.size, hq.2.1, by have := hq.1; show q ≠ G; omega⟩).trans (h.block q hq)⟩
theorem lies_take {α : Type} [Inhabited α] {f : α → Nat → Value} {sz : Nat} {d : Dr} {W : World} {b cap n k : Nat} {l : List α} (h : Lies d W (.slice (some ⟨b, 0, none⟩) n cap) l.length sz (fun i => f (l.getD (i / sz) default) (i % sz))) (hk : k ≤ n) (hn : 0 < n) (hl : l.length = n) : Lies d W (.slice (some ⟨b, 0, none⟩) k cap) (l.take k).length sz (fun i => f ((l.take k).getD (i / sz) default) (i % sz)) := by
 obtain ⟨-, hc, b', off, e, hq, h5⟩ := h.at hn
 cases e
 have hlk : (l.take k).length = k := by rw [List.length_take]; omega
 rw [hlk]
 refine Or.inr ⟨b, 0, cap, rfl, by omega, rfl, hq, fun i hi => ?_⟩
 have hi' : i / sz < k := Nat.div_lt_of_lt_mul (by rw [Nat.mul_comm]; exact hi)
 rw [h5 i (Nat.lt_of_lt_of_le hi (Nat.mul_le_mul_right _ hk))]
 have e : (l.take k).getD (i / sz) default = l.getD (i / sz) default := by simp [List.getD, List.getElem?_take_of_lt hi']
 show _ = some (f ((l.take k).getD (i / sz) default) (i % sz))
 rw [e]
def all4 : List Ef := [⟨⟨#[97, 115, 107]⟩, 3, 1⟩, ⟨⟨#[116, 101, 108, 108]⟩, 1, 3⟩, ⟨⟨#[102, 108, 105, 112]⟩, 3, 2⟩, ⟨⟨#[112, 97, 115, 115]⟩, 4, 1⟩]
theorem all4_brief : ∀ e ∈ all4, Brief e.name := by
 intro e he
 unfold all4 at he
 simp only [List.mem_cons, List.not_mem_nil, or_false] at he
 rcases he with rfl | rfl | rfl | rfl <;> (unfold Brief; decide)
def EffsPost (d : Dr) (W : World) (p : Nat) (e : Ending) (W' : World) : Prop :=
 ∃ v es, e = .returned v ∧ EffsD d W' v es ∧ 1 ≤ es.length ∧ es.length ≤ 4 ∧ Rdr d W' (p + 1) ∧ Grew d W W'
set_option maxHeartbeats 4000000 in
set_option maxRecDepth 100000 in
theorem effs_calls {d : Dr} {W : World} {p : Nat} (hG : d.G = d.B) (h : Rdr d W p) (hp : p ≤ 1000000) : Calls Tryz.prog 29 #[.pointer (some ⟨d.B, 0, none⟩)] W (EffsPost d W p) := by
 have hB := z26 h.blk
 have HL := hid (lies_lit (f := Ef.cell) (sz := 3) (d := d) (by decide) W 112 all4 _ rfl hB (by rw [hG]; exact hB))
 have hbl : Below W.heap.size W (W.alloc (.cells (rowZ Ef.cell 3 all4).toArray 112)) := (Below.refl _ _).alloc (Nat.le_refl _) _
 have HB := hid hbl
 have HP := hid (z71 (h.below hbl) hp 4 (by decide))
 clear hbl h hp
 go_enter Tryz.func29, Tryz.ntmps29
 go_wp2_with fail
 refine HP.out.mono ?_
 rintro e X ⟨m, rfl, hm0, hm1, hr, hg, -, -⟩
 have HR := hid (And.intro hr hg)
 have HX := hid (HL.out.grew hg)
 clear hr hg HP HL
 have hcs : m = 0 ∨ m = 1 ∨ m = 2 ∨ m = 3 := by omega
 rcases hcs with rfl | rfl | rfl | rfl
 · go_wp2_with fail
   go_ret
   exact ⟨_, all4.take 1, rfl, ⟨lies_take HX.out (by decide) (by decide) rfl, fun e he => all4_brief e (List.mem_of_mem_take he)⟩, by decide, by decide, HR.out.1, (Grew.of_below HB.out).trans HR.out.2⟩
 · go_wp2_with fail
   go_ret
   exact ⟨_, all4.take 2, rfl, ⟨lies_take HX.out (by decide) (by decide) rfl, fun e he => all4_brief e (List.mem_of_mem_take he)⟩, by decide, by decide, HR.out.1, (Grew.of_below HB.out).trans HR.out.2⟩
 · go_wp2_with fail
   go_ret
   exact ⟨_, all4.take 3, rfl, ⟨lies_take HX.out (by decide) (by decide) rfl, fun e he => all4_brief e (List.mem_of_mem_take he)⟩, by decide, by decide, HR.out.1, (Grew.of_below HB.out).trans HR.out.2⟩
 · go_wp2_with fail
   go_ret
   exact ⟨_, all4.take 4, rfl, ⟨lies_take HX.out (by decide) (by decide) rfl, fun e he => all4_brief e (List.mem_of_mem_take he)⟩, by decide, by decide, HR.out.1, (Grew.of_below HB.out).trans HR.out.2⟩
end
section
open Go.RowKit Go.Deep
def Tr (ns : List Nd) : Prop := ∃ (n : Nd) (k : Fo), ns = n :: k.flat ∧ n.kids = k.count ∧ k.wf ∧ ns.length ≤ 300
theorem tr_of_ans {ns : List Nd} (h : SpecAns ns true) : Tr ns := by
 rcases h with ⟨-, h⟩ | ⟨-, -, -, h⟩ | ⟨h1, h2, n, k, e1, e2, e3, -⟩
 · cases h
 · cases h
 · exact ⟨n, k, e1, e2, e3, h2⟩
theorem prog_true {es : List Ef} {ns : List Nd} {T : Bool} (h : progZ es ns T = true) : T = true := by
 unfold progZ at h
 cases T
 · simp at h
 · rfl
def ProgPost (d : Dr) (W : World) (p : Nat) (e : Ending) (W' : World) : Prop :=
 ∃ ad n cp vt es ns p', e = .returned (.agg #[.slice ad n cp, vt]) ∧ EffsD d W' (.slice ad n cp) es ∧ es.length ≤ 4 ∧ NodesD d W' vt ns ∧ Tr ns ∧ Rdr d W' p' ∧ p' ≤ p + 200000 ∧ Grew d W W'

structure Pg (d : Dr) (W X : World) (p p' : Nat) (rb : Nat) : Prop where
 rd : Rdr d X p'
 gr : Grew d W X
 res : X.heap[rb]? = some (.cells #[.slice none 0 0, .slice none 0 0] 55)
 low : W.heap.size ≤ rb
theorem pick_either2 {P : Program} {l0 : List Oper} {Q : Exit → Act → World → Prop} {S : World → Prop} {i j n : Nat} {ls : Array Bool} {a : Act} {w : World} (hr : (Region.ready .any l0.toArray ls == [i, j]) = true) (h1 : PickCl P l0 Q S n ls a w i) (h2 : PickMk P l0 Q S n ls a w j) : wpAnyH P .any l0.toArray (NoPanic Q) S (n + 1) ls a w := by
 refine wpAnyH_all (rs := [i, j]) (by simpa using hr) (by simp) (fun k hk => ?_)
 simp only [List.mem_cons, List.not_mem_nil, or_false] at hk
 rcases hk with rfl | rfl
 · exact h1.op
 · exact h2.op
theorem made_bools (n : Nat) (hn : n ≤ 1000) (w : World) : ∃ c : Array Value, c = madeCells #[.bool false] n ∧ (Instr.makeSlice 91 (.int .i64 (n : Int)) (.int .i64 (n : Int))).run Tryz.prog w = .ok (.slice (some ⟨w.heap.size, 0, none⟩) n n) (w.alloc (.cells c 4)) := by
 obtain ⟨i0, hi, hz0, hz1, hz2⟩ := info_parts info_bool
 have h := run_make (P := Tryz.prog) w 91 4 i0 _ Tryz.underlying91 hi hz0 .i64 .i64 n n (by omega) (Int.le_refl _) (by rw [hz2]; omega) (by omega)
 rw [hz1] at h
 simp only [Int.toNat_natCast, Nat.mul_one] at h
 exact ⟨_, rfl, h⟩
theorem bools_made {d : Dr} {X : World} {n : Nat} {c : Array Value} (hc : c = madeCells #[.bool false] n) (h1 : d.B < X.heap.size) (h2 : d.G < X.heap.size) : BoolsD d (X.alloc (.cells c 4)) (.slice (some ⟨X.heap.size, 0, none⟩) n n) (List.replicate n false) := by
 subst hc
 have hh := (MapKept.heap_alloc X (.cells (madeCells #[.bool false] n) 4)).1
 unfold BoolsD
 rw [List.length_replicate]
 refine Or.inr ⟨_, 0, _, rfl, Nat.le_refl _, rfl, ⟨z26 hh, by omega, by omega⟩, fun i hi => ?_⟩
 rw [Nat.mul_one] at hi
 rw [Nat.zero_add, z11 hh i]
 have e : (madeCells #[.bool false] n)[i]? = some (.bool false) := by simp [madeCells, hi, Nat.mod_one]
 rw [e]
 simp [List.getD, hi]

structure Fi (d : Dr) (W : World) (p i rb bp : Nat) (ve vt : Value) (es : List Ef) (ns : List Nd) (Z : World) (q : Nat) : Prop where
 rd : Rdr d Z q
 cost : q ≤ p + 30000 * (i + 1)
 gr : Grew d W Z
 res : Z.heap[rb]? = some (.cells #[.slice none 0 0, .slice none 0 0] 55)
 low : W.heap.size ≤ rb
 box : Z.heap[bp]? = some (.cells #[ve, vt] 55)
 effs : EffsD d Z ve es
 some_ : 1 ≤ es.length
 nodes : NodesD d Z vt ns
 any : 1 ≤ ns.length ∧ ns.length ≤ 100000
theorem Fi.below {d : Dr} {W : World} {p i rb bp : Nat} {ve vt : Value} {es : List Ef} {ns : List Nd} {Z Z' : World} {q : Nat} (h : Fi d W p i rb bp ve vt es ns Z q) (hb : Below Z.heap.size Z Z') : Fi d W p i rb bp ve vt es ns Z' q :=
 ⟨h.rd.below hb, h.cost, h.gr.trans (Grew.of_below hb), (hb.block _ (z26 h.res)).trans h.res, h.low, (hb.block _ (z26 h.box)).trans h.box, h.effs.grew (Grew.of_below hb), h.some_, h.nodes.grew (Grew.of_below hb), h.any⟩
theorem Fi.lies {d : Dr} {W : World} {p i rb bp : Nat} {ve vt : Value} {es : List Ef} {ns : List Nd} {Z : World} {q : Nat} (h : Fi d W p i rb bp ve vt es ns Z q) :
   ∃ be ce bt ct, ve = .slice (some ⟨be, 0, none⟩) es.length ce ∧ vt = .slice (some ⟨bt, 0, none⟩) ns.length ct ∧ be < Z.heap.size ∧ bt < Z.heap.size ∧ EffsAt Z be 0 es ∧ NodesAt Z bt 0 ns ∧ ns.length ≤ 1048576 := by
 have h1 := h.some_
 have h2 := h.any
 obtain ⟨⟨-, h0⟩ | ⟨be, off, ce, e1, -, rfl, hq, hc⟩, -⟩ := h.effs
 · omega
 obtain ⟨⟨-, h0⟩ | ⟨bt, off, ct, e2, -, rfl, hq', hc'⟩, -⟩ := h.nodes
 · omega
 refine ⟨be, ce, bt, ct, e1, e2, hq.1, hq'.1, fun k hk c hc2 => ?_, fun k hk c hc2 => ?_, by omega⟩
 · rw [Nat.add_assoc, hc (k * 3 + c) (by omega)]
   exact congrArg some (cell_div es Ef.cell 3 k c hc2)
 · rw [Nat.add_assoc, hc' (k * 6 + c) (by omega)]
   exact congrArg some (cell_div ns Nd.cell 6 k c hc2)
theorem lies_not {d : Dr} {W : World} {v : Value} {n sz : Nat} {F : Nat → Value} {bp : Nat} {u0 u1 : Value} {t : TypeId} (h : Lies d W v n sz F) (hn : 0 < n * sz) (hb : W.heap[bp]? = some (.cells #[u0, u1] t)) (hne : F 0 ≠ u0) {X : World} (hX : ∀ q, q ≠ bp → X.heap[q]? = W.heap[q]?) (hs : X.heap.size = W.heap.size) : Lies d X v n sz F := by
 rcases h with h | ⟨b, off, cap, h1, h2, rfl, h4, h5⟩
 · exact Or.inl h
 · refine Or.inr ⟨b, 0, cap, h1, h2, rfl, ⟨by rw [hs]; exact h4.1, h4.2⟩, fun i hi => ?_⟩
   have hbb : b ≠ bp := fun e => by
     subst e
     have e1 := h5 0 hn
     rw [Nat.zero_add, z11 hb 0] at e1
     simp at e1
     exact hne e1.symm
   exact (World.cell?_of_block (a := ⟨b, 0 + i, none⟩) (hX b hbb)).trans (h5 i hi)
theorem rdr_not {d : Dr} {W : World} {p bp : Nat} {a1 c1 a2 c2 : Option Addr × Nat × Nat} {u0 u1 : Value} (hu0 : u0 = .slice a1.1 a1.2.1 a1.2.2) (hu1 : u1 = .slice a2.1 a2.2.1 a2.2.2) (h : Rdr d W p) (hb : W.heap[bp]? = some (.cells #[u0, u1] 55)) {X : World} (hX : ∀ q, q ≠ bp → X.heap[q]? = W.heap[q]?) (hs : X.heap.size = W.heap.size) (_ : c1 = c2) : Rdr d X p := by
 subst hu0
 subst hu1
 have hne : d.B ≠ bp := fun e => by
   have := h.blk
   rw [e, hb] at this
   simp at this
 refine ⟨(hX _ hne).trans h.blk, fun hl => ?_⟩
 obtain ⟨b, off, ea, hq, hz⟩ := h.bytes hl
 have hbb : b ≠ bp := fun e => by
   subst e
   obtain ⟨z, hz, -⟩ := hz 0 hl
   rw [z11 hb] at hz
   match off, hz with
   | 0, hz => simp at hz
   | 1, hz => simp at hz
   | _ + 2, hz => simp at hz
 refine ⟨b, off, ea, ⟨by rw [hs]; exact hq.1, hq.2⟩, fun i hi => ?_⟩
 obtain ⟨z, hz, h2⟩ := hz i hi
 exact ⟨z, (World.cell?_of_block (a := ⟨b, off + i, none⟩) (hX b hbb)).trans hz, h2⟩
theorem prog_rest {d : Dr} {W Y X1 X2 X4 X : World} {p p' i rb : Nat} {ade : Option Addr} {cpe : Nat} {es : List Ef} {s s' : Cn} {t0 t' c : Nat} {adt : Option Addr} {cpt : Nat} {ns : List Nd} (hG : d.G = d.B) (hP : Pg d W Y p p' rb) (hc : p' ≤ p + 30000 * i) (hg1 : Grew d Y X1) (hg2 : Grew d X1 X2) (he : EffsD d X1 (.slice ade es.length cpe) es) (h1 : 1 ≤ es.length) (hb24 : Below X2.heap.size X2 X4) (hs : s.p = p' + 1 + 1) (hleft : s.left ≤ 89) (hcC : c ≤ 20)
   (ha : At (d.on X2.heap.size) (.slice ade es.length cpe) X4 s X s' (t0 + t') c) (hb : X.heap[X2.heap.size + 1]? = some (.cells #[.slice ade es.length cpe, .slice none 0 0] 55)) (hn : NodesD (d.on X2.heap.size) X (.slice adt ns.length cpt) ns) (hl : 1 ≤ ns.length ∧ ns.length ≤ t') :
   Fi d W p i rb (X2.heap.size + 1) (.slice ade es.length cpe) (.slice adt ns.length cpt) es ns (X.setCell ⟨X2.heap.size + 1, 1, none⟩ (.slice adt ns.length cpt)) s'.p := by
 have hX : ∀ q, q ≠ X2.heap.size + 1 → (X.setCell ⟨X2.heap.size + 1, 1, none⟩ (.slice adt ns.length cpt)).heap[q]? = X.heap[q]? := fun q hq => Below.heap_setCell X ⟨X2.heap.size + 1, 1, none⟩ _ q hq
 have hs' : (X.setCell ⟨X2.heap.size + 1, 1, none⟩ (.slice adt ns.length cpt)).heap.size = X.heap.size := by simp [World.setCell]
 have hYX : Grew d Y X2 := hg1.trans hg2
 have hlow := hP.low
 have hrb := z26 hP.res
 have hYs := hYX.size
 have hWX : Grew d W X := ((hP.gr.trans hYX).trans (Grew.of_below hb24)).off ha.2.1 (by have := hP.gr.size; omega)
 have hsp := ha.2.2
 unfold Spent at hsp
 have hrbB : rb ≠ d.B := fun e => by
   have := hP.rd.blk
   rw [← e, hP.res] at this
   simp at this
 have hrX : X.heap[rb]? = some (.cells #[.slice none 0 0, .slice none 0 0] 55) := by
   rw [ha.2.1.block rb ⟨by have := hb24.size; omega, hrbB, by show rb ≠ X2.heap.size; omega⟩, hb24.block rb (by omega), hYX.block rb ⟨hrb, hrbB, by rw [hG]; exact hrbB⟩]
   exact hP.res
 refine ⟨rdr_not (a1 := (ade, es.length, cpe)) (a2 := (none, 0, 0)) (c1 := (none, 0, 0)) rfl rfl (ha.1.rd.off hG) hb hX hs' rfl, by omega, ⟨hWX.os, hWX.tape, hWX.output, by rw [hs']; exact hWX.size, fun q hq => (hX q (by have := hq.1; have := hP.gr.size; omega)).trans (hWX.block q hq)⟩, (hX rb (by omega)).trans hrX, hlow, set_heap hb, ?_, h1, ?_, by omega⟩
 · refine ⟨lies_not ((he.1.grew hg2).on hb24 (Nat.le_refl _) |>.grew ha.2.1 |>.off hG) (by omega) hb (fun e => ?_) hX hs', he.2⟩
   simp only [Nat.zero_div, Nat.zero_mod] at e
   cases e
 · refine ⟨lies_not (hn.1.off hG) (by omega) hb (fun e => ?_) hX hs', hn.2⟩
   simp only [Nat.zero_div, Nat.zero_mod] at e
   cases e
theorem Fi.stored {d : Dr} {W : World} {p i rb bp : Nat} {ve vt : Value} {es : List Ef} {ns : List Nd} {Z : World} {q : Nat} (h : Fi d W p i rb bp ve vt es ns Z q) (u0 u1 : Value) :
   EffsD d ((Z.setCell ⟨rb, 0, none⟩ u0).setCell ⟨rb, 1, none⟩ u1) ve es ∧ NodesD d ((Z.setCell ⟨rb, 0, none⟩ u0).setCell ⟨rb, 1, none⟩ u1) vt ns ∧ Rdr d ((Z.setCell ⟨rb, 0, none⟩ u0).setCell ⟨rb, 1, none⟩ u1) q ∧ Grew d W ((Z.setCell ⟨rb, 0, none⟩ u0).setCell ⟨rb, 1, none⟩ u1) := by
 have hX : ∀ k, k ≠ rb → ((Z.setCell ⟨rb, 0, none⟩ u0).setCell ⟨rb, 1, none⟩ u1).heap[k]? = Z.heap[k]? := fun k hk => (Below.heap_setCell _ ⟨rb, 1, none⟩ _ k hk).trans (Below.heap_setCell Z ⟨rb, 0, none⟩ _ k hk)
 have hs' : ((Z.setCell ⟨rb, 0, none⟩ u0).setCell ⟨rb, 1, none⟩ u1).heap.size = Z.heap.size := by simp [World.setCell]
 have h1 := h.some_
 have h2 := h.any
 have hlow := h.low
 refine ⟨⟨lies_not h.effs.1 (by omega) h.res (fun e => ?_) hX hs', h.effs.2⟩, ⟨lies_not h.nodes.1 (by omega) h.res (fun e => ?_) hX hs', h.nodes.2⟩, rdr_not (a1 := (none, 0, 0)) (a2 := (none, 0, 0)) (c1 := (none, 0, 0)) rfl rfl h.rd h.res hX hs' rfl, ⟨h.gr.os, h.gr.tape, h.gr.output, by rw [hs']; exact h.gr.size, fun k hk => (hX k (by have := hk.1; omega)).trans (h.gr.block k hk)⟩⟩
 · simp only [Nat.zero_div, Nat.zero_mod] at e
   cases e
 · simp only [Nat.zero_div, Nat.zero_mod] at e
   cases e
theorem fall_back {d : Dr} {W Y Z : World} {p p' rb : Nat} {v : Value} {n : Nd} (hP : Pg d W Y p p' rb) (hb : Below Y.heap.size Y Z) (hn : NodesD d Z v [n]) (u0 u1 : Value) :
   NodesD d ((Z.setCell ⟨rb, 0, none⟩ u0).setCell ⟨rb, 1, none⟩ u1) v [n] ∧ Rdr d ((Z.setCell ⟨rb, 0, none⟩ u0).setCell ⟨rb, 1, none⟩ u1) p' ∧ Grew d W ((Z.setCell ⟨rb, 0, none⟩ u0).setCell ⟨rb, 1, none⟩ u1) := by
 have hX : ∀ k, k ≠ rb → ((Z.setCell ⟨rb, 0, none⟩ u0).setCell ⟨rb, 1, none⟩ u1).heap[k]? = Z.heap[k]? := fun k hk => (Below.heap_setCell _ ⟨rb, 1, none⟩ _ k hk).trans (Below.heap_setCell Z ⟨rb, 0, none⟩ _ k hk)
 have hs' : ((Z.setCell ⟨rb, 0, none⟩ u0).setCell ⟨rb, 1, none⟩ u1).heap.size = Z.heap.size := by simp [World.setCell]
 have hres := (hb.block _ (z26 hP.res)).trans hP.res
 have hlow := hP.low
 have hg := hP.gr.trans (Grew.of_below hb)
 refine ⟨⟨lies_not hn.1 (by simp) hres (fun e => ?_) hX hs', hn.2⟩, rdr_not (a1 := (none, 0, 0)) (a2 := (none, 0, 0)) (c1 := (none, 0, 0)) rfl rfl (hP.rd.below hb) hres hX hs' rfl, ⟨hg.os, hg.tape, hg.output, by rw [hs']; exact hg.size, fun k hk => (hX k (by have := hk.1; omega)).trans (hg.block k hk)⟩⟩
 simp only [Nat.zero_div, Nat.zero_mod] at e
 cases e
set_option maxHeartbeats 8000000 in
set_option maxRecDepth 100000 in
theorem prog_calls {d : Dr} {W : World} {p : Nat} (hG : d.G = d.B) (h : Rdr d W p) (hp : p ≤ 500000) : Calls Tryz.prog 15 #[.pointer (some ⟨d.B, 0, none⟩)] W (ProgPost d W p) := by
 have hB := z26 h.blk
 have HG := hid hG
 have HPl := hid hp
 have P0 : Hid (Pg d W (W.alloc (.cells #[.slice none 0 0, .slice none 0 0] 55)) p p W.heap.size) := ⟨h.below ((Below.refl _ _).alloc (Nat.le_refl _) _), (Grew.refl d W).alloc _, (MapKept.heap_alloc W _).1, Nat.le_refl _⟩
 clear hG h hp
 go_enter Tryz.func15, Tryz.ntmps15
 go_wp2_with fail
 obtain ⟨rb, hrb⟩ : ∃ rb, W.heap.size = rb := ⟨_, rfl⟩
 have HRb := hid hrb
 rw [hrb] at P0 ⊢
 clear hrb
 go_loopw [3] (fun i wr => ∃ (i' p' : Nat), i = .int .i64 i' ∧ i' ≤ 6 ∧ Hid (Pg d W wr p p' rb ∧ p' ≤ p + 30000 * i')) (fun i _ => 6 - (intOf i).toNat)
 case atStart => exact ⟨0, p, rfl, Nat.zero_le _, P0.out, by omega⟩
 case round =>
   obtain ⟨i', p', rfl, hle, HP⟩ := hrel
   rename World => Y
   by_cases hi : (i' : Int) < 6
   · have hstep : 6 - (intOf (.int .i64 ((i' + 1 : Nat) : Int))).toNat < 6 - (intOf (.int .i64 (i' : Int))).toNat := by simp [intOf]; omega
     have HE0 := hid (effs_calls HG.out HP.out.1.rd (by have := HP.out.2; have := HPl.out; omega))
     go_wp2_with fail
     refine HE0.out.mono ?_
     rintro e X1 ⟨ve, es, rfl, hes, hes1, hes4, hr1, hg1⟩
     obtain ⟨ade, cpe, rfl⟩ := hes.is
     have E1 := hid (And.intro hes (And.intro hes1 hes4))
     have R1 := hid (And.intro hr1 hg1)
     clear hes hes1 hes4 hr1 hg1 HE0
     go_wp2_with fail
     refine (z71 R1.out.1 (by have := HP.out.2; have := HPl.out; omega) 60 (by decide)).mono ?_
     rintro e X2 ⟨m2, rfl, hm0, hm1, hr2, hg2, -, -⟩
     have R2 := hid (And.intro hr2 hg2)
     clear hr2 hg2
     go_upto_region 6 with fail
     have hB2 : Below X2.heap.size X2 ((X2.alloc (.cells #[.pointer (some ⟨d.B, 0, none⟩), .slice ade es.length cpe, .int .i64 (30 + m2), .int .i64 0] 89)).alloc (.cells #[.slice ade es.length cpe, .slice none 0 0] 55)) := ((Below.refl _ _).alloc (Nat.le_refl _) _).alloc (by simp) _
     have hG2 := (MapKept.heap_alloc X2 (.cells #[.pointer (some ⟨d.B, 0, none⟩), .slice ade es.length cpe, .int .i64 (30 + m2), .int .i64 0] 89)).1
     have hb3 : Below (X2.alloc (.cells #[.pointer (some ⟨d.B, 0, none⟩), .slice ade es.length cpe, .int .i64 (30 + m2), .int .i64 0] 89)).heap.size (X2.alloc (.cells #[.pointer (some ⟨d.B, 0, none⟩), .slice ade es.length cpe, .int .i64 (30 + m2), .int .i64 0] 89)) ((X2.alloc (.cells #[.pointer (some ⟨d.B, 0, none⟩), .slice ade es.length cpe, .int .i64 (30 + m2), .int .i64 0] 89)).alloc (.cells #[.slice ade es.length cpe, .slice none 0 0] 55)) := (Below.refl _ _).alloc (Nat.le_refl _) _
     have hG4 := (hb3.block X2.heap.size (by simp)).trans hG2
     have hP4 := (MapKept.heap_alloc (X2.alloc (.cells #[.pointer (some ⟨d.B, 0, none⟩), .slice ade es.length cpe, .int .i64 (30 + m2), .int .i64 0] 89)) (.cells #[.slice ade es.length cpe, .slice none 0 0] 55)).1
     rw [show (X2.alloc (.cells #[.pointer (some ⟨d.B, 0, none⟩), .slice ade es.length cpe, .int .i64 (30 + m2), .int .i64 0] 89)).heap.size = X2.heap.size + 1 by simp] at hP4
     clear hb3 hG2
     generalize (X2.alloc (.cells #[.pointer (some ⟨d.B, 0, none⟩), .slice ade es.length cpe, .int .i64 (30 + m2), .int .i64 0] 89)).alloc (.cells #[.slice ade es.length cpe, .slice none 0 0] 55) = X4 at *
     have HB2 := hid hB2
     have A0 : Hid (At (d.on X2.heap.size) (.slice ade es.length cpe) X4 ⟨p' + 1 + 1, 30 + m2, 0⟩ X4 ⟨p' + 1 + 1, 30 + m2, 0⟩ 0 0) := At.start ⟨R2.out.1.on HB2.out (Nat.le_refl _), hG4, by have := z26 R2.out.1.blk; show d.B ≠ X2.heap.size; omega⟩
     have EF : Hid (EffsD (d.on X2.heap.size) X4 (.slice ade es.length cpe) es) := ⟨(E1.out.1.1.grew R2.out.2).on HB2.out (Nat.le_refl _), E1.out.1.2⟩
     have HF : Hid (Fit ⟨p' + 1 + 1, 30 + m2, 0⟩ 20) := by
       have := HP.out.2
       have := HPl.out
       unfold Hid Fit
       dsimp only
       omega
     have BP := hid hP4
     have HQp : Hid ((d.on X2.heap.size).free X4 (X2.heap.size + 1)) := ⟨z26 hP4, by have := z26 R2.out.1.blk; show X2.heap.size + 1 ≠ d.B; omega, by show X2.heap.size + 1 ≠ X2.heap.size; omega⟩
     clear hB2 hG4 hP4
     refine z33 (S := fun w' => w'.cell? ⟨X2.heap.size, 1, none⟩ = some (.slice ade es.length cpe)) (by kernel_rfl) rfl rfl ?_
     have A1 := hid A0.out.drew
     have G1 := hid (Grew.refl (d.on X2.heap.size) X4).drew
     generalize X4.drew = X11 at *
     refine pick_o 0 (.pointer (some ⟨X2.heap.size, 0, none⟩)) (A1.out.1.c1) ?_
     refine pick_o 1 (.pointer (some ⟨d.B, 0, none⟩)) (A1.out.1.c1) ?_
     refine pick_o 4 (.pointer (some ⟨X2.heap.size, 0, none⟩)) (A1.out.1.c1) ?_
     refine pick_o 5 (.pointer (some ⟨X2.heap.size, 0, none⟩)) (A1.out.1.c1) ?_
     refine pick_o 6 (.pointer (some ⟨X2.heap.size, 1, none⟩)) (A1.out.1.c1) ?_
     refine pick_o (hy := fun w' hw => by simp [go_sem, hw]) 7 (.slice ade es.length cpe) (A1.out.1.c1) ?_
     refine pick_o 8 (.int .i64 (es.length : Int)) (A1.out.1.c1) ?_
     refine pick_o 10 (.pointer (some ⟨d.B, 0, none⟩)) (A1.out.1.c1) ?_
     refine pick_either2 (i := 2) (j := 9) (by kernel_rfl) ?_ ?_
     · refine ⟨_, 16, #[.pointer (some ⟨d.B, 0, none⟩), .int .i64 5], rfl, rfl, by simp [go_sem], ?_⟩
       refine (A1.out.pick HF.out (by omega) 5 (by decide)).mono ?_
       rintro e X21 ⟨m21, s21, rfl, hm21, hM21, ha, hg⟩
       have A21 := hid ha
       have G21 := hid hg
       clear ha hg
       refine ⟨_, rfl, (A21.out.1.c1), ?_⟩
       refine z15 (by simp [go_sem]; exact rfl) ?_
       have hwr21 : IntKind.i64.wrap (1 + m21) = 1 + m21 := by rw [IntKind.wrap_i64]; omega
       refine pick_o (hy := fun w' hw => by simp [go_sem, hwr21]) 3 (.int .i64 (1 + m21)) (A21.out.1.c1) ?_
       clear hwr21
       refine z46 (i := 9) (j := 11) (by kernel_rfl) ?_ ?_
       · obtain ⟨cb, hcb, hmk⟩ := made_bools es.length (by have := E1.out.2.2; omega) X21
         have MB : Hid (BoolsD (d.on X2.heap.size) (X21.alloc (.cells cb 4)) (.slice (some ⟨X21.heap.size, 0, none⟩) es.length es.length) (List.replicate es.length false)) := bools_made hcb A21.out.1.ltB A21.out.1.ltG
         have A22 := hid (A21.out.alloc (.cells cb 4))
         have G22 := hid ((Grew.refl (d.on X2.heap.size) X21).alloc (.cells cb 4))
         refine ⟨_, .slice (some ⟨X21.heap.size, 0, none⟩) es.length es.length, X21.alloc (.cells cb 4), rfl, rfl, by simp [go_sem, hmk], (A22.out.1.c1), ?_⟩
         refine z15 (by simp [go_sem]; exact rfl) ?_
         clear hmk
         obtain ⟨qb, hqb⟩ : ∃ q, X21.heap.size = q := ⟨_, rfl⟩
         generalize X21.alloc (.cells cb 4) = X22 at *
         rw [hqb] at MB ⊢
         clear hqb hcb
         refine z27 (i := 11) (f := 16) (args := #[.pointer (some ⟨d.B, 0, none⟩), .int .i64 6]) rfl (by kernel_rfl) rfl rfl (by simp [go_sem]) ?_
         refine (A22.out.pick HF.out (by omega) 6 (by decide)).mono ?_
         rintro e X23 ⟨m23, s23, rfl, hm23, hM23, ha, hg⟩
         have A23 := hid ha
         have G23 := hid hg
         clear ha hg
         refine ⟨_, rfl, (A23.out.1.c1), ?_⟩
         refine z15 (by simp [go_sem]; exact rfl) ?_
         have hwr23 : IntKind.i64.wrap (4 + m23) = 4 + m23 := by rw [IntKind.wrap_i64]; omega
         refine pick_o (hy := fun w' hw => by simp [go_sem, hwr23]) 12 (.int .i64 (4 + m23)) (A23.out.1.c1) ?_
         clear hwr23
         refine z27 (i := 13) (f := 30) (args := #[.pointer (some ⟨X2.heap.size, 0, none⟩), .int .i64 (1 + m21), .slice none 0 0, .slice (some ⟨qb, 0, none⟩) es.length es.length, .int .i64 (4 + m23)]) rfl (by kernel_rfl) rfl rfl (by simp [go_sem]) ?_
         refine (A23.out.nodes (of_all 12 (by omega) (4 + m23) (1 + m21) (.slice none 0 0) _ [] (List.replicate es.length false) _ _ (by omega) (by omega) (A23.out.fit HF.out 10 (by omega)) A23.out.1 ⟨⟨Or.inl ⟨rfl, rfl⟩, fun k hk => by simp at hk⟩, (MB.out.grew G23.out), by simp, (EF.out.grew (G1.out.trans (G21.out.trans (G22.out.trans G23.out)))), by simp, E1.out.2.2⟩)).mono ?_
         rintro e X24 ⟨v24, n24, s24, t24, rfl, hn24, hl24, ha, hg⟩
         have A24 := hid ha
         have G24 := hid hg
         clear ha hg
         have N24 := hid (And.intro hn24 hl24)
         obtain ⟨ad24, cp24, rfl⟩ := hn24.is
         clear hn24 hl24
         refine ⟨_, rfl, (A24.out.1.c1), ?_⟩
         refine z15 (by simp [go_sem]; exact rfl) ?_
         refine pick_o 14 (.pointer (some ⟨X2.heap.size + 1, 1, none⟩)) (A24.out.1.c1) ?_
         have BP2 := hid (((G1.out.trans (G21.out.trans (G22.out.trans (G23.out.trans G24.out)))).block _ HQp.out).trans BP.out)
         have cb0 := z11 BP2.out 1
         have fb0 := z13 BP2.out 1
         have cb1 : X24.cell? ⟨X2.heap.size + 1, 1, none⟩ = some (.slice none 0 0) := cb0
         have CG := A24.out.1.c1
         refine z40 (i := 15) (w1 := X24.setCell ⟨X2.heap.size + 1, 1, none⟩ (.slice ad24 n24.length cp24)) rfl rfl (by kernel_rfl) rfl rfl (by simp [go_sem, cb1, fb0]) ?_ ?_
         · exact (World.cell?_setCell_other _ _ _ _ (fun h => by have := congrArg Addr.block h; dsimp only at this; omega)).trans CG
         refine z32 (by kernel_rfl) ?_
         have FIN := hid (prog_rest HG.out HP.out.1 HP.out.2 R1.out.2 R2.out.2 E1.out.1 E1.out.2.1 HB2.out rfl (by show 30 + m2 ≤ 89; omega) (by omega) A24.out BP2.out N24.out.1 N24.out.2)
         clear cb0 fb0 cb1 CG
         generalize X24.setCell ⟨X2.heap.size + 1, 1, none⟩ (.slice ad24 n24.length cp24) = Z at *
         have cz0 := z11 FIN.out.box 0
         have cz1 := z11 FIN.out.box 1
         have cz0' : Z.cell? ⟨X2.heap.size + 1, 0, none⟩ = some (.slice ade es.length cpe) := cz0
         have cz1' : Z.cell? ⟨X2.heap.size + 1, 1, none⟩ = some (.slice ad24 n24.length cp24) := cz1
         clear cz0 cz1
         obtain ⟨R, hR, -⟩ := answers n24
         have hcap : es.length ≤ cpe := by rcases FIN.out.effs.1 with ⟨h, h0⟩ | ⟨_, _, _, h, h0, -⟩; have := E1.out.2.1; omega; cases h; exact h0
         obtain ⟨be, ce, bt, ct, heE, heT, hbe, hbt, hEA, hNA, hl5⟩ := FIN.out.lies
         simp only [Value.slice.injEq] at heE heT
         obtain ⟨rfl, -, rfl⟩ := heE
         obtain ⟨rfl, -, rfl⟩ := heT
         have HPK := hid (z68 be bt cpe cp24 es n24 R Z hcap hbe hbt hEA hNA (by have := E1.out.2.2; omega) hl5 (fun w' hb hn => z55 bt 0 cp24 n24 w' R hl5 hb hn hR))
         have HR := hid hR
         clear hbe hbt hEA hNA hl5 hR
         go_wp2_with fail
         refine HPK.out.mono ?_
         rintro e Z2 ⟨rfl, hbz⟩
         have FZ := hid (FIN.out.below hbz)
         clear hbz HPK
         cases hpz : progZ es n24 R with
         | false =>
           go_wp2_with fail
           try rw [z31 (by omega)]
           exact ⟨⟨i' + 1, _, rfl, by omega, ⟨FZ.out.rd, FZ.out.gr, FZ.out.res, FZ.out.low⟩, FZ.out.cost⟩, hstep⟩
         | true =>
           have HT := hid (tr_of_ans (ns := n24) (by have h := prog_true hpz; have := HR.out; rwa [h] at this))
           have rz0 := z11 FZ.out.res 0
           have rz1 := z11 FZ.out.res 1
           have rz0' : Z2.cell? ⟨rb, 0, none⟩ = some (.slice none 0 0) := rz0
           have rz1' : Z2.cell? ⟨rb, 1, none⟩ = some (.slice none 0 0) := rz1
           have fz0 := z13 FZ.out.res 0
           have fz1 := z13 FZ.out.res 1
           have qz0 := z11 FZ.out.box 0
           have qz1 := z11 FZ.out.box 1
           have qz0' : Z2.cell? ⟨X2.heap.size + 1, 0, none⟩ = some (.slice (some ⟨be, 0, none⟩) es.length cpe) := qz0
           have qz1' : Z2.cell? ⟨X2.heap.size + 1, 1, none⟩ = some (.slice (some ⟨bt, 0, none⟩) n24.length cp24) := qz1
           clear rz0 rz1 qz0 qz1
           go_wp2_with fail
           have HFi := hid (FZ.out.stored (.slice (some ⟨be, 0, none⟩) es.length cpe) (.slice (some ⟨bt, 0, none⟩) n24.length cp24))
           refine bodyPost_ret (v := .agg #[.slice (some ⟨be, 0, none⟩) es.length cpe, .slice (some ⟨bt, 0, none⟩) n24.length cp24]) ?_ rfl ?_
           · simp [results, Tryz.results15, go_sem, rz0', rz1']
           · exact ⟨_, _, _, _, es, n24, _, rfl, HFi.out.1, E1.out.2.2, HFi.out.2.1, HT.out, HFi.out.2.2.1, by have := FZ.out.cost; have := HPl.out; omega, HFi.out.2.2.2⟩
       · refine ⟨_, 16, #[.pointer (some ⟨d.B, 0, none⟩), .int .i64 6], rfl, rfl, by simp [go_sem], ?_⟩
         refine (A21.out.pick HF.out (by omega) 6 (by decide)).mono ?_
         rintro e X22 ⟨m22, s22, rfl, hm22, hM22, ha, hg⟩
         have A22 := hid ha
         have G22 := hid hg
         clear ha hg
         refine ⟨_, rfl, (A22.out.1.c1), ?_⟩
         refine z15 (by simp [go_sem]; exact rfl) ?_
         have hwr22 : IntKind.i64.wrap (4 + m22) = 4 + m22 := by rw [IntKind.wrap_i64]; omega
         refine pick_o (hy := fun w' hw => by simp [go_sem, hwr22]) 12 (.int .i64 (4 + m22)) (A22.out.1.c1) ?_
         clear hwr22
         obtain ⟨cb, hcb, hmk⟩ := made_bools es.length (by have := E1.out.2.2; omega) X22
         have MB : Hid (BoolsD (d.on X2.heap.size) (X22.alloc (.cells cb 4)) (.slice (some ⟨X22.heap.size, 0, none⟩) es.length es.length) (List.replicate es.length false)) := bools_made hcb A22.out.1.ltB A22.out.1.ltG
         have A23 := hid (A22.out.alloc (.cells cb 4))
         have G23 := hid ((Grew.refl (d.on X2.heap.size) X22).alloc (.cells cb 4))
         refine z29 (i := 9) (v := .slice (some ⟨X22.heap.size, 0, none⟩) es.length es.length) (w1 := X22.alloc (.cells cb 4)) rfl (by kernel_rfl) rfl rfl (by simp [go_sem, hmk]) (A23.out.1.c1) (by simp [go_sem]; exact rfl) ?_
         clear hmk
         obtain ⟨qb, hqb⟩ : ∃ q, X22.heap.size = q := ⟨_, rfl⟩
         generalize X22.alloc (.cells cb 4) = X23 at *
         rw [hqb] at MB ⊢
         clear hqb hcb
         refine z27 (i := 13) (f := 30) (args := #[.pointer (some ⟨X2.heap.size, 0, none⟩), .int .i64 (1 + m21), .slice none 0 0, .slice (some ⟨qb, 0, none⟩) es.length es.length, .int .i64 (4 + m22)]) rfl (by kernel_rfl) rfl rfl (by simp [go_sem]) ?_
         refine (A23.out.nodes (of_all 12 (by omega) (4 + m22) (1 + m21) (.slice none 0 0) _ [] (List.replicate es.length false) _ _ (by omega) (by omega) (A23.out.fit HF.out 10 (by omega)) A23.out.1 ⟨⟨Or.inl ⟨rfl, rfl⟩, fun k hk => by simp at hk⟩, MB.out, by simp, (EF.out.grew (G1.out.trans (G21.out.trans (G22.out.trans G23.out)))), by simp, E1.out.2.2⟩)).mono ?_
         rintro e X24 ⟨v24, n24, s24, t24, rfl, hn24, hl24, ha, hg⟩
         have A24 := hid ha
         have G24 := hid hg
         clear ha hg
         have N24 := hid (And.intro hn24 hl24)
         obtain ⟨ad24, cp24, rfl⟩ := hn24.is
         clear hn24 hl24
         refine ⟨_, rfl, (A24.out.1.c1), ?_⟩
         refine z15 (by simp [go_sem]; exact rfl) ?_
         refine pick_o 14 (.pointer (some ⟨X2.heap.size + 1, 1, none⟩)) (A24.out.1.c1) ?_
         have BP2 := hid (((G1.out.trans (G21.out.trans (G22.out.trans (G23.out.trans G24.out)))).block _ HQp.out).trans BP.out)
         have cb0 := z11 BP2.out 1
         have fb0 := z13 BP2.out 1
         have cb1 : X24.cell? ⟨X2.heap.size + 1, 1, none⟩ = some (.slice none 0 0) := cb0
         have CG := A24.out.1.c1
         refine z40 (i := 15) (w1 := X24.setCell ⟨X2.heap.size + 1, 1, none⟩ (.slice ad24 n24.length cp24)) rfl rfl (by kernel_rfl) rfl rfl (by simp [go_sem, cb1, fb0]) ?_ ?_
         · exact (World.cell?_setCell_other _ _ _ _ (fun h => by have := congrArg Addr.block h; dsimp only at this; omega)).trans CG
         refine z32 (by kernel_rfl) ?_
         have FIN := hid (prog_rest HG.out HP.out.1 HP.out.2 R1.out.2 R2.out.2 E1.out.1 E1.out.2.1 HB2.out rfl (by show 30 + m2 ≤ 89; omega) (by omega) A24.out BP2.out N24.out.1 N24.out.2)
         clear cb0 fb0 cb1 CG
         generalize X24.setCell ⟨X2.heap.size + 1, 1, none⟩ (.slice ad24 n24.length cp24) = Z at *
         have cz0 := z11 FIN.out.box 0
         have cz1 := z11 FIN.out.box 1
         have cz0' : Z.cell? ⟨X2.heap.size + 1, 0, none⟩ = some (.slice ade es.length cpe) := cz0
         have cz1' : Z.cell? ⟨X2.heap.size + 1, 1, none⟩ = some (.slice ad24 n24.length cp24) := cz1
         clear cz0 cz1
         obtain ⟨R, hR, -⟩ := answers n24
         have hcap : es.length ≤ cpe := by rcases FIN.out.effs.1 with ⟨h, h0⟩ | ⟨_, _, _, h, h0, -⟩; have := E1.out.2.1; omega; cases h; exact h0
         obtain ⟨be, ce, bt, ct, heE, heT, hbe, hbt, hEA, hNA, hl5⟩ := FIN.out.lies
         simp only [Value.slice.injEq] at heE heT
         obtain ⟨rfl, -, rfl⟩ := heE
         obtain ⟨rfl, -, rfl⟩ := heT
         have HPK := hid (z68 be bt cpe cp24 es n24 R Z hcap hbe hbt hEA hNA (by have := E1.out.2.2; omega) hl5 (fun w' hb hn => z55 bt 0 cp24 n24 w' R hl5 hb hn hR))
         have HR := hid hR
         clear hbe hbt hEA hNA hl5 hR
         go_wp2_with fail
         refine HPK.out.mono ?_
         rintro e Z2 ⟨rfl, hbz⟩
         have FZ := hid (FIN.out.below hbz)
         clear hbz HPK
         cases hpz : progZ es n24 R with
         | false =>
           go_wp2_with fail
           try rw [z31 (by omega)]
           exact ⟨⟨i' + 1, _, rfl, by omega, ⟨FZ.out.rd, FZ.out.gr, FZ.out.res, FZ.out.low⟩, FZ.out.cost⟩, hstep⟩
         | true =>
           have HT := hid (tr_of_ans (ns := n24) (by have h := prog_true hpz; have := HR.out; rwa [h] at this))
           have rz0 := z11 FZ.out.res 0
           have rz1 := z11 FZ.out.res 1
           have rz0' : Z2.cell? ⟨rb, 0, none⟩ = some (.slice none 0 0) := rz0
           have rz1' : Z2.cell? ⟨rb, 1, none⟩ = some (.slice none 0 0) := rz1
           have fz0 := z13 FZ.out.res 0
           have fz1 := z13 FZ.out.res 1
           have qz0 := z11 FZ.out.box 0
           have qz1 := z11 FZ.out.box 1
           have qz0' : Z2.cell? ⟨X2.heap.size + 1, 0, none⟩ = some (.slice (some ⟨be, 0, none⟩) es.length cpe) := qz0
           have qz1' : Z2.cell? ⟨X2.heap.size + 1, 1, none⟩ = some (.slice (some ⟨bt, 0, none⟩) n24.length cp24) := qz1
           clear rz0 rz1 qz0 qz1
           go_wp2_with fail
           have HFi := hid (FZ.out.stored (.slice (some ⟨be, 0, none⟩) es.length cpe) (.slice (some ⟨bt, 0, none⟩) n24.length cp24))
           refine bodyPost_ret (v := .agg #[.slice (some ⟨be, 0, none⟩) es.length cpe, .slice (some ⟨bt, 0, none⟩) n24.length cp24]) ?_ rfl ?_
           · simp [results, Tryz.results15, go_sem, rz0', rz1']
           · exact ⟨_, _, _, _, es, n24, _, rfl, HFi.out.1, E1.out.2.2, HFi.out.2.1, HT.out, HFi.out.2.2.1, by have := FZ.out.cost; have := HPl.out; omega, HFi.out.2.2.2⟩
     · obtain ⟨cb, hcb, hmk⟩ := made_bools es.length (by have := E1.out.2.2; omega) X11
       have MB : Hid (BoolsD (d.on X2.heap.size) (X11.alloc (.cells cb 4)) (.slice (some ⟨X11.heap.size, 0, none⟩) es.length es.length) (List.replicate es.length false)) := bools_made hcb A1.out.1.ltB A1.out.1.ltG
       have A21 := hid (A1.out.alloc (.cells cb 4))
       have G21 := hid ((Grew.refl (d.on X2.heap.size) X11).alloc (.cells cb 4))
       refine ⟨_, .slice (some ⟨X11.heap.size, 0, none⟩) es.length es.length, X11.alloc (.cells cb 4), rfl, rfl, by simp [go_sem, hmk], (A21.out.1.c1), ?_⟩
       refine z15 (by simp [go_sem]; exact rfl) ?_
       clear hmk
       obtain ⟨qb, hqb⟩ : ∃ q, X11.heap.size = q := ⟨_, rfl⟩
       generalize X11.alloc (.cells cb 4) = X21 at *
       rw [hqb] at MB ⊢
       clear hqb hcb
       refine z27 (i := 2) (f := 16) (args := #[.pointer (some ⟨d.B, 0, none⟩), .int .i64 5]) rfl (by kernel_rfl) rfl rfl (by simp [go_sem]) ?_
       refine (A21.out.pick HF.out (by omega) 5 (by decide)).mono ?_
       rintro e X22 ⟨m22, s22, rfl, hm22, hM22, ha, hg⟩
       have A22 := hid ha
       have G22 := hid hg
       clear ha hg
       refine ⟨_, rfl, (A22.out.1.c1), ?_⟩
       refine z15 (by simp [go_sem]; exact rfl) ?_
       have hwr22 : IntKind.i64.wrap (1 + m22) = 1 + m22 := by rw [IntKind.wrap_i64]; omega
       refine pick_o (hy := fun w' hw => by simp [go_sem, hwr22]) 3 (.int .i64 (1 + m22)) (A22.out.1.c1) ?_
       clear hwr22
       refine z27 (i := 11) (f := 16) (args := #[.pointer (some ⟨d.B, 0, none⟩), .int .i64 6]) rfl (by kernel_rfl) rfl rfl (by simp [go_sem]) ?_
       refine (A22.out.pick HF.out (by omega) 6 (by decide)).mono ?_
       rintro e X23 ⟨m23, s23, rfl, hm23, hM23, ha, hg⟩
       have A23 := hid ha
       have G23 := hid hg
       clear ha hg
       refine ⟨_, rfl, (A23.out.1.c1), ?_⟩
       refine z15 (by simp [go_sem]; exact rfl) ?_
       have hwr23 : IntKind.i64.wrap (4 + m23) = 4 + m23 := by rw [IntKind.wrap_i64]; omega
       refine pick_o (hy := fun w' hw => by simp [go_sem, hwr23]) 12 (.int .i64 (4 + m23)) (A23.out.1.c1) ?_
       clear hwr23
       refine z27 (i := 13) (f := 30) (args := #[.pointer (some ⟨X2.heap.size, 0, none⟩), .int .i64 (1 + m22), .slice none 0 0, .slice (some ⟨qb, 0, none⟩) es.length es.length, .int .i64 (4 + m23)]) rfl (by kernel_rfl) rfl rfl (by simp [go_sem]) ?_
       refine (A23.out.nodes (of_all 12 (by omega) (4 + m23) (1 + m22) (.slice none 0 0) _ [] (List.replicate es.length false) _ _ (by omega) (by omega) (A23.out.fit HF.out 10 (by omega)) A23.out.1 ⟨⟨Or.inl ⟨rfl, rfl⟩, fun k hk => by simp at hk⟩, (MB.out.grew (G22.out.trans G23.out)), by simp, (EF.out.grew (G1.out.trans (G21.out.trans (G22.out.trans G23.out)))), by simp, E1.out.2.2⟩)).mono ?_
       rintro e X24 ⟨v24, n24, s24, t24, rfl, hn24, hl24, ha, hg⟩
       have A24 := hid ha
       have G24 := hid hg
       clear ha hg
       have N24 := hid (And.intro hn24 hl24)
       obtain ⟨ad24, cp24, rfl⟩ := hn24.is
       clear hn24 hl24
       refine ⟨_, rfl, (A24.out.1.c1), ?_⟩
       refine z15 (by simp [go_sem]; exact rfl) ?_
       refine pick_o 14 (.pointer (some ⟨X2.heap.size + 1, 1, none⟩)) (A24.out.1.c1) ?_
       have BP2 := hid (((G1.out.trans (G21.out.trans (G22.out.trans (G23.out.trans G24.out)))).block _ HQp.out).trans BP.out)
       have cb0 := z11 BP2.out 1
       have fb0 := z13 BP2.out 1
       have cb1 : X24.cell? ⟨X2.heap.size + 1, 1, none⟩ = some (.slice none 0 0) := cb0
       have CG := A24.out.1.c1
       refine z40 (i := 15) (w1 := X24.setCell ⟨X2.heap.size + 1, 1, none⟩ (.slice ad24 n24.length cp24)) rfl rfl (by kernel_rfl) rfl rfl (by simp [go_sem, cb1, fb0]) ?_ ?_
       · exact (World.cell?_setCell_other _ _ _ _ (fun h => by have := congrArg Addr.block h; dsimp only at this; omega)).trans CG
       refine z32 (by kernel_rfl) ?_
       have FIN := hid (prog_rest HG.out HP.out.1 HP.out.2 R1.out.2 R2.out.2 E1.out.1 E1.out.2.1 HB2.out rfl (by show 30 + m2 ≤ 89; omega) (by omega) A24.out BP2.out N24.out.1 N24.out.2)
       clear cb0 fb0 cb1 CG
       generalize X24.setCell ⟨X2.heap.size + 1, 1, none⟩ (.slice ad24 n24.length cp24) = Z at *
       have cz0 := z11 FIN.out.box 0
       have cz1 := z11 FIN.out.box 1
       have cz0' : Z.cell? ⟨X2.heap.size + 1, 0, none⟩ = some (.slice ade es.length cpe) := cz0
       have cz1' : Z.cell? ⟨X2.heap.size + 1, 1, none⟩ = some (.slice ad24 n24.length cp24) := cz1
       clear cz0 cz1
       obtain ⟨R, hR, -⟩ := answers n24
       have hcap : es.length ≤ cpe := by rcases FIN.out.effs.1 with ⟨h, h0⟩ | ⟨_, _, _, h, h0, -⟩; have := E1.out.2.1; omega; cases h; exact h0
       obtain ⟨be, ce, bt, ct, heE, heT, hbe, hbt, hEA, hNA, hl5⟩ := FIN.out.lies
       simp only [Value.slice.injEq] at heE heT
       obtain ⟨rfl, -, rfl⟩ := heE
       obtain ⟨rfl, -, rfl⟩ := heT
       have HPK := hid (z68 be bt cpe cp24 es n24 R Z hcap hbe hbt hEA hNA (by have := E1.out.2.2; omega) hl5 (fun w' hb hn => z55 bt 0 cp24 n24 w' R hl5 hb hn hR))
       have HR := hid hR
       clear hbe hbt hEA hNA hl5 hR
       go_wp2_with fail
       refine HPK.out.mono ?_
       rintro e Z2 ⟨rfl, hbz⟩
       have FZ := hid (FIN.out.below hbz)
       clear hbz HPK
       cases hpz : progZ es n24 R with
       | false =>
         go_wp2_with fail
         try rw [z31 (by omega)]
         exact ⟨⟨i' + 1, _, rfl, by omega, ⟨FZ.out.rd, FZ.out.gr, FZ.out.res, FZ.out.low⟩, FZ.out.cost⟩, hstep⟩
       | true =>
         have HT := hid (tr_of_ans (ns := n24) (by have h := prog_true hpz; have := HR.out; rwa [h] at this))
         have rz0 := z11 FZ.out.res 0
         have rz1 := z11 FZ.out.res 1
         have rz0' : Z2.cell? ⟨rb, 0, none⟩ = some (.slice none 0 0) := rz0
         have rz1' : Z2.cell? ⟨rb, 1, none⟩ = some (.slice none 0 0) := rz1
         have fz0 := z13 FZ.out.res 0
         have fz1 := z13 FZ.out.res 1
         have qz0 := z11 FZ.out.box 0
         have qz1 := z11 FZ.out.box 1
         have qz0' : Z2.cell? ⟨X2.heap.size + 1, 0, none⟩ = some (.slice (some ⟨be, 0, none⟩) es.length cpe) := qz0
         have qz1' : Z2.cell? ⟨X2.heap.size + 1, 1, none⟩ = some (.slice (some ⟨bt, 0, none⟩) n24.length cp24) := qz1
         clear rz0 rz1 qz0 qz1
         go_wp2_with fail
         have HFi := hid (FZ.out.stored (.slice (some ⟨be, 0, none⟩) es.length cpe) (.slice (some ⟨bt, 0, none⟩) n24.length cp24))
         refine bodyPost_ret (v := .agg #[.slice (some ⟨be, 0, none⟩) es.length cpe, .slice (some ⟨bt, 0, none⟩) n24.length cp24]) ?_ rfl ?_
         · simp [results, Tryz.results15, go_sem, rz0', rz1']
         · exact ⟨_, _, _, _, es, n24, _, rfl, HFi.out.1, E1.out.2.2, HFi.out.2.1, HT.out, HFi.out.2.2.1, by have := FZ.out.cost; have := HPl.out; omega, HFi.out.2.2.2⟩
   · have hBY := z26 HP.out.1.rd.blk
     go_wp2_with fail
     refine (node_calls (d := d) 1 7 Y hBY (by rw [HG.out]; exact hBY)).mono ?_
     rintro e Z ⟨v, rfl, hn, hb⟩
     obtain ⟨adv, cpv, rfl⟩ := hn.is
     have HFb := hid (fall_back HP.out.1 hb hn (.slice none 0 0) (.slice adv 1 cpv))
     have hres := (hb.block _ (z26 HP.out.1.res)).trans HP.out.1.res
     have rz0 : Z.cell? ⟨rb, 0, none⟩ = some (.slice none 0 0) := z11 hres 0
     have rz1 : Z.cell? ⟨rb, 1, none⟩ = some (.slice none 0 0) := z11 hres 1
     have fz0 := z13 hres 0
     have fz1 := z13 hres 1
     clear hn hb hres
     go_wp2_with fail
     refine bodyPost_ret (v := .agg #[.slice none 0 0, .slice adv 1 cpv]) ?_ rfl ?_
     · simp [results, Tryz.results15, go_sem, rz0, rz1]
     · exact ⟨none, 0, 0, _, [], _, p', rfl, ⟨Or.inl ⟨rfl, rfl⟩, fun e he => by simp at he⟩, by simp, HFb.out.1, ⟨_, .none, rfl, rfl, trivial, by simp⟩, HFb.out.2.1, by have := HP.out.2; omega, HFb.out.2.2⟩
end
end Go.Proofs.YtfmkgppkgmjpfaaGreatDoor
