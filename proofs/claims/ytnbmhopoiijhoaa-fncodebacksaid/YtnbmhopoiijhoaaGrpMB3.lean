/- A handler is drawn. -/
import Derived.Test.YtnbmhopoiijhoaaGrpMB2
import Derived.Test.YtnbmhopoiijhoaaGrpMB1
namespace Go.Proofs.Ytnbmhopoiijhoaa
open Go.RowKit Go.Deep

theorem bo_start {W X : World} (hs : W.heap.size ≤ X.heap.size) : (X.alloc (.cells #[] 4)).ownsRow W.heap.size 4 1 (.slice (some ⟨X.heap.size, 0, none⟩) 0 0) ([] : List Bool).length (rowZ boV 1 []) := World.ownsRow_made X #[] 0 hs (Nat.zero_le _) rfl

/-- What the first loop bears: which operations are handled. -/
structure Pk (d : Dr) (ve : Value) (W : World) (s : Cn) (X : World) (s1 : Cn) (t c : Nat) (vi : Value) (ms : List Bool) (vo : Value) (os : List Nat) (E : Nat) : Prop where
  at_ : At d ve W s X s1 t c
  may : X.ownsRow W.heap.size 4 1 vi ms.length (rowZ boV 1 ms)
  ops : X.ownsRow W.heap.size 3 1 vo os.length (rowZ gnV 1 os)
  len : ms.length = E
  lt : ∀ j ∈ os, j < E
  few : os.length ≤ 4

theorem Pk.grew {d : Dr} {ve : Value} {W X X' : World} {s s1 s2 : Cn} {t t' c c' : Nat} {vi vo : Value} {ms : List Bool} {os : List Nat} {E : Nat} (h : Pk d ve W s X s1 t c vi ms vo os E) (h0 : Gen d ve W s) (ha : At d ve W s X' s2 t' c') (hg : Grew d X X') : Pk d ve W s X' s2 t' c' vi ms vo os E :=
  ⟨ha, g_grew h.may h0.ltB h0.ltG hg, g_grew h.ops h0.ltB h0.ltG hg, h.len, h.lt, h.few⟩

theorem in_lit {d : Dr} (X : World) (j : Nat) (h1 : d.B < X.heap.size) (h2 : d.G < X.heap.size) : Lies d (X.alloc (.cells #[.int .i64 (j : Int)] 3)) (.slice (some ⟨X.heap.size, 0, none⟩) 1 1) [j].length 1 (fun i => gnV ([j].getD (i / 1) default) (i % 1)) :=
  lies_lit (f := gnV) (sz := 1) (by decide) X 3 [j] _ rfl h1 h2

/-- An operation more is handled. -/
theorem Pk.app {d : Dr} {ve : Value} {W X : World} {s s1 : Cn} {t c : Nat} {vi vo : Value} {ms : List Bool} {os : List Nat} {E : Nat} (h : Pk d ve W s X s1 t c vi ms vo os E) (h0 : Gen d ve W s) (j : Nat) (hj : j < E) (hf : os.length < 4) (ty : TypeId) :
    ∃ v' X', (Builtin.append_ #[40, 40] ty #[vo, .slice (some ⟨X.heap.size, 0, none⟩) 1 1]).run Try.prog (X.alloc (.cells #[.int .i64 (j : Int)] 3)) = .ok v' X' ∧ Pk d ve W s X' s1 t c vi ms v' (os ++ [j]) E := by
  obtain ⟨i0, hinf, hz0, hz1, hz2⟩ := info_parts info_int
  have hmX := h.may.alloc (.cells #[.int .i64 (j : Int)] 3)
  have hoX := h.ops.alloc (.cells #[.int .i64 (j : Int)] 3)
  have haX := h.at_.alloc (.cells #[.int .i64 (j : Int)] 3)
  obtain ⟨v', X', hr, ho, hgr⟩ := app_row (d := d) in_one Try.underlying40 hinf hz0 hz1 hz2 rfl (by decide) (by decide) hoX (in_lit X j h.at_.1.ltB h.at_.1.ltG) (by simp; omega) haX.2.1.size ty
  refine ⟨v', X', hr, haX.own h0 hgr (fun g hg => (hoX.lt g hg).1), g_other hmX hoX hgr (by decide), ho, h.len, fun x hx => ?_, by simp; omega⟩
  rw [List.mem_append, List.mem_singleton] at hx
  rcases hx with hx | rfl
  · exact h.lt x hx
  · exact hj

/-- It may be performed inside. -/
theorem Pk.set {d : Dr} {ve : Value} {W X : World} {s s1 : Cn} {t c : Nat} {vi vo : Value} {ms : List Bool} {os : List Nat} {E : Nat} (h : Pk d ve W s X s1 t c vi ms vo os E) (h0 : Gen d ve W s) (j : Nat) (hj : j < E) :
    ∃ g cap u, vi = .slice (some ⟨g, 0, none⟩) E cap ∧ X.cell? ⟨g, j, none⟩ = some u ∧ X.frozen? ⟨g, j, none⟩ = false ∧ Pk d ve W s (X.setCell ⟨g, j, none⟩ (.bool true)) s1 t c vi (ms.set j true) vo os E := by
  obtain ⟨g, cap, u, rfl, hB, hlt, hc, hf, hown, hgr⟩ := bools_set h.may (i := j) (by rw [h.len]; exact hj) true
  refine ⟨g, cap, u, by rw [h.len], hc, hf, h.at_.own h0 hgr (fun k hk => by cases hk; exact hB), hown, g_same h.ops (fun k hk => hgr.block k (h.ops.lt k hk).2 (fun e => ?_)), by rw [List.length_set]; exact h.len, h.lt, h.few⟩
  cases e
  obtain ⟨-, c1, hc1⟩ := g_type h.ops hk
  obtain ⟨-, c2, hc2⟩ := g_type h.may (g := g) rfl
  rw [hc1] at hc2
  cases hc2

set_option maxHeartbeats 8000000 in
set_option maxRecDepth 100000 in
/-- A handler. -/
theorem handler_calls {d : Dr} {ve v vm : Value} {es : List Ef} {W : World} {s : Cn} {ks : List Kn} {ms : List Bool} {D : Nat} (ty : Int) (deep : Int) (hO : OfC d ve es D) (h1 : deep ≤ D) (h2 : -90 ≤ deep) (h3 : D ≤ 100) (h : Gen d ve W s) (hf : Fit s 250) (hE : Env d ve es W v ks vm ms (D + 1)) :
    Calls Try.prog 58 #[.pointer (some ⟨d.G, 0, none⟩), .int .i64 ty, v, vm, .int .i64 deep] W (NodesPost d ve W s 250) := by
  have HF := hid hf
  have HO := hid hO
  have A0 := hid (At.start h)
  have HE := hid hE
  have HD := hid (And.intro h1 (And.intro h2 h3))
  have hdu : deep ≤ 1000 := by omega
  obtain ⟨ad, cp, rfl⟩ := hE.know.is
  obtain ⟨adm, cpm, rfl⟩ := hE.may.is
  have H0 := hid h
  obtain ⟨ade, cpe, rfl⟩ := hE.effs.is
  clear hO h1 h3 h hf hE
  have HL : Hid (es.length ≤ 4 ∧ ms.length = es.length) := ⟨HE.out.few, HE.out.len⟩
  obtain ⟨ib, hbi, hb0, hb1, hb2⟩ := info_parts info_bool
  go_enter Try.func58, Try.ntmps58
  have HEW := HE
  have g0 := A0.out.1.c0
  go_wp2_with fail
  refine (A0.out.pick HF.out (by omega) 4 (by decide)).mono ?_
  rintro e X1 ⟨m1, s1, rfl, hm1, hM1, ha, hg⟩
  have A1 := hid ha
  have G1 := hid hg
  clear ha hg
  clear g0
  have hcs : m1 = 0 ∨ 1 ≤ m1 := by omega
  rcases hcs with rfl | h1
  · clear hm1
    have bs := hid (bo_start (W := W) (X := X1) A1.out.2.1.size)
    go_wp2_with (at_builtin; refine wpList_append_by rfl _ _ 80 rfl _ _ rfl rfl (fun ty => app_row (d := d) bo_one Try.underlying80 hbi hb0 hb1 hb2 rfl (by decide) (by decide) bs.out (bools_lies ((HE.out.grew G1.out).may.grew ((Grew.refl d X1).alloc _))) (by have := HL.out; simp; omega) (by have := A1.out.2.1.size; simp; omega) ty) ?_; intro vi Xi hvi; have AI := hid (And.intro ((A1.out.alloc _).own H0.out hvi.2 (fun g hg => (bs.out.lt g hg).1)) hvi.1); clear hvi)
    rw [List.nil_append] at AI
    obtain ⟨adi, cpi, rfl⟩ := g_is AI.out.2
    have P0 : Hid (Pk d (.slice ade es.length cpe) W s Xi _ _ _ (.slice adi ms.length cpi) ms (.slice none 0 0) [] es.length) := ⟨AI.out.1, AI.out.2, World.ownsRow_nil _ _ _ _, HL.out.2, fun j hj => by simp at hj, by simp⟩
    clear bs AI
    go_loopw [13, 14] (fun o i wr => ∃ (i' : Nat) (ms' : List Bool) (os' : List Nat) (s' : Cn) (t' c' : Nat), i = .int .i64 i' ∧ i' ≤ es.length ∧ Hid (Pk d (.slice ade es.length cpe) W s wr s' t' c' (.slice adi ms.length cpi) ms' o os' es.length) ∧ Hid (c' ≤ 1 + i')) (fun _ i _ => es.length - (intOf i).toNat)
    case atStart => exact ⟨0, ms, [], _, _, _, rfl, Nat.zero_le _, P0, by show _ ≤ _; omega⟩
    case round =>
      obtain ⟨i', ms', os', s', t', c', rfl, hle, HP, HC⟩ := hrel
      obtain ⟨ado, cpo, rfl⟩ := g_is HP.out.ops
      have g0 := HP.out.at_.1.c0
      have g1 := HP.out.at_.1.c1
      by_cases hi : (i' : Int) < (es.length : Int)
      · obtain ⟨g, cap, u, hv, -, -, -⟩ := HP.out.set H0.out i' (by omega)
        simp only [Value.slice.injEq] at hv
        obtain ⟨rfl, -, rfl⟩ := hv
        have hi0 : (0 : Int) ≤ (i' : Int) := by omega
        have hi2 : (i' : Int) < (ms.length : Int) := by have := HL.out.2; omega
        have hstep : es.length - (intOf (.int .i64 ((i' + 1 : Nat) : Int))).toNat < es.length - (intOf (.int .i64 (i' : Int))).toNat := lt_step hi
        go_wp2_with fail
        refine (HP.out.at_.pick HF.out (by have := HC.out; have := HL.out.1; omega) 2 (by decide)).mono ?_
        rintro e X2 ⟨m, s2, rfl, hm0, hm1, ha, hg⟩
        have HP2 := hid (HP.out.grew H0.out ha hg)
        clear ha hg g0 g1 HP P0
        by_cases hm : m = 0
        · subst hm
          by_cases hf : (os'.length : Int) < 4
          · go_wp2_with (at_builtin; refine wpList_append_by rfl _ _ 40 rfl _ _ rfl rfl (fun ty => HP2.out.app H0.out i' (by omega) (by omega) ty) ?_; intro v3 X3 hv3; obtain ⟨ad3, cp3, hv9⟩ := g_is hv3.ops; rw [show (os' ++ [i']).length = os'.length + 1 by simp] at hv9; subst hv9; obtain ⟨g', cap', u', hv', hcu, hfu, hset⟩ := hv3.set H0.out i' (by omega); have HP4 := hid hset; simp only [Value.slice.injEq, Option.some.injEq, Addr.mk.injEq] at hv'; obtain ⟨⟨rfl, -⟩, -, rfl⟩ := hv'; clear hv3 hset)
            rw [wrap_succ (by have := HL.out.1; omega)]
            exact ⟨⟨i' + 1, _, _, s2, t' + 1, c' + 1, rfl, by omega, HP4, by show _ ≤ _; have := HC.out; omega⟩, hstep⟩
          · go_wp2_with fail
            rw [wrap_succ (by have := HL.out.1; omega)]
            exact ⟨⟨i' + 1, _, _, s2, t' + 1, c' + 1, rfl, by omega, HP2, by show _ ≤ _; have := HC.out; omega⟩, hstep⟩
        · have hz : (m == 0) = false := by simp [hm]
          go_wp2_with fail
          rw [wrap_succ (by have := HL.out.1; omega)]
          exact ⟨⟨i' + 1, _, _, s2, t' + 1, c' + 1, rfl, by omega, HP2, by show _ ≤ _; have := HC.out; omega⟩, hstep⟩
      · have ei : i' = es.length := by omega
        have hc5 : c' ≤ 5 := by have := HC.out; have := HL.out.1; omega
        have AH := hid HP.out.at_
        have HE2 := hid (HE.out.grew AH.out.2.1)
        have MI := hid (And.intro (bools_own (d := d) HP.out.may H0.out.ltB H0.out.ltG) HP.out.len)
        have HOs := hid (And.intro HP.out.lt HP.out.few)
        have OR := hid HP.out.ops
        clear HE HP P0 HC ei
        have HE := HE2
        clear HE2
        rename World => Y0
        go_wp2_with fail
        refine (AH.out.name HF.out (by omega)).mono ?_
        rintro e X2 ⟨x2, s2, rfl, hb2, ha, hg⟩
        have A2 := hid ha
        have G2 := hid hg
        clear ha hg
        have B2 := hid hb2
        clear hb2
        clear g0 g1
        go_wp2_with fail
        refine (A2.out.nodes (HO.out deep ty _ _ _ _ _ _ (by have := HD.out; omega) (by have := HD.out; omega) (A2.out.fit HF.out 10 (by omega)) A2.out.1 ((HE.out.grew G2.out).let (MI.out.1.grew G2.out) MI.out.2))).mono ?_
        rintro e X3 ⟨v3, n3, s3, t3, rfl, hn3, hl3, ha, hg⟩
        have A3 := hid ha
        have G3 := hid hg
        clear ha hg
        have N3 := hid (And.intro hn3 hl3)
        obtain ⟨ad3, cp3, rfl⟩ := hn3.is
        clear hn3 hl3
        go_wp2_with fail
        refine (A3.out.add x2 ty 0 (HE.out.grew (G2.out.trans G3.out)).know B2.out (by have := HE.out.room; omega)).mono ?_
        rintro e X4 ⟨u4, ks4, rfl, hk4, hkl4, ha, hg⟩
        have A4 := hid ha
        have G4 := hid hg
        clear ha hg
        have K4 := hid (And.intro hk4 hkl4)
        obtain ⟨ad4, cp4, rfl⟩ := hk4.is
        clear hk4 hkl4
        go_wp2_with fail
        refine (A4.out.nodes (HO.out deep ty _ _ _ _ _ _ (by have := HD.out; omega) (by have := HD.out; omega) (A4.out.fit HF.out 10 (by omega)) A4.out.1 ((HE.out.grew (G2.out.trans (G3.out.trans G4.out))).with K4.out.1 (by have := K4.out.2; omega)))).mono ?_
        rintro e X5 ⟨v5, n5, s5, t5, rfl, hn5, hl5, ha, hg⟩
        have A5 := hid ha
        have G5 := hid hg
        clear ha hg
        have N5 := hid (And.intro hn5 hl5)
        obtain ⟨ad5, cp5, rfl⟩ := hn5.is
        clear hn5 hl5
        go_wp2_with fail
        refine (A5.out.put1 25 0 0 x2 ByteArray.empty ByteArray.empty N5.out.1 ⟨B2.out, brief_none, brief_none⟩ (by have := A5.out.bound HF.out (by omega) (by decide); have := N5.out.2; omega)).mono ?_
        rintro e X6 ⟨v6, n6, rfl, hn6, hl6, ha, hg⟩
        have A6 := hid ha
        have G6 := hid hg
        clear ha hg
        have N6 := hid (And.intro hn6 hl6)
        obtain ⟨ad6, cp6, rfl⟩ := hn6.is
        clear hn6 hl6
        have HS : Hid (Hn d (.slice ade es.length cpe) W s (X6.alloc (.cells #[.slice ad3 n3.length cp3, .slice ad6 n6.length cp6] 53)) _ _ _ (.slice (some ⟨X6.heap.size, 0, none⟩) 2 2) [⟨ad3, cp3, n3⟩, ⟨ad6, cp6, n6⟩] (.slice ado os'.length cpo) os') := hn_start A6.out (g_grew OR.out H0.out.ltB H0.out.ltG (G2.out.trans (G3.out.trans (G4.out.trans (G5.out.trans G6.out))))) ⟨ad3, cp3, n3⟩ ⟨ad6, cp6, n6⟩ (N3.out.1.grew (G4.out.trans (G5.out.trans G6.out))) N6.out.1
        have hfl : (flatL (kdL [⟨ad3, cp3, n3⟩, ⟨ad6, cp6, n6⟩])).length ≤ n3.length + n6.length := by simp [flatL, kdL]
        go_wp2_with fail
        go_loopw [16, 17] (fun kv i wr => ∃ (i2 : Nat) (ls : List Kd) (s2 : Cn) (t2 c2 : Nat), i = .int .i64 i2 ∧ i2 ≤ os'.length ∧ Hid (Hn d (.slice ade es.length cpe) W s wr s2 t2 c2 kv ls (.slice ado os'.length cpo) os') ∧ Hid (c2 ≤ 30 + 40 * i2 ∧ ls.length = 2 + i2 ∧ (flatL (kdL ls)).length ≤ t2 + 3 + 8 * i2)) (fun _ i _ => os'.length - (intOf i).toNat)
        case atStart => exact ⟨0, [⟨ad3, cp3, n3⟩, ⟨ad6, cp6, n6⟩], _, _, _, rfl, Nat.zero_le _, HS, by omega, rfl, by have := N3.out.2; have := N6.out.2; have := N5.out.2; omega⟩
        case round =>
          obtain ⟨i2, ls, s2, t2, c2, rfl, hle2, HH, HB⟩ := hrel
          obtain ⟨adk, cpk, rfl⟩ := g_is HH.out.kids
          by_cases hj : (i2 : Int) < (os'.length : Int)
          · rename World => Y1
            have hc2 : c2 + 40 ≤ 190 := by have := HB.out; have := HOs.out.2; omega
            have AR := hid HH.out.at_
            obtain ⟨go, j, rfl, hjo, hgB, hgl, cj⟩ := ops_at HH.out.ops (i := i2) (by omega)
            have hjE : j < es.length := HOs.out.1 j hjo
            have HEr := hid (HEW.out.grew AR.out.2.1)
            obtain ⟨be, oe, xn, xa, xr, rfl, -, hbr, hqe, c0, c1, c2'⟩ := HEr.out.effs.at (i := j) hjE
            have HQ := hid (And.intro hqe (And.intro hbr (And.intro hgl (And.intro (show go ≠ d.B by have := H0.out.ltB; omega) (show go ≠ d.G by have := H0.out.ltG; omega)))))
            have HE := HEr
            have hj0 : (0 : Int) ≤ (j : Int) := by omega
            have hj1 : (j : Int) < (es.length : Int) := by omega
            have hi20 : (0 : Int) ≤ (i2 : Int) := by omega
            have hstep : os'.length - (intOf (.int .i64 ((i2 + 1 : Nat) : Int))).toNat < os'.length - (intOf (.int .i64 (i2 : Int))).toNat := lt_step hj
            clear hqe hbr hgl hgB hjE hjo
            go_upto_region 17 with fail
            refine pick_begin (S := fun w' => w'.cell? ⟨d.G, 1, none⟩ = some (.slice (some ⟨be, oe, none⟩) es.length cpe) ∧ w'.cell? ⟨go, i2, none⟩ = some (.int .i64 (j : Int)) ∧ w'.cell? ⟨be, oe + j * 3, none⟩ = some (.string xn) ∧ w'.cell? ⟨be, oe + j * 3 + 1, none⟩ = some (.int .i64 xa) ∧ w'.cell? ⟨be, oe + j * 3 + 2, none⟩ = some (.int .i64 xr)) (by kernel_rfl) rfl rfl ?_
            have A7 := hid AR.out.drew
            have G7 := hid (Grew.refl d Y1).drew
            generalize Y1.drew = X7 at *
            refine pick_op (i := 0) (v := .pointer (some ⟨d.G, 0, none⟩)) (by kernel_rfl) rfl (by kernel_rfl) (by kernel_rfl) rfl rfl (fun w' hw => by simp [go_sem]) ⟨A7.out.1.c1, ((G7.out.cell (p := ⟨go, i2, none⟩) ⟨HQ.out.2.2.1, HQ.out.2.2.2.1, HQ.out.2.2.2.2⟩).trans cj), ((G7.out.cell (p := ⟨be, oe + j * 3, none⟩) HQ.out.1).trans c0), ((G7.out.cell (p := ⟨be, oe + j * 3 + 1, none⟩) HQ.out.1).trans c1), ((G7.out.cell (p := ⟨be, oe + j * 3 + 2, none⟩) HQ.out.1).trans c2')⟩ (by simp [go_sem]; exact rfl) ?_
            refine pick_op (i := 1) (v := .pointer (some ⟨d.G, 0, none⟩)) (by kernel_rfl) rfl (by kernel_rfl) (by kernel_rfl) rfl rfl (fun w' hw => by simp [go_sem]) ⟨A7.out.1.c1, ((G7.out.cell (p := ⟨go, i2, none⟩) ⟨HQ.out.2.2.1, HQ.out.2.2.2.1, HQ.out.2.2.2.2⟩).trans cj), ((G7.out.cell (p := ⟨be, oe + j * 3, none⟩) HQ.out.1).trans c0), ((G7.out.cell (p := ⟨be, oe + j * 3 + 1, none⟩) HQ.out.1).trans c1), ((G7.out.cell (p := ⟨be, oe + j * 3 + 2, none⟩) HQ.out.1).trans c2')⟩ (by simp [go_sem]; exact rfl) ?_
            refine pick_op (i := 2) (v := .pointer (some ⟨d.G, 1, none⟩)) (by kernel_rfl) rfl (by kernel_rfl) (by kernel_rfl) rfl rfl (fun w' hw => by simp [go_sem]) ⟨A7.out.1.c1, ((G7.out.cell (p := ⟨go, i2, none⟩) ⟨HQ.out.2.2.1, HQ.out.2.2.2.1, HQ.out.2.2.2.2⟩).trans cj), ((G7.out.cell (p := ⟨be, oe + j * 3, none⟩) HQ.out.1).trans c0), ((G7.out.cell (p := ⟨be, oe + j * 3 + 1, none⟩) HQ.out.1).trans c1), ((G7.out.cell (p := ⟨be, oe + j * 3 + 2, none⟩) HQ.out.1).trans c2')⟩ (by simp [go_sem]; exact rfl) ?_
            refine pick_op (i := 3) (v := .slice (some ⟨be, oe, none⟩) es.length cpe) (by kernel_rfl) rfl (by kernel_rfl) (by kernel_rfl) rfl rfl (fun w' hw => by simp [go_sem, hw.1]) ⟨A7.out.1.c1, ((G7.out.cell (p := ⟨go, i2, none⟩) ⟨HQ.out.2.2.1, HQ.out.2.2.2.1, HQ.out.2.2.2.2⟩).trans cj), ((G7.out.cell (p := ⟨be, oe + j * 3, none⟩) HQ.out.1).trans c0), ((G7.out.cell (p := ⟨be, oe + j * 3 + 1, none⟩) HQ.out.1).trans c1), ((G7.out.cell (p := ⟨be, oe + j * 3 + 2, none⟩) HQ.out.1).trans c2')⟩ (by simp [go_sem]; exact rfl) ?_
            refine pick_op (i := 4) (v := (.slice (some ⟨go, 0, none⟩) os'.length cpo)) (by kernel_rfl) rfl (by kernel_rfl) (by kernel_rfl) rfl rfl (fun w' hw => by simp [go_sem]) ⟨A7.out.1.c1, ((G7.out.cell (p := ⟨go, i2, none⟩) ⟨HQ.out.2.2.1, HQ.out.2.2.2.1, HQ.out.2.2.2.2⟩).trans cj), ((G7.out.cell (p := ⟨be, oe + j * 3, none⟩) HQ.out.1).trans c0), ((G7.out.cell (p := ⟨be, oe + j * 3 + 1, none⟩) HQ.out.1).trans c1), ((G7.out.cell (p := ⟨be, oe + j * 3 + 2, none⟩) HQ.out.1).trans c2')⟩ (by simp [go_sem]; exact rfl) ?_
            refine pick_op (i := 5) (v := .int .i64 (i2 : Int)) (by kernel_rfl) rfl (by kernel_rfl) (by kernel_rfl) rfl rfl (fun w' hw => by simp [go_sem]) ⟨A7.out.1.c1, ((G7.out.cell (p := ⟨go, i2, none⟩) ⟨HQ.out.2.2.1, HQ.out.2.2.2.1, HQ.out.2.2.2.2⟩).trans cj), ((G7.out.cell (p := ⟨be, oe + j * 3, none⟩) HQ.out.1).trans c0), ((G7.out.cell (p := ⟨be, oe + j * 3 + 1, none⟩) HQ.out.1).trans c1), ((G7.out.cell (p := ⟨be, oe + j * 3 + 2, none⟩) HQ.out.1).trans c2')⟩ (by simp [go_sem]; exact rfl) ?_
            refine pick_op (i := 6) (v := .pointer (some ⟨go, i2, none⟩)) (by kernel_rfl) rfl (by kernel_rfl) (by kernel_rfl) rfl rfl (fun w' hw => by simp [go_sem, hi20, hj]) ⟨A7.out.1.c1, ((G7.out.cell (p := ⟨go, i2, none⟩) ⟨HQ.out.2.2.1, HQ.out.2.2.2.1, HQ.out.2.2.2.2⟩).trans cj), ((G7.out.cell (p := ⟨be, oe + j * 3, none⟩) HQ.out.1).trans c0), ((G7.out.cell (p := ⟨be, oe + j * 3 + 1, none⟩) HQ.out.1).trans c1), ((G7.out.cell (p := ⟨be, oe + j * 3 + 2, none⟩) HQ.out.1).trans c2')⟩ (by simp [go_sem]; exact rfl) ?_
            refine pick_op (i := 7) (v := .int .i64 (j : Int)) (by kernel_rfl) rfl (by kernel_rfl) (by kernel_rfl) rfl rfl (fun w' hw => by simp [go_sem, hw.2.1]) ⟨A7.out.1.c1, ((G7.out.cell (p := ⟨go, i2, none⟩) ⟨HQ.out.2.2.1, HQ.out.2.2.2.1, HQ.out.2.2.2.2⟩).trans cj), ((G7.out.cell (p := ⟨be, oe + j * 3, none⟩) HQ.out.1).trans c0), ((G7.out.cell (p := ⟨be, oe + j * 3 + 1, none⟩) HQ.out.1).trans c1), ((G7.out.cell (p := ⟨be, oe + j * 3 + 2, none⟩) HQ.out.1).trans c2')⟩ (by simp [go_sem]; exact rfl) ?_
            refine pick_op (i := 8) (v := .pointer (some ⟨be, oe + j * 3, none⟩)) (by kernel_rfl) rfl (by kernel_rfl) (by kernel_rfl) rfl rfl (fun w' hw => by simp [go_sem, hj0, hj1]) ⟨A7.out.1.c1, ((G7.out.cell (p := ⟨go, i2, none⟩) ⟨HQ.out.2.2.1, HQ.out.2.2.2.1, HQ.out.2.2.2.2⟩).trans cj), ((G7.out.cell (p := ⟨be, oe + j * 3, none⟩) HQ.out.1).trans c0), ((G7.out.cell (p := ⟨be, oe + j * 3 + 1, none⟩) HQ.out.1).trans c1), ((G7.out.cell (p := ⟨be, oe + j * 3 + 2, none⟩) HQ.out.1).trans c2')⟩ (by simp [go_sem]; exact rfl) ?_
            refine pick_op (i := 9) (v := .agg #[.string xn, .int .i64 xa, .int .i64 xr]) (by kernel_rfl) rfl (by kernel_rfl) (by kernel_rfl) rfl rfl (fun w' hw => by simp [go_sem, hw.2.2.1, hw.2.2.2.1, hw.2.2.2.2]) ⟨A7.out.1.c1, ((G7.out.cell (p := ⟨go, i2, none⟩) ⟨HQ.out.2.2.1, HQ.out.2.2.2.1, HQ.out.2.2.2.2⟩).trans cj), ((G7.out.cell (p := ⟨be, oe + j * 3, none⟩) HQ.out.1).trans c0), ((G7.out.cell (p := ⟨be, oe + j * 3 + 1, none⟩) HQ.out.1).trans c1), ((G7.out.cell (p := ⟨be, oe + j * 3 + 2, none⟩) HQ.out.1).trans c2')⟩ (by simp [go_sem]; exact rfl) ?_
            have A8 := hid (A7.out.alloc (.cells #[.string ⟨#[]⟩, .int .i64 0, .int .i64 0] 88))
            have G8 := hid ((Grew.refl d X7).alloc (.cells #[.string ⟨#[]⟩, .int .i64 0, .int .i64 0] 88))
            refine pick_make (i := 10) (v := .pointer (some ⟨X7.heap.size, 0, none⟩)) (w1 := X7.alloc (.cells #[.string ⟨#[]⟩, .int .i64 0, .int .i64 0] 88)) rfl (by kernel_rfl) rfl rfl (by simp [go_sem]) ⟨A8.out.1.c1, (((G7.out.trans G8.out).cell (p := ⟨go, i2, none⟩) ⟨HQ.out.2.2.1, HQ.out.2.2.2.1, HQ.out.2.2.2.2⟩).trans cj), (((G7.out.trans G8.out).cell (p := ⟨be, oe + j * 3, none⟩) HQ.out.1).trans c0), (((G7.out.trans G8.out).cell (p := ⟨be, oe + j * 3 + 1, none⟩) HQ.out.1).trans c1), (((G7.out.trans G8.out).cell (p := ⟨be, oe + j * 3 + 2, none⟩) HQ.out.1).trans c2')⟩ (by simp [go_sem]; exact rfl) ?_
            have EB := hid (boxW_heap X7 xn xa xr)
            have A9 := hid (A7.out.below (boxW_below X7 xn xa xr))
            have G9 : Hid (Grew d X7 (boxW X7 xn xa xr)) := Grew.of_below (boxW_below X7 xn xa xr)
            have HQ2 := hid (And.intro A7.out.1.ltB A7.out.1.ltG)
            refine pick_skip (i := 11) (w1 := boxW X7 xn xa xr) rfl rfl (by kernel_rfl) rfl rfl (by simp [go_sem, boxW]) ⟨A9.out.1.c1, (((G7.out.trans G9.out).cell (p := ⟨go, i2, none⟩) ⟨HQ.out.2.2.1, HQ.out.2.2.2.1, HQ.out.2.2.2.2⟩).trans cj), (((G7.out.trans G9.out).cell (p := ⟨be, oe + j * 3, none⟩) HQ.out.1).trans c0), (((G7.out.trans G9.out).cell (p := ⟨be, oe + j * 3 + 1, none⟩) HQ.out.1).trans c1), (((G7.out.trans G9.out).cell (p := ⟨be, oe + j * 3 + 2, none⟩) HQ.out.1).trans c2')⟩ ?_
            refine pick_end (by kernel_rfl) ?_
            obtain ⟨bq, hbq⟩ : ∃ q, X7.heap.size = q := ⟨_, rfl⟩
            generalize boxW X7 xn xa xr = X9 at *
            rw [hbq] at EB HQ2 ⊢
            clear hbq cj c0 c1 c2' A8 G8
            go_wp2_with fail
            refine (A9.out.name HF.out (by omega)).mono ?_
            rintro e X10 ⟨x10, s10, rfl, hb10, ha, hg⟩
            have A10 := hid ha
            have G10 := hid hg
            clear ha hg
            have B10 := hid hb10
            clear hb10
            go_wp2_with fail
            refine (A10.out.name HF.out (by omega)).mono ?_
            rintro e X11 ⟨x11, s11, rfl, hb11, ha, hg⟩
            have A11 := hid ha
            have G11 := hid hg
            clear ha hg
            have B11 := hid hb11
            clear hb11
            have ec := (((G10.out.trans G11.out)).cell (p := ⟨bq, 1, none⟩) ⟨heap_lt EB.out, (show bq ≠ d.B by have := HQ2.out.1; omega), (show bq ≠ d.G by have := HQ2.out.2; omega)⟩).trans (cell_of_heap EB.out 1)
            have ec : X11.cell? ⟨bq, 1, none⟩ = some (.int .i64 xa) := ec
            go_wp2_with fail
            refine (base_calls xa _).mono ?_
            rintro e W9 ⟨rfl, rfl⟩
            clear ec
            go_wp2_with fail
            refine (A11.out.add x10 xa 0 (HE.out.grew (G7.out.trans (G9.out.trans (G10.out.trans G11.out)))).know B10.out (by have := HE.out.room; omega)).mono ?_
            rintro e X12 ⟨u12, ks12, rfl, hk12, hkl12, ha, hg⟩
            have A12 := hid ha
            have G12 := hid hg
            clear ha hg
            have K12 := hid (And.intro hk12 hkl12)
            obtain ⟨ad12, cp12, rfl⟩ := hk12.is
            clear hk12 hkl12
            have g0 := A12.out.1.c0
            go_wp2_with fail
            refine (A12.out.pick HF.out (by omega) 6 (by decide)).mono ?_
            rintro e X13 ⟨m13, s13, rfl, hm13, hM13, ha, hg⟩
            have A13 := hid ha
            have G13 := hid hg
            clear ha hg
            clear g0
            by_cases hm6 : m13 = 0
            · subst hm6
              have ec := (((G10.out.trans (G11.out.trans (G12.out.trans G13.out)))).cell (p := ⟨bq, 2, none⟩) ⟨heap_lt EB.out, (show bq ≠ d.B by have := HQ2.out.1; omega), (show bq ≠ d.G by have := HQ2.out.2; omega)⟩).trans (cell_of_heap EB.out 2)
              have ec : X13.cell? ⟨bq, 2, none⟩ = some (.int .i64 xr) := ec
              go_wp2_with fail
              refine (base_calls xr _).mono ?_
              rintro e W9 ⟨rfl, rfl⟩
              clear ec
              go_wp2_with fail
              refine (A13.out.add x11 (wrap64 (10 + ty)) xr (K12.out.1.grew G13.out) B11.out (by have := HE.out.room; have := K12.out.2; omega)).mono ?_
              rintro e X14 ⟨u14, ks14, rfl, hk14, hkl14, ha, hg⟩
              have A14 := hid ha
              have G14 := hid hg
              clear ha hg
              have K14 := hid (And.intro hk14 hkl14)
              obtain ⟨ad14, cp14, rfl⟩ := hk14.is
              clear hk14 hkl14
              go_wp2_with fail
              refine (A14.out.nodes (HO.out deep ty _ _ _ _ _ _ (by have := HD.out; omega) (by have := HD.out; omega) (A14.out.fit HF.out 10 (by omega)) A14.out.1 ((HE.out.grew (G7.out.trans (G9.out.trans (G10.out.trans (G11.out.trans (G12.out.trans (G13.out.trans G14.out))))))).with K14.out.1 (by have := K12.out.2; have := K14.out.2; omega)))).mono ?_
              rintro e X15 ⟨v15, n15, s15, t15, rfl, hn15, hl15, ha, hg⟩
              have A15 := hid ha
              have G15 := hid hg
              clear ha hg
              have N15 := hid (And.intro hn15 hl15)
              obtain ⟨ad15, cp15, rfl⟩ := hn15.is
              clear hn15 hl15
              have ec := (((G10.out.trans (G11.out.trans (G12.out.trans (G13.out.trans (G14.out.trans G15.out)))))).cell (p := ⟨bq, 0, none⟩) ⟨heap_lt EB.out, (show bq ≠ d.B by have := HQ2.out.1; omega), (show bq ≠ d.G by have := HQ2.out.2; omega)⟩).trans (cell_of_heap EB.out 0)
              have ec : X15.cell? ⟨bq, 0, none⟩ = some (.string xn) := ec
              go_wp2_with fail
              refine (A15.out.put1 26 0 0 xn x10 x11 N15.out.1 ⟨HQ.out.2.1, B10.out, B11.out⟩ (by have := A15.out.bound HF.out (by omega) (by decide); have := N15.out.2; omega)).mono ?_
              rintro e X16 ⟨v16, n16, rfl, hn16, hl16, ha, hg⟩
              have A16 := hid ha
              have G16 := hid hg
              clear ha hg
              have N16 := hid (And.intro hn16 hl16)
              obtain ⟨ad16, cp16, rfl⟩ := hn16.is
              clear hn16 hl16
              clear ec
              have HFl : Hid ((flatL (kdL (ls ++ [⟨ad16, cp16, n16⟩]))).length = (flatL (kdL ls)).length + n16.length) := by show _ = _; simp [flatL, kdL]
              have HLL : Hid (ls.length ≤ 1000) := by show _ ≤ _; have := HB.out; have := HOs.out.2; omega
              go_wp2_with (at_builtin; refine wpList_append_by rfl _ _ 113 rfl _ _ rfl rfl (fun ty_ => HH.out.app H0.out A16.out (G7.out.trans (G9.out.trans (G10.out.trans (G11.out.trans (G12.out.trans (G13.out.trans (G14.out.trans (G15.out.trans G16.out)))))))) ⟨ad16, cp16, n16⟩ N16.out.1 HLL.out ty_) ?_; intro vq Xq hvq; have HQQ := hid hvq; clear hvq)
              rw [wrap_succ (by have := HOs.out.2; omega)]
              exact ⟨⟨i2 + 1, ls ++ [⟨ad16, cp16, n16⟩], _, _, _, rfl, by omega, HQQ, by have := HB.out; omega, by have := HB.out; simp; omega, by have := HB.out; have := HFl.out; have := N16.out.2; have := N15.out.2; omega⟩, hstep⟩
            · have z6 : (m13 == 0) = false := by simp [hm6]
              go_wp2_with fail
              refine (A13.out.nodes (HO.out deep ty _ _ _ _ _ _ (by have := HD.out; omega) (by have := HD.out; omega) (A13.out.fit HF.out 10 (by omega)) A13.out.1 ((HE.out.grew (G7.out.trans (G9.out.trans (G10.out.trans (G11.out.trans (G12.out.trans G13.out)))))).with (K12.out.1.grew G13.out) (by have := K12.out.2; omega)))).mono ?_
              rintro e X14 ⟨v14, n14, s14, t14, rfl, hn14, hl14, ha, hg⟩
              have A14 := hid ha
              have G14 := hid hg
              clear ha hg
              have N14 := hid (And.intro hn14 hl14)
              obtain ⟨ad14, cp14, rfl⟩ := hn14.is
              clear hn14 hl14
              have ec := (((G10.out.trans (G11.out.trans (G12.out.trans (G13.out.trans G14.out))))).cell (p := ⟨bq, 0, none⟩) ⟨heap_lt EB.out, (show bq ≠ d.B by have := HQ2.out.1; omega), (show bq ≠ d.G by have := HQ2.out.2; omega)⟩).trans (cell_of_heap EB.out 0)
              have ec : X14.cell? ⟨bq, 0, none⟩ = some (.string xn) := ec
              go_wp2_with fail
              refine (A14.out.put1 26 0 0 xn x10 x11 N14.out.1 ⟨HQ.out.2.1, B10.out, B11.out⟩ (by have := A14.out.bound HF.out (by omega) (by decide); have := N14.out.2; omega)).mono ?_
              rintro e X15 ⟨v15, n15, rfl, hn15, hl15, ha, hg⟩
              have A15 := hid ha
              have G15 := hid hg
              clear ha hg
              have N15 := hid (And.intro hn15 hl15)
              obtain ⟨ad15, cp15, rfl⟩ := hn15.is
              clear hn15 hl15
              clear ec
              have HFl : Hid ((flatL (kdL (ls ++ [⟨ad15, cp15, n15⟩]))).length = (flatL (kdL ls)).length + n15.length) := by show _ = _; simp [flatL, kdL]
              have HLL : Hid (ls.length ≤ 1000) := by show _ ≤ _; have := HB.out; have := HOs.out.2; omega
              go_wp2_with (at_builtin; refine wpList_append_by rfl _ _ 113 rfl _ _ rfl rfl (fun ty_ => HH.out.app H0.out A15.out (G7.out.trans (G9.out.trans (G10.out.trans (G11.out.trans (G12.out.trans (G13.out.trans (G14.out.trans G15.out))))))) ⟨ad15, cp15, n15⟩ N15.out.1 HLL.out ty_) ?_; intro vq Xq hvq; have HQQ := hid hvq; clear hvq)
              rw [wrap_succ (by have := HOs.out.2; omega)]
              exact ⟨⟨i2 + 1, ls ++ [⟨ad15, cp15, n15⟩], _, _, _, rfl, by omega, HQQ, by have := HB.out; omega, by have := HB.out; simp; omega, by have := HB.out; have := HFl.out; have := N15.out.2; have := N14.out.2; omega⟩, hstep⟩
          · have e2 : i2 = os'.length := by omega
            have hb4 := HOs.out.2
            have hcz : c2 ≤ 190 ∧ (flatL (kdL ls)).length ≤ t2 + 35 := by have := HB.out; omega
            have AZ := hid HH.out.at_
            have HKZ := hid (kids_own HH.out.kids H0.out.ltB H0.out.ltG HH.out.nodes)
            go_wp2_with fail
            refine (AZ.out.put_kids 24 0 0 ⟨#[]⟩ ⟨#[]⟩ ⟨#[]⟩ HKZ.out ⟨brief_none, brief_none, brief_none⟩ (by simp [kdL]; have := HB.out; omega) (by have := AZ.out.bound HF.out (by omega) (by decide); omega)).mono ?_
            rintro e XZ ⟨vz, nz, rfl, hnz, hlz, haz, hgz⟩
            have NZ := hid (And.intro haz (And.intro hnz hlz))
            clear haz hnz hlz hgz
            go_wp2_with fail
            go_ret
            exact NZ.out.1.done 36 NZ.out.2.1 (by have := NZ.out.2.2; omega) (by omega)
  · have z0 : (m1 == 0) = false := by simp; omega
    have bs := hid (bo_start (W := W) (X := X1) A1.out.2.1.size)
    go_wp2_with (at_builtin; refine wpList_append_by rfl _ _ 80 rfl _ _ rfl rfl (fun ty => app_row (d := d) bo_one Try.underlying80 hbi hb0 hb1 hb2 rfl (by decide) (by decide) bs.out (bools_lies ((HE.out.grew G1.out).may.grew ((Grew.refl d X1).alloc _))) (by have := HL.out; simp; omega) (by have := A1.out.2.1.size; simp; omega) ty) ?_; intro vi Xi hvi; have AI := hid (And.intro ((A1.out.alloc _).own H0.out hvi.2 (fun g hg => (bs.out.lt g hg).1)) hvi.1); clear hvi)
    rw [List.nil_append] at AI
    obtain ⟨adi, cpi, rfl⟩ := g_is AI.out.2
    have P0 : Hid (Pk d (.slice ade es.length cpe) W s Xi _ _ _ (.slice adi ms.length cpi) ms (.slice none 0 0) [] es.length) := ⟨AI.out.1, AI.out.2, World.ownsRow_nil _ _ _ _, HL.out.2, fun j hj => by simp at hj, by simp⟩
    clear bs AI
    go_loopw [13, 14] (fun o i wr => ∃ (i' : Nat) (ms' : List Bool) (os' : List Nat) (s' : Cn) (t' c' : Nat), i = .int .i64 i' ∧ i' ≤ es.length ∧ Hid (Pk d (.slice ade es.length cpe) W s wr s' t' c' (.slice adi ms.length cpi) ms' o os' es.length) ∧ Hid (c' ≤ 1 + i')) (fun _ i _ => es.length - (intOf i).toNat)
    case atStart => exact ⟨0, ms, [], _, _, _, rfl, Nat.zero_le _, P0, by show _ ≤ _; omega⟩
    case round =>
      obtain ⟨i', ms', os', s', t', c', rfl, hle, HP, HC⟩ := hrel
      obtain ⟨ado, cpo, rfl⟩ := g_is HP.out.ops
      have g0 := HP.out.at_.1.c0
      have g1 := HP.out.at_.1.c1
      by_cases hi : (i' : Int) < (es.length : Int)
      · obtain ⟨g, cap, u, hv, -, -, -⟩ := HP.out.set H0.out i' (by omega)
        simp only [Value.slice.injEq] at hv
        obtain ⟨rfl, -, rfl⟩ := hv
        have hi0 : (0 : Int) ≤ (i' : Int) := by omega
        have hi2 : (i' : Int) < (ms.length : Int) := by have := HL.out.2; omega
        have hstep : es.length - (intOf (.int .i64 ((i' + 1 : Nat) : Int))).toNat < es.length - (intOf (.int .i64 (i' : Int))).toNat := lt_step hi
        go_wp2_with fail
        refine (HP.out.at_.pick HF.out (by have := HC.out; have := HL.out.1; omega) 2 (by decide)).mono ?_
        rintro e X2 ⟨m, s2, rfl, hm0, hm1, ha, hg⟩
        have HP2 := hid (HP.out.grew H0.out ha hg)
        clear ha hg g0 g1 HP P0
        by_cases hm : m = 0
        · subst hm
          by_cases hf : (os'.length : Int) < 4
          · go_wp2_with (at_builtin; refine wpList_append_by rfl _ _ 40 rfl _ _ rfl rfl (fun ty => HP2.out.app H0.out i' (by omega) (by omega) ty) ?_; intro v3 X3 hv3; obtain ⟨ad3, cp3, hv9⟩ := g_is hv3.ops; rw [show (os' ++ [i']).length = os'.length + 1 by simp] at hv9; subst hv9; obtain ⟨g', cap', u', hv', hcu, hfu, hset⟩ := hv3.set H0.out i' (by omega); have HP4 := hid hset; simp only [Value.slice.injEq, Option.some.injEq, Addr.mk.injEq] at hv'; obtain ⟨⟨rfl, -⟩, -, rfl⟩ := hv'; clear hv3 hset)
            rw [wrap_succ (by have := HL.out.1; omega)]
            exact ⟨⟨i' + 1, _, _, s2, t' + 1, c' + 1, rfl, by omega, HP4, by show _ ≤ _; have := HC.out; omega⟩, hstep⟩
          · go_wp2_with fail
            rw [wrap_succ (by have := HL.out.1; omega)]
            exact ⟨⟨i' + 1, _, _, s2, t' + 1, c' + 1, rfl, by omega, HP2, by show _ ≤ _; have := HC.out; omega⟩, hstep⟩
        · have hz : (m == 0) = false := by simp [hm]
          go_wp2_with fail
          rw [wrap_succ (by have := HL.out.1; omega)]
          exact ⟨⟨i' + 1, _, _, s2, t' + 1, c' + 1, rfl, by omega, HP2, by show _ ≤ _; have := HC.out; omega⟩, hstep⟩
      · have ei : i' = es.length := by omega
        have hc5 : c' ≤ 5 := by have := HC.out; have := HL.out.1; omega
        have AH := hid HP.out.at_
        have HE2 := hid (HE.out.grew AH.out.2.1)
        have MI := hid (And.intro (bools_own (d := d) HP.out.may H0.out.ltB H0.out.ltG) HP.out.len)
        have HOs := hid (And.intro HP.out.lt HP.out.few)
        have OR := hid HP.out.ops
        clear HE HP P0 HC ei
        have HE := HE2
        clear HE2
        rename World => Y0
        go_wp2_with fail
        refine (AH.out.name HF.out (by omega)).mono ?_
        rintro e X2 ⟨x2, s2, rfl, hb2, ha, hg⟩
        have A2 := hid ha
        have G2 := hid hg
        clear ha hg
        have B2 := hid hb2
        clear hb2
        clear g0 g1
        go_wp2_with fail
        refine (A2.out.nodes (HO.out deep ty _ _ _ _ _ _ (by have := HD.out; omega) (by have := HD.out; omega) (A2.out.fit HF.out 10 (by omega)) A2.out.1 ((HE.out.grew G2.out).let (MI.out.1.grew G2.out) MI.out.2))).mono ?_
        rintro e X3 ⟨v3, n3, s3, t3, rfl, hn3, hl3, ha, hg⟩
        have A3 := hid ha
        have G3 := hid hg
        clear ha hg
        have N3 := hid (And.intro hn3 hl3)
        obtain ⟨ad3, cp3, rfl⟩ := hn3.is
        clear hn3 hl3
        go_wp2_with fail
        refine (A3.out.add x2 ty 0 (HE.out.grew (G2.out.trans G3.out)).know B2.out (by have := HE.out.room; omega)).mono ?_
        rintro e X4 ⟨u4, ks4, rfl, hk4, hkl4, ha, hg⟩
        have A4 := hid ha
        have G4 := hid hg
        clear ha hg
        have K4 := hid (And.intro hk4 hkl4)
        obtain ⟨ad4, cp4, rfl⟩ := hk4.is
        clear hk4 hkl4
        go_wp2_with fail
        refine (A4.out.nodes (HO.out deep ty _ _ _ _ _ _ (by have := HD.out; omega) (by have := HD.out; omega) (A4.out.fit HF.out 10 (by omega)) A4.out.1 ((HE.out.grew (G2.out.trans (G3.out.trans G4.out))).with K4.out.1 (by have := K4.out.2; omega)))).mono ?_
        rintro e X5 ⟨v5, n5, s5, t5, rfl, hn5, hl5, ha, hg⟩
        have A5 := hid ha
        have G5 := hid hg
        clear ha hg
        have N5 := hid (And.intro hn5 hl5)
        obtain ⟨ad5, cp5, rfl⟩ := hn5.is
        clear hn5 hl5
        go_wp2_with fail
        refine (A5.out.put1 25 0 0 x2 ByteArray.empty ByteArray.empty N5.out.1 ⟨B2.out, brief_none, brief_none⟩ (by have := A5.out.bound HF.out (by omega) (by decide); have := N5.out.2; omega)).mono ?_
        rintro e X6 ⟨v6, n6, rfl, hn6, hl6, ha, hg⟩
        have A6 := hid ha
        have G6 := hid hg
        clear ha hg
        have N6 := hid (And.intro hn6 hl6)
        obtain ⟨ad6, cp6, rfl⟩ := hn6.is
        clear hn6 hl6
        have HS : Hid (Hn d (.slice ade es.length cpe) W s (X6.alloc (.cells #[.slice ad3 n3.length cp3, .slice ad6 n6.length cp6] 53)) _ _ _ (.slice (some ⟨X6.heap.size, 0, none⟩) 2 2) [⟨ad3, cp3, n3⟩, ⟨ad6, cp6, n6⟩] (.slice ado os'.length cpo) os') := hn_start A6.out (g_grew OR.out H0.out.ltB H0.out.ltG (G2.out.trans (G3.out.trans (G4.out.trans (G5.out.trans G6.out))))) ⟨ad3, cp3, n3⟩ ⟨ad6, cp6, n6⟩ (N3.out.1.grew (G4.out.trans (G5.out.trans G6.out))) N6.out.1
        have hfl : (flatL (kdL [⟨ad3, cp3, n3⟩, ⟨ad6, cp6, n6⟩])).length ≤ n3.length + n6.length := by simp [flatL, kdL]
        go_wp2_with fail
        go_loopw [16, 17] (fun kv i wr => ∃ (i2 : Nat) (ls : List Kd) (s2 : Cn) (t2 c2 : Nat), i = .int .i64 i2 ∧ i2 ≤ os'.length ∧ Hid (Hn d (.slice ade es.length cpe) W s wr s2 t2 c2 kv ls (.slice ado os'.length cpo) os') ∧ Hid (c2 ≤ 30 + 40 * i2 ∧ ls.length = 2 + i2 ∧ (flatL (kdL ls)).length ≤ t2 + 3 + 8 * i2)) (fun _ i _ => os'.length - (intOf i).toNat)
        case atStart => exact ⟨0, [⟨ad3, cp3, n3⟩, ⟨ad6, cp6, n6⟩], _, _, _, rfl, Nat.zero_le _, HS, by omega, rfl, by have := N3.out.2; have := N6.out.2; have := N5.out.2; omega⟩
        case round =>
          obtain ⟨i2, ls, s2, t2, c2, rfl, hle2, HH, HB⟩ := hrel
          obtain ⟨adk, cpk, rfl⟩ := g_is HH.out.kids
          by_cases hj : (i2 : Int) < (os'.length : Int)
          · rename World => Y1
            have hc2 : c2 + 40 ≤ 190 := by have := HB.out; have := HOs.out.2; omega
            have AR := hid HH.out.at_
            obtain ⟨go, j, rfl, hjo, hgB, hgl, cj⟩ := ops_at HH.out.ops (i := i2) (by omega)
            have hjE : j < es.length := HOs.out.1 j hjo
            have HEr := hid (HEW.out.grew AR.out.2.1)
            obtain ⟨be, oe, xn, xa, xr, rfl, -, hbr, hqe, c0, c1, c2'⟩ := HEr.out.effs.at (i := j) hjE
            have HQ := hid (And.intro hqe (And.intro hbr (And.intro hgl (And.intro (show go ≠ d.B by have := H0.out.ltB; omega) (show go ≠ d.G by have := H0.out.ltG; omega)))))
            have HE := HEr
            have hj0 : (0 : Int) ≤ (j : Int) := by omega
            have hj1 : (j : Int) < (es.length : Int) := by omega
            have hi20 : (0 : Int) ≤ (i2 : Int) := by omega
            have hstep : os'.length - (intOf (.int .i64 ((i2 + 1 : Nat) : Int))).toNat < os'.length - (intOf (.int .i64 (i2 : Int))).toNat := lt_step hj
            clear hqe hbr hgl hgB hjE hjo
            go_upto_region 17 with fail
            refine pick_begin (S := fun w' => w'.cell? ⟨d.G, 1, none⟩ = some (.slice (some ⟨be, oe, none⟩) es.length cpe) ∧ w'.cell? ⟨go, i2, none⟩ = some (.int .i64 (j : Int)) ∧ w'.cell? ⟨be, oe + j * 3, none⟩ = some (.string xn) ∧ w'.cell? ⟨be, oe + j * 3 + 1, none⟩ = some (.int .i64 xa) ∧ w'.cell? ⟨be, oe + j * 3 + 2, none⟩ = some (.int .i64 xr)) (by kernel_rfl) rfl rfl ?_
            have A7 := hid AR.out.drew
            have G7 := hid (Grew.refl d Y1).drew
            generalize Y1.drew = X7 at *
            refine pick_op (i := 0) (v := .pointer (some ⟨d.G, 0, none⟩)) (by kernel_rfl) rfl (by kernel_rfl) (by kernel_rfl) rfl rfl (fun w' hw => by simp [go_sem]) ⟨A7.out.1.c1, ((G7.out.cell (p := ⟨go, i2, none⟩) ⟨HQ.out.2.2.1, HQ.out.2.2.2.1, HQ.out.2.2.2.2⟩).trans cj), ((G7.out.cell (p := ⟨be, oe + j * 3, none⟩) HQ.out.1).trans c0), ((G7.out.cell (p := ⟨be, oe + j * 3 + 1, none⟩) HQ.out.1).trans c1), ((G7.out.cell (p := ⟨be, oe + j * 3 + 2, none⟩) HQ.out.1).trans c2')⟩ (by simp [go_sem]; exact rfl) ?_
            refine pick_op (i := 1) (v := .pointer (some ⟨d.G, 0, none⟩)) (by kernel_rfl) rfl (by kernel_rfl) (by kernel_rfl) rfl rfl (fun w' hw => by simp [go_sem]) ⟨A7.out.1.c1, ((G7.out.cell (p := ⟨go, i2, none⟩) ⟨HQ.out.2.2.1, HQ.out.2.2.2.1, HQ.out.2.2.2.2⟩).trans cj), ((G7.out.cell (p := ⟨be, oe + j * 3, none⟩) HQ.out.1).trans c0), ((G7.out.cell (p := ⟨be, oe + j * 3 + 1, none⟩) HQ.out.1).trans c1), ((G7.out.cell (p := ⟨be, oe + j * 3 + 2, none⟩) HQ.out.1).trans c2')⟩ (by simp [go_sem]; exact rfl) ?_
            refine pick_op (i := 2) (v := .pointer (some ⟨d.G, 1, none⟩)) (by kernel_rfl) rfl (by kernel_rfl) (by kernel_rfl) rfl rfl (fun w' hw => by simp [go_sem]) ⟨A7.out.1.c1, ((G7.out.cell (p := ⟨go, i2, none⟩) ⟨HQ.out.2.2.1, HQ.out.2.2.2.1, HQ.out.2.2.2.2⟩).trans cj), ((G7.out.cell (p := ⟨be, oe + j * 3, none⟩) HQ.out.1).trans c0), ((G7.out.cell (p := ⟨be, oe + j * 3 + 1, none⟩) HQ.out.1).trans c1), ((G7.out.cell (p := ⟨be, oe + j * 3 + 2, none⟩) HQ.out.1).trans c2')⟩ (by simp [go_sem]; exact rfl) ?_
            refine pick_op (i := 3) (v := .slice (some ⟨be, oe, none⟩) es.length cpe) (by kernel_rfl) rfl (by kernel_rfl) (by kernel_rfl) rfl rfl (fun w' hw => by simp [go_sem, hw.1]) ⟨A7.out.1.c1, ((G7.out.cell (p := ⟨go, i2, none⟩) ⟨HQ.out.2.2.1, HQ.out.2.2.2.1, HQ.out.2.2.2.2⟩).trans cj), ((G7.out.cell (p := ⟨be, oe + j * 3, none⟩) HQ.out.1).trans c0), ((G7.out.cell (p := ⟨be, oe + j * 3 + 1, none⟩) HQ.out.1).trans c1), ((G7.out.cell (p := ⟨be, oe + j * 3 + 2, none⟩) HQ.out.1).trans c2')⟩ (by simp [go_sem]; exact rfl) ?_
            refine pick_op (i := 4) (v := (.slice (some ⟨go, 0, none⟩) os'.length cpo)) (by kernel_rfl) rfl (by kernel_rfl) (by kernel_rfl) rfl rfl (fun w' hw => by simp [go_sem]) ⟨A7.out.1.c1, ((G7.out.cell (p := ⟨go, i2, none⟩) ⟨HQ.out.2.2.1, HQ.out.2.2.2.1, HQ.out.2.2.2.2⟩).trans cj), ((G7.out.cell (p := ⟨be, oe + j * 3, none⟩) HQ.out.1).trans c0), ((G7.out.cell (p := ⟨be, oe + j * 3 + 1, none⟩) HQ.out.1).trans c1), ((G7.out.cell (p := ⟨be, oe + j * 3 + 2, none⟩) HQ.out.1).trans c2')⟩ (by simp [go_sem]; exact rfl) ?_
            refine pick_op (i := 5) (v := .int .i64 (i2 : Int)) (by kernel_rfl) rfl (by kernel_rfl) (by kernel_rfl) rfl rfl (fun w' hw => by simp [go_sem]) ⟨A7.out.1.c1, ((G7.out.cell (p := ⟨go, i2, none⟩) ⟨HQ.out.2.2.1, HQ.out.2.2.2.1, HQ.out.2.2.2.2⟩).trans cj), ((G7.out.cell (p := ⟨be, oe + j * 3, none⟩) HQ.out.1).trans c0), ((G7.out.cell (p := ⟨be, oe + j * 3 + 1, none⟩) HQ.out.1).trans c1), ((G7.out.cell (p := ⟨be, oe + j * 3 + 2, none⟩) HQ.out.1).trans c2')⟩ (by simp [go_sem]; exact rfl) ?_
            refine pick_op (i := 6) (v := .pointer (some ⟨go, i2, none⟩)) (by kernel_rfl) rfl (by kernel_rfl) (by kernel_rfl) rfl rfl (fun w' hw => by simp [go_sem, hi20, hj]) ⟨A7.out.1.c1, ((G7.out.cell (p := ⟨go, i2, none⟩) ⟨HQ.out.2.2.1, HQ.out.2.2.2.1, HQ.out.2.2.2.2⟩).trans cj), ((G7.out.cell (p := ⟨be, oe + j * 3, none⟩) HQ.out.1).trans c0), ((G7.out.cell (p := ⟨be, oe + j * 3 + 1, none⟩) HQ.out.1).trans c1), ((G7.out.cell (p := ⟨be, oe + j * 3 + 2, none⟩) HQ.out.1).trans c2')⟩ (by simp [go_sem]; exact rfl) ?_
            refine pick_op (i := 7) (v := .int .i64 (j : Int)) (by kernel_rfl) rfl (by kernel_rfl) (by kernel_rfl) rfl rfl (fun w' hw => by simp [go_sem, hw.2.1]) ⟨A7.out.1.c1, ((G7.out.cell (p := ⟨go, i2, none⟩) ⟨HQ.out.2.2.1, HQ.out.2.2.2.1, HQ.out.2.2.2.2⟩).trans cj), ((G7.out.cell (p := ⟨be, oe + j * 3, none⟩) HQ.out.1).trans c0), ((G7.out.cell (p := ⟨be, oe + j * 3 + 1, none⟩) HQ.out.1).trans c1), ((G7.out.cell (p := ⟨be, oe + j * 3 + 2, none⟩) HQ.out.1).trans c2')⟩ (by simp [go_sem]; exact rfl) ?_
            refine pick_op (i := 8) (v := .pointer (some ⟨be, oe + j * 3, none⟩)) (by kernel_rfl) rfl (by kernel_rfl) (by kernel_rfl) rfl rfl (fun w' hw => by simp [go_sem, hj0, hj1]) ⟨A7.out.1.c1, ((G7.out.cell (p := ⟨go, i2, none⟩) ⟨HQ.out.2.2.1, HQ.out.2.2.2.1, HQ.out.2.2.2.2⟩).trans cj), ((G7.out.cell (p := ⟨be, oe + j * 3, none⟩) HQ.out.1).trans c0), ((G7.out.cell (p := ⟨be, oe + j * 3 + 1, none⟩) HQ.out.1).trans c1), ((G7.out.cell (p := ⟨be, oe + j * 3 + 2, none⟩) HQ.out.1).trans c2')⟩ (by simp [go_sem]; exact rfl) ?_
            refine pick_op (i := 9) (v := .agg #[.string xn, .int .i64 xa, .int .i64 xr]) (by kernel_rfl) rfl (by kernel_rfl) (by kernel_rfl) rfl rfl (fun w' hw => by simp [go_sem, hw.2.2.1, hw.2.2.2.1, hw.2.2.2.2]) ⟨A7.out.1.c1, ((G7.out.cell (p := ⟨go, i2, none⟩) ⟨HQ.out.2.2.1, HQ.out.2.2.2.1, HQ.out.2.2.2.2⟩).trans cj), ((G7.out.cell (p := ⟨be, oe + j * 3, none⟩) HQ.out.1).trans c0), ((G7.out.cell (p := ⟨be, oe + j * 3 + 1, none⟩) HQ.out.1).trans c1), ((G7.out.cell (p := ⟨be, oe + j * 3 + 2, none⟩) HQ.out.1).trans c2')⟩ (by simp [go_sem]; exact rfl) ?_
            have A8 := hid (A7.out.alloc (.cells #[.string ⟨#[]⟩, .int .i64 0, .int .i64 0] 88))
            have G8 := hid ((Grew.refl d X7).alloc (.cells #[.string ⟨#[]⟩, .int .i64 0, .int .i64 0] 88))
            refine pick_make (i := 10) (v := .pointer (some ⟨X7.heap.size, 0, none⟩)) (w1 := X7.alloc (.cells #[.string ⟨#[]⟩, .int .i64 0, .int .i64 0] 88)) rfl (by kernel_rfl) rfl rfl (by simp [go_sem]) ⟨A8.out.1.c1, (((G7.out.trans G8.out).cell (p := ⟨go, i2, none⟩) ⟨HQ.out.2.2.1, HQ.out.2.2.2.1, HQ.out.2.2.2.2⟩).trans cj), (((G7.out.trans G8.out).cell (p := ⟨be, oe + j * 3, none⟩) HQ.out.1).trans c0), (((G7.out.trans G8.out).cell (p := ⟨be, oe + j * 3 + 1, none⟩) HQ.out.1).trans c1), (((G7.out.trans G8.out).cell (p := ⟨be, oe + j * 3 + 2, none⟩) HQ.out.1).trans c2')⟩ (by simp [go_sem]; exact rfl) ?_
            have EB := hid (boxW_heap X7 xn xa xr)
            have A9 := hid (A7.out.below (boxW_below X7 xn xa xr))
            have G9 : Hid (Grew d X7 (boxW X7 xn xa xr)) := Grew.of_below (boxW_below X7 xn xa xr)
            have HQ2 := hid (And.intro A7.out.1.ltB A7.out.1.ltG)
            refine pick_skip (i := 11) (w1 := boxW X7 xn xa xr) rfl rfl (by kernel_rfl) rfl rfl (by simp [go_sem, boxW]) ⟨A9.out.1.c1, (((G7.out.trans G9.out).cell (p := ⟨go, i2, none⟩) ⟨HQ.out.2.2.1, HQ.out.2.2.2.1, HQ.out.2.2.2.2⟩).trans cj), (((G7.out.trans G9.out).cell (p := ⟨be, oe + j * 3, none⟩) HQ.out.1).trans c0), (((G7.out.trans G9.out).cell (p := ⟨be, oe + j * 3 + 1, none⟩) HQ.out.1).trans c1), (((G7.out.trans G9.out).cell (p := ⟨be, oe + j * 3 + 2, none⟩) HQ.out.1).trans c2')⟩ ?_
            refine pick_end (by kernel_rfl) ?_
            obtain ⟨bq, hbq⟩ : ∃ q, X7.heap.size = q := ⟨_, rfl⟩
            generalize boxW X7 xn xa xr = X9 at *
            rw [hbq] at EB HQ2 ⊢
            clear hbq cj c0 c1 c2' A8 G8
            go_wp2_with fail
            refine (A9.out.name HF.out (by omega)).mono ?_
            rintro e X10 ⟨x10, s10, rfl, hb10, ha, hg⟩
            have A10 := hid ha
            have G10 := hid hg
            clear ha hg
            have B10 := hid hb10
            clear hb10
            go_wp2_with fail
            refine (A10.out.name HF.out (by omega)).mono ?_
            rintro e X11 ⟨x11, s11, rfl, hb11, ha, hg⟩
            have A11 := hid ha
            have G11 := hid hg
            clear ha hg
            have B11 := hid hb11
            clear hb11
            have ec := (((G10.out.trans G11.out)).cell (p := ⟨bq, 1, none⟩) ⟨heap_lt EB.out, (show bq ≠ d.B by have := HQ2.out.1; omega), (show bq ≠ d.G by have := HQ2.out.2; omega)⟩).trans (cell_of_heap EB.out 1)
            have ec : X11.cell? ⟨bq, 1, none⟩ = some (.int .i64 xa) := ec
            go_wp2_with fail
            refine (base_calls xa _).mono ?_
            rintro e W9 ⟨rfl, rfl⟩
            clear ec
            go_wp2_with fail
            refine (A11.out.add x10 xa 0 (HE.out.grew (G7.out.trans (G9.out.trans (G10.out.trans G11.out)))).know B10.out (by have := HE.out.room; omega)).mono ?_
            rintro e X12 ⟨u12, ks12, rfl, hk12, hkl12, ha, hg⟩
            have A12 := hid ha
            have G12 := hid hg
            clear ha hg
            have K12 := hid (And.intro hk12 hkl12)
            obtain ⟨ad12, cp12, rfl⟩ := hk12.is
            clear hk12 hkl12
            have ec := (((G10.out.trans (G11.out.trans G12.out))).cell (p := ⟨bq, 2, none⟩) ⟨heap_lt EB.out, (show bq ≠ d.B by have := HQ2.out.1; omega), (show bq ≠ d.G by have := HQ2.out.2; omega)⟩).trans (cell_of_heap EB.out 2)
            have ec : X12.cell? ⟨bq, 2, none⟩ = some (.int .i64 xr) := ec
            go_wp2_with fail
            refine (base_calls xr _).mono ?_
            rintro e W9 ⟨rfl, rfl⟩
            clear ec
            go_wp2_with fail
            refine (A12.out.add x11 (wrap64 (10 + ty)) xr K12.out.1 B11.out (by have := HE.out.room; have := K12.out.2; omega)).mono ?_
            rintro e X13 ⟨u13, ks13, rfl, hk13, hkl13, ha, hg⟩
            have A13 := hid ha
            have G13 := hid hg
            clear ha hg
            have K13 := hid (And.intro hk13 hkl13)
            obtain ⟨ad13, cp13, rfl⟩ := hk13.is
            clear hk13 hkl13
            go_wp2_with fail
            refine (A13.out.nodes (HO.out deep ty _ _ _ _ _ _ (by have := HD.out; omega) (by have := HD.out; omega) (A13.out.fit HF.out 10 (by omega)) A13.out.1 ((HE.out.grew (G7.out.trans (G9.out.trans (G10.out.trans (G11.out.trans (G12.out.trans G13.out)))))).with K13.out.1 (by have := K12.out.2; have := K13.out.2; omega)))).mono ?_
            rintro e X14 ⟨v14, n14, s14, t14, rfl, hn14, hl14, ha, hg⟩
            have A14 := hid ha
            have G14 := hid hg
            clear ha hg
            have N14 := hid (And.intro hn14 hl14)
            obtain ⟨ad14, cp14, rfl⟩ := hn14.is
            clear hn14 hl14
            have g0 := A14.out.1.c0
            go_wp2_with fail
            refine (A14.out.pick HF.out (by omega) 3 (by decide)).mono ?_
            rintro e X15 ⟨m15, s15, rfl, hm15, hM15, ha, hg⟩
            have A15 := hid ha
            have G15 := hid hg
            clear ha hg
            clear g0
            by_cases hm3 : 0 < m15
            · have N16 := hid (And.intro (nd_lit_at (d := d) X15 ⟨5, 0, x11, ByteArray.empty, ByteArray.empty, 0⟩ (X15.heap.size) (by simp) A15.out.1.ltB A15.out.1.ltG ⟨B11.out, brief_none, brief_none⟩) (show [(⟨5, 0, x11, ByteArray.empty, ByteArray.empty, 0⟩ : Nd)].length = 1 from rfl))
              have A16 := hid (A15.out.alloc (.cells #[.int .i64 5, .int .i64 0, .string x11, .string ByteArray.empty, .string ByteArray.empty, .int .i64 0] 92))
              have G16 := hid ((Grew.refl d X15).alloc (.cells #[.int .i64 5, .int .i64 0, .string x11, .string ByteArray.empty, .string ByteArray.empty, .int .i64 0] 92))
              have ec := (((G10.out.trans (G11.out.trans (G12.out.trans (G13.out.trans (G14.out.trans (G15.out.trans G16.out))))))).cell (p := ⟨bq, 2, none⟩) ⟨heap_lt EB.out, (show bq ≠ d.B by have := HQ2.out.1; omega), (show bq ≠ d.G by have := HQ2.out.2; omega)⟩).trans (cell_of_heap EB.out 2)
              have ec : (X15.alloc (.cells #[.int .i64 5, .int .i64 0, .string x11, .string ⟨#[]⟩, .string ⟨#[]⟩, .int .i64 0] 92)).cell? ⟨bq, 2, none⟩ = some (.int .i64 xr) := ec
              go_wp2_with fail
              refine (base_calls xr _).mono ?_
              rintro e W9 ⟨rfl, rfl⟩
              clear ec
              go_wp2_with fail
              refine (A16.out.add x11 0 0 (K13.out.1.grew (G14.out.trans (G15.out.trans G16.out))) B11.out (by have := HE.out.room; have := K12.out.2; have := K13.out.2; omega)).mono ?_
              rintro e X17 ⟨u17, ks17, rfl, hk17, hkl17, ha, hg⟩
              have A17 := hid ha
              have G17 := hid hg
              clear ha hg
              have K17 := hid (And.intro hk17 hkl17)
              obtain ⟨ad17, cp17, rfl⟩ := hk17.is
              clear hk17 hkl17
              go_wp2_with fail
              refine (A17.out.nodes (HO.out (deep - 1) xr _ _ _ _ _ _ (by have := HD.out; omega) (by have := HD.out; omega) (A17.out.fit HF.out 10 (by omega)) A17.out.1 ((HE.out.grew (G7.out.trans (G9.out.trans (G10.out.trans (G11.out.trans (G12.out.trans (G13.out.trans (G14.out.trans (G15.out.trans (G16.out.trans G17.out)))))))))).with K17.out.1 (by have := K12.out.2; have := K13.out.2; have := K17.out.2; omega)))).mono ?_
              rintro e X18 ⟨v18, n18, s18, t18, rfl, hn18, hl18, ha, hg⟩
              have A18 := hid ha
              have G18 := hid hg
              clear ha hg
              have N18 := hid (And.intro hn18 hl18)
              obtain ⟨ad18, cp18, rfl⟩ := hn18.is
              clear hn18 hl18
              go_wp2_with fail
              refine (A18.out.put2 7 0 0 ByteArray.empty ByteArray.empty ByteArray.empty (N16.out.1.grew (G17.out.trans G18.out)) N18.out.1 ⟨brief_none, brief_none, brief_none⟩ (by have := A18.out.bound HF.out (by omega) (by decide); have := N16.out.2; have := N18.out.2; omega)).mono ?_
              rintro e X19 ⟨v19, n19, rfl, hn19, hl19, ha, hg⟩
              have A19 := hid ha
              have G19 := hid hg
              clear ha hg
              have N19 := hid (And.intro hn19 hl19)
              obtain ⟨ad19, cp19, rfl⟩ := hn19.is
              clear hn19 hl19
              by_cases hty1 : ty = 1
              · subst hty1
                have g0 := A19.out.1.c0
                go_wp2_with fail
                refine (A19.out.pick HF.out (by omega) 4 (by decide)).mono ?_
                rintro e X20 ⟨m20, s20, rfl, hm20, hM20, ha, hg⟩
                have A20 := hid ha
                have G20 := hid hg
                clear ha hg
                clear g0
                by_cases hm4 : m20 = 0
                · subst hm4
                  have N21 := hid (And.intro (nd_lit_at (d := d) X20 ⟨5, 0, x11, ByteArray.empty, ByteArray.empty, 0⟩ (X20.heap.size) (by simp) A20.out.1.ltB A20.out.1.ltG ⟨B11.out, brief_none, brief_none⟩) (show [(⟨5, 0, x11, ByteArray.empty, ByteArray.empty, 0⟩ : Nd)].length = 1 from rfl))
                  have A21 := hid (A20.out.alloc (.cells #[.int .i64 5, .int .i64 0, .string x11, .string ByteArray.empty, .string ByteArray.empty, .int .i64 0] 92))
                  have G21 := hid ((Grew.refl d X20).alloc (.cells #[.int .i64 5, .int .i64 0, .string x11, .string ByteArray.empty, .string ByteArray.empty, .int .i64 0] 92))
                  have ec := (((G10.out.trans (G11.out.trans (G12.out.trans (G13.out.trans (G14.out.trans (G15.out.trans (G16.out.trans (G17.out.trans (G18.out.trans (G19.out.trans (G20.out.trans G21.out)))))))))))).cell (p := ⟨bq, 2, none⟩) ⟨heap_lt EB.out, (show bq ≠ d.B by have := HQ2.out.1; omega), (show bq ≠ d.G by have := HQ2.out.2; omega)⟩).trans (cell_of_heap EB.out 2)
                  have ec : (X20.alloc (.cells #[.int .i64 5, .int .i64 0, .string x11, .string ⟨#[]⟩, .string ⟨#[]⟩, .int .i64 0] 92)).cell? ⟨bq, 2, none⟩ = some (.int .i64 xr) := ec
                  go_wp2_with fail
                  refine (base_calls xr _).mono ?_
                  rintro e W9 ⟨rfl, rfl⟩
                  clear ec
                  go_wp2_with fail
                  refine (A21.out.add x11 0 0 (K13.out.1.grew (G14.out.trans (G15.out.trans (G16.out.trans (G17.out.trans (G18.out.trans (G19.out.trans (G20.out.trans G21.out)))))))) B11.out (by have := HE.out.room; have := K12.out.2; have := K13.out.2; omega)).mono ?_
                  rintro e X22 ⟨u22, ks22, rfl, hk22, hkl22, ha, hg⟩
                  have A22 := hid ha
                  have G22 := hid hg
                  clear ha hg
                  have K22 := hid (And.intro hk22 hkl22)
                  obtain ⟨ad22, cp22, rfl⟩ := hk22.is
                  clear hk22 hkl22
                  go_wp2_with fail
                  refine (A22.out.nodes (leaf_calls xr A22.out.1 (A22.out.fit HF.out 10 (by omega)) K22.out.1 (by have := HE.out.room; have := K12.out.2; have := K13.out.2; have := K22.out.2; omega))).mono ?_
                  rintro e X23 ⟨v23, n23, s23, t23, rfl, hn23, hl23, ha, hg⟩
                  have A23 := hid ha
                  have G23 := hid hg
                  clear ha hg
                  have N23 := hid (And.intro hn23 hl23)
                  obtain ⟨ad23, cp23, rfl⟩ := hn23.is
                  clear hn23 hl23
                  go_wp2_with fail
                  refine (A23.out.put2 7 0 0 ByteArray.empty ByteArray.empty ByteArray.empty (N21.out.1.grew (G22.out.trans G23.out)) N23.out.1 ⟨brief_none, brief_none, brief_none⟩ (by have := A23.out.bound HF.out (by omega) (by decide); have := N21.out.2; have := N23.out.2; omega)).mono ?_
                  rintro e X24 ⟨v24, n24, rfl, hn24, hl24, ha, hg⟩
                  have A24 := hid ha
                  have G24 := hid hg
                  clear ha hg
                  have N24 := hid (And.intro hn24 hl24)
                  obtain ⟨ad24, cp24, rfl⟩ := hn24.is
                  clear hn24 hl24
                  go_wp2_with fail
                  refine (A24.out.put2 11 0 0 ByteArray.empty ByteArray.empty ByteArray.empty (N19.out.1.grew (G20.out.trans (G21.out.trans (G22.out.trans (G23.out.trans G24.out))))) N24.out.1 ⟨brief_none, brief_none, brief_none⟩ (by have := A24.out.bound HF.out (by omega) (by decide); have := N19.out.2; have := N16.out.2; have := N18.out.2; have := N24.out.2; have := N21.out.2; have := N23.out.2; omega)).mono ?_
                  rintro e X25 ⟨v25, n25, rfl, hn25, hl25, ha, hg⟩
                  have A25 := hid ha
                  have G25 := hid hg
                  clear ha hg
                  have N25 := hid (And.intro hn25 hl25)
                  obtain ⟨ad25, cp25, rfl⟩ := hn25.is
                  clear hn25 hl25
                  have ec := (((G10.out.trans (G11.out.trans (G12.out.trans (G13.out.trans (G14.out.trans (G15.out.trans (G16.out.trans (G17.out.trans (G18.out.trans (G19.out.trans (G20.out.trans (G21.out.trans (G22.out.trans (G23.out.trans (G24.out.trans G25.out)))))))))))))))).cell (p := ⟨bq, 0, none⟩) ⟨heap_lt EB.out, (show bq ≠ d.B by have := HQ2.out.1; omega), (show bq ≠ d.G by have := HQ2.out.2; omega)⟩).trans (cell_of_heap EB.out 0)
                  have ec : X25.cell? ⟨bq, 0, none⟩ = some (.string xn) := ec
                  go_wp2_with fail
                  refine (A25.out.put1 26 0 0 xn x10 x11 N25.out.1 ⟨HQ.out.2.1, B10.out, B11.out⟩ (by have := A25.out.bound HF.out (by omega) (by decide); have := N25.out.2; have := N19.out.2; have := N16.out.2; have := N18.out.2; have := N24.out.2; have := N21.out.2; have := N23.out.2; omega)).mono ?_
                  rintro e X26 ⟨v26, n26, rfl, hn26, hl26, ha, hg⟩
                  have A26 := hid ha
                  have G26 := hid hg
                  clear ha hg
                  have N26 := hid (And.intro hn26 hl26)
                  obtain ⟨ad26, cp26, rfl⟩ := hn26.is
                  clear hn26 hl26
                  clear ec
                  have HFl : Hid ((flatL (kdL (ls ++ [⟨ad26, cp26, n26⟩]))).length = (flatL (kdL ls)).length + n26.length) := by show _ = _; simp [flatL, kdL]
                  have HLL : Hid (ls.length ≤ 1000) := by show _ ≤ _; have := HB.out; have := HOs.out.2; omega
                  go_wp2_with (at_builtin; refine wpList_append_by rfl _ _ 113 rfl _ _ rfl rfl (fun ty_ => HH.out.app H0.out A26.out (G7.out.trans (G9.out.trans (G10.out.trans (G11.out.trans (G12.out.trans (G13.out.trans (G14.out.trans (G15.out.trans (G16.out.trans (G17.out.trans (G18.out.trans (G19.out.trans (G20.out.trans (G21.out.trans (G22.out.trans (G23.out.trans (G24.out.trans (G25.out.trans G26.out)))))))))))))))))) ⟨ad26, cp26, n26⟩ N26.out.1 HLL.out ty_) ?_; intro vq Xq hvq; have HQQ := hid hvq; clear hvq)
                  rw [wrap_succ (by have := HOs.out.2; omega)]
                  exact ⟨⟨i2 + 1, ls ++ [⟨ad26, cp26, n26⟩], _, _, _, rfl, by omega, HQQ, by have := HB.out; omega, by have := HB.out; simp; omega, by have := HB.out; have := HFl.out; have := N26.out.2; have := N25.out.2; have := N19.out.2; have := N16.out.2; have := N18.out.2; have := N24.out.2; have := N21.out.2; have := N23.out.2; omega⟩, hstep⟩
                · have z4 : (m20 == 0) = false := by simp [hm4]
                  have ec := (((G10.out.trans (G11.out.trans (G12.out.trans (G13.out.trans (G14.out.trans (G15.out.trans (G16.out.trans (G17.out.trans (G18.out.trans (G19.out.trans G20.out))))))))))).cell (p := ⟨bq, 0, none⟩) ⟨heap_lt EB.out, (show bq ≠ d.B by have := HQ2.out.1; omega), (show bq ≠ d.G by have := HQ2.out.2; omega)⟩).trans (cell_of_heap EB.out 0)
                  have ec : X20.cell? ⟨bq, 0, none⟩ = some (.string xn) := ec
                  go_wp2_with fail
                  refine (A20.out.put1 26 0 0 xn x10 x11 (N19.out.1.grew G20.out) ⟨HQ.out.2.1, B10.out, B11.out⟩ (by have := A20.out.bound HF.out (by omega) (by decide); have := N19.out.2; have := N16.out.2; have := N18.out.2; omega)).mono ?_
                  rintro e X21 ⟨v21, n21, rfl, hn21, hl21, ha, hg⟩
                  have A21 := hid ha
                  have G21 := hid hg
                  clear ha hg
                  have N21 := hid (And.intro hn21 hl21)
                  obtain ⟨ad21, cp21, rfl⟩ := hn21.is
                  clear hn21 hl21
                  clear ec
                  have HFl : Hid ((flatL (kdL (ls ++ [⟨ad21, cp21, n21⟩]))).length = (flatL (kdL ls)).length + n21.length) := by show _ = _; simp [flatL, kdL]
                  have HLL : Hid (ls.length ≤ 1000) := by show _ ≤ _; have := HB.out; have := HOs.out.2; omega
                  go_wp2_with (at_builtin; refine wpList_append_by rfl _ _ 113 rfl _ _ rfl rfl (fun ty_ => HH.out.app H0.out A21.out (G7.out.trans (G9.out.trans (G10.out.trans (G11.out.trans (G12.out.trans (G13.out.trans (G14.out.trans (G15.out.trans (G16.out.trans (G17.out.trans (G18.out.trans (G19.out.trans (G20.out.trans G21.out))))))))))))) ⟨ad21, cp21, n21⟩ N21.out.1 HLL.out ty_) ?_; intro vq Xq hvq; have HQQ := hid hvq; clear hvq)
                  rw [wrap_succ (by have := HOs.out.2; omega)]
                  exact ⟨⟨i2 + 1, ls ++ [⟨ad21, cp21, n21⟩], _, _, _, rfl, by omega, HQQ, by have := HB.out; omega, by have := HB.out; simp; omega, by have := HB.out; have := HFl.out; have := N21.out.2; have := N19.out.2; have := N16.out.2; have := N18.out.2; omega⟩, hstep⟩
              · have zt : (ty == 1) = false := by simp [hty1]
                have ec := (((G10.out.trans (G11.out.trans (G12.out.trans (G13.out.trans (G14.out.trans (G15.out.trans (G16.out.trans (G17.out.trans (G18.out.trans G19.out)))))))))).cell (p := ⟨bq, 0, none⟩) ⟨heap_lt EB.out, (show bq ≠ d.B by have := HQ2.out.1; omega), (show bq ≠ d.G by have := HQ2.out.2; omega)⟩).trans (cell_of_heap EB.out 0)
                have ec : X19.cell? ⟨bq, 0, none⟩ = some (.string xn) := ec
                go_wp2_with fail
                refine (A19.out.put1 26 0 0 xn x10 x11 N19.out.1 ⟨HQ.out.2.1, B10.out, B11.out⟩ (by have := A19.out.bound HF.out (by omega) (by decide); have := N19.out.2; have := N16.out.2; have := N18.out.2; omega)).mono ?_
                rintro e X20 ⟨v20, n20, rfl, hn20, hl20, ha, hg⟩
                have A20 := hid ha
                have G20 := hid hg
                clear ha hg
                have N20 := hid (And.intro hn20 hl20)
                obtain ⟨ad20, cp20, rfl⟩ := hn20.is
                clear hn20 hl20
                clear ec
                have HFl : Hid ((flatL (kdL (ls ++ [⟨ad20, cp20, n20⟩]))).length = (flatL (kdL ls)).length + n20.length) := by show _ = _; simp [flatL, kdL]
                have HLL : Hid (ls.length ≤ 1000) := by show _ ≤ _; have := HB.out; have := HOs.out.2; omega
                go_wp2_with (at_builtin; refine wpList_append_by rfl _ _ 113 rfl _ _ rfl rfl (fun ty_ => HH.out.app H0.out A20.out (G7.out.trans (G9.out.trans (G10.out.trans (G11.out.trans (G12.out.trans (G13.out.trans (G14.out.trans (G15.out.trans (G16.out.trans (G17.out.trans (G18.out.trans (G19.out.trans G20.out)))))))))))) ⟨ad20, cp20, n20⟩ N20.out.1 HLL.out ty_) ?_; intro vq Xq hvq; have HQQ := hid hvq; clear hvq)
                rw [wrap_succ (by have := HOs.out.2; omega)]
                exact ⟨⟨i2 + 1, ls ++ [⟨ad20, cp20, n20⟩], _, _, _, rfl, by omega, HQQ, by have := HB.out; omega, by have := HB.out; simp; omega, by have := HB.out; have := HFl.out; have := N20.out.2; have := N19.out.2; have := N16.out.2; have := N18.out.2; omega⟩, hstep⟩
            · have hm30 : m15 = 0 := by omega
              subst hm30
              have ec := (((G10.out.trans (G11.out.trans (G12.out.trans (G13.out.trans (G14.out.trans G15.out)))))).cell (p := ⟨bq, 0, none⟩) ⟨heap_lt EB.out, (show bq ≠ d.B by have := HQ2.out.1; omega), (show bq ≠ d.G by have := HQ2.out.2; omega)⟩).trans (cell_of_heap EB.out 0)
              have ec : X15.cell? ⟨bq, 0, none⟩ = some (.string xn) := ec
              go_wp2_with fail
              refine (A15.out.put1 26 0 0 xn x10 x11 (N14.out.1.grew G15.out) ⟨HQ.out.2.1, B10.out, B11.out⟩ (by have := A15.out.bound HF.out (by omega) (by decide); have := N14.out.2; omega)).mono ?_
              rintro e X16 ⟨v16, n16, rfl, hn16, hl16, ha, hg⟩
              have A16 := hid ha
              have G16 := hid hg
              clear ha hg
              have N16 := hid (And.intro hn16 hl16)
              obtain ⟨ad16, cp16, rfl⟩ := hn16.is
              clear hn16 hl16
              clear ec
              have HFl : Hid ((flatL (kdL (ls ++ [⟨ad16, cp16, n16⟩]))).length = (flatL (kdL ls)).length + n16.length) := by show _ = _; simp [flatL, kdL]
              have HLL : Hid (ls.length ≤ 1000) := by show _ ≤ _; have := HB.out; have := HOs.out.2; omega
              go_wp2_with (at_builtin; refine wpList_append_by rfl _ _ 113 rfl _ _ rfl rfl (fun ty_ => HH.out.app H0.out A16.out (G7.out.trans (G9.out.trans (G10.out.trans (G11.out.trans (G12.out.trans (G13.out.trans (G14.out.trans (G15.out.trans G16.out)))))))) ⟨ad16, cp16, n16⟩ N16.out.1 HLL.out ty_) ?_; intro vq Xq hvq; have HQQ := hid hvq; clear hvq)
              rw [wrap_succ (by have := HOs.out.2; omega)]
              exact ⟨⟨i2 + 1, ls ++ [⟨ad16, cp16, n16⟩], _, _, _, rfl, by omega, HQQ, by have := HB.out; omega, by have := HB.out; simp; omega, by have := HB.out; have := HFl.out; have := N16.out.2; have := N14.out.2; omega⟩, hstep⟩
          · have e2 : i2 = os'.length := by omega
            have hb4 := HOs.out.2
            have hcz : c2 ≤ 190 ∧ (flatL (kdL ls)).length ≤ t2 + 35 := by have := HB.out; omega
            have AZ := hid HH.out.at_
            have HKZ := hid (kids_own HH.out.kids H0.out.ltB H0.out.ltG HH.out.nodes)
            go_wp2_with fail
            refine (AZ.out.put_kids 23 0 0 ⟨#[]⟩ ⟨#[]⟩ ⟨#[]⟩ HKZ.out ⟨brief_none, brief_none, brief_none⟩ (by simp [kdL]; have := HB.out; omega) (by have := AZ.out.bound HF.out (by omega) (by decide); omega)).mono ?_
            rintro e XZ ⟨vz, nz, rfl, hnz, hlz, haz, hgz⟩
            have NZ := hid (And.intro haz (And.intro hnz hlz))
            clear haz hnz hlz hgz
            go_wp2_with fail
            go_ret
            exact NZ.out.1.done 36 NZ.out.2.1 (by have := NZ.out.2.2; omega) (by omega)
end Go.Proofs.Ytnbmhopoiijhoaa

/- The drawer keeps its contract. -/
namespace Go.Proofs.Ytnbmhopoiijhoaa
open Go.RowKit Go.Deep

/-- The contract of what draws handlers. -/
def HanC (d : Dr) (ve : Value) (es : List Ef) (D : Nat) : Prop :=
  ∀ (ty deep : Int) (v vm : Value) (ks : List Kn) (ms : List Bool) (X : World) (s : Cn), deep ≤ D → -90 ≤ deep → Gen d ve X s → Fit s 250 → Env d ve es X v ks vm ms (D + 1) →
    Calls Try.prog 58 #[.pointer (some ⟨d.G, 0, none⟩), .int .i64 ty, v, vm, .int .i64 deep] X (NodesPost d ve X s 250)

/-- What is spent within, the count taken off first. -/
theorem of_post {d : Dr} {ve : Value} {W X : World} {s s1 : Cn} {e : Ending} {Y : World} {c : Nat} (hg : Grew d W X) (e1 : s1.p = s.p) (e2 : s1.next = s.next) (e3 : s1.left = s.left - 1) (h : NodesPost d ve X s1 c e Y) (hc : c ≤ 9 ∨ (0 < s.left ∧ c ≤ 300)) : NodesPost d ve W s 10 e Y := by
  obtain ⟨v, ns, s', t, h1, h2, h3, h4, h5, h6⟩ := h
  refine ⟨v, ns, s', t + 1, h1, h2, by omega, h4, hg.trans h5, ?_⟩
  unfold Spent at h6 ⊢
  omega

theorem of_fit {s s1 : Cn} (hf : Fit s 10) (e1 : s1.p = s.p) (e2 : s1.next = s.next) (e3 : s1.left = s.left - 1) : Fit s1 9 ∧ (0 < s.left → Fit s1 300) := by
  unfold Fit at hf ⊢
  omega

set_option maxHeartbeats 4000000 in
set_option maxRecDepth 100000 in
/-- A function, small. -/
theorem leaf5n {d : Dr} {ve v : Value} {W : World} {s : Cn} {ks : List Kn} (ty : Int) (h1 : ty ≠ 1) (h2 : ty ≠ 2) (h3 : ty ≠ 3) (h4 : ty ≠ 4) (h : Gen d ve W s) (hf : Fit s 9) (hk : KnowsD d W v ks) (hl : ks.length ≤ 998) :
    Calls Try.prog 54 #[.pointer (some ⟨d.G, 0, none⟩), .int .i64 ty, v] W (NodesPost d ve W s 9) := by
  have HF := hid hf
  have A0 := hid (At.start h)
  have HKn := hid hk
  have HKl := hid hl
  have HK := hid (A0.out.nodes0 (gknown_calls ty h (by unfold Fit at hf; omega) hk (by omega)))
  obtain ⟨ad, cp, rfl⟩ := hk.is
  clear hk hl h hf
  have e1 : (ty == 1) = false := by simp [h1]
  have e2 : (ty == 2) = false := by simp [h2]
  have e3 : (ty == 3) = false := by simp [h3]
  have e4 : (ty == 4) = false := by simp [h4]
  clear h1 h2 h3 h4
  go_enter Try.func54, Try.ntmps54
  go_wp2_with fail
  refine HK.out.mono ?_
  rintro e X1 ⟨v1, n1, s1, t1, rfl, hn1, hl1, ha1, hg1⟩
  have A1 := hid ha1
  have N1 := hid (And.intro hn1 hl1)
  have G1 := hid hg1
  obtain ⟨ad1, cp1, rfl⟩ := hn1.is
  obtain ⟨l1, hl1e⟩ : ∃ l, n1.length = l := ⟨_, rfl⟩
  have HL1 := hid hl1e
  rw [hl1e] at N1 ⊢
  clear hn1 hl1 ha1 hg1 HK hl1e A0
  by_cases hz : l1 = 0
  · subst hz
    go_wp2_with fail
    refine (A1.out.name HF.out (by omega)).mono ?_
    rintro e X2 ⟨x2, s2, rfl, hb2, ha, hg⟩
    have A2 := hid ha
    have G2 := hid hg
    clear ha hg
    have B2 := hid hb2
    clear hb2
    go_wp2_with fail
    refine (A2.out.add x2 1 0 (HKn.out.grew (G1.out.trans G2.out)) B2.out (by have := HKl.out; omega)).mono ?_
    rintro e X3 ⟨u3, ks3, rfl, hk3, hkl3, ha, hg⟩
    have A3 := hid ha
    have G3 := hid hg
    clear ha hg
    have K3 := hid (And.intro hk3 hkl3)
    clear hk3 hkl3
    go_wp2_with fail
    refine (A3.out.nodes (leaf1 1 rfl A3.out.1 (A3.out.fit HF.out 4 (by omega)) K3.out.1 (by have := K3.out.2; have := HKl.out; omega))).mono ?_
    rintro e X4 ⟨v4, n4, s4, t4, rfl, hn4, hl4, ha, hg⟩
    have A4 := hid ha
    have G4 := hid hg
    clear ha hg
    have N4 := hid (And.intro hn4 hl4)
    obtain ⟨ad4, cp4, rfl⟩ := hn4.is
    clear hn4 hl4
    go_wp2_with fail
    refine (A4.out.put1 6 0 0 x2 ByteArray.empty ByteArray.empty N4.out.1 ⟨B2.out, brief_none, brief_none⟩ (by have := A4.out.bound HF.out (by omega) (by decide); have := N4.out.2; omega)).mono ?_
    rintro e X5 ⟨v5, n5, rfl, hn5, hl5, ha, hg⟩
    have A5 := hid ha
    have G5 := hid hg
    clear ha hg
    have N5 := hid (And.intro hn5 hl5)
    obtain ⟨ad5, cp5, rfl⟩ := hn5.is
    clear hn5 hl5
    go_wp2_with fail
    go_ret
    exact A5.out.done 1 N5.out.1 (by have := N5.out.2; have := N4.out.2; omega) (by omega)
  · have hz' : (0 : Int) < (l1 : Int) := by omega
    have g0 := A1.out.1.c0
    go_wp2_with fail
    refine (A1.out.pick HF.out (by omega) 3 (by decide)).mono ?_
    rintro e X2 ⟨m2, s2, rfl, hm2, hM2, ha, hg⟩
    have A2 := hid ha
    have G2 := hid hg
    clear ha hg
    clear g0
    by_cases hm : 0 < m2
    · go_wp2_with fail
      go_ret
      exact A2.out.done 0 (N1.out.1.grew G2.out) (by have := N1.out.2; have := HL1.out; omega) (by omega)
    · have hm0 : m2 = 0 := by omega
      subst hm0
      go_wp2_with fail
      refine (A2.out.name HF.out (by omega)).mono ?_
      rintro e X3 ⟨x3, s3, rfl, hb3, ha, hg⟩
      have A3 := hid ha
      have G3 := hid hg
      clear ha hg
      have B3 := hid hb3
      clear hb3
      go_wp2_with fail
      refine (A3.out.add x3 1 0 (HKn.out.grew (G1.out.trans (G2.out.trans G3.out))) B3.out (by have := HKl.out; omega)).mono ?_
      rintro e X4 ⟨u4, ks4, rfl, hk4, hkl4, ha, hg⟩
      have A4 := hid ha
      have G4 := hid hg
      clear ha hg
      have K4 := hid (And.intro hk4 hkl4)
      clear hk4 hkl4
      go_wp2_with fail
      refine (A4.out.nodes (leaf1 1 rfl A4.out.1 (A4.out.fit HF.out 4 (by omega)) K4.out.1 (by have := K4.out.2; have := HKl.out; omega))).mono ?_
      rintro e X5 ⟨v5, n5, s5, t5, rfl, hn5, hl5, ha, hg⟩
      have A5 := hid ha
      have G5 := hid hg
      clear ha hg
      have N5 := hid (And.intro hn5 hl5)
      obtain ⟨ad5, cp5, rfl⟩ := hn5.is
      clear hn5 hl5
      go_wp2_with fail
      refine (A5.out.put1 6 0 0 x3 ByteArray.empty ByteArray.empty N5.out.1 ⟨B3.out, brief_none, brief_none⟩ (by have := A5.out.bound HF.out (by omega) (by decide); have := N5.out.2; omega)).mono ?_
      rintro e X6 ⟨v6, n6, rfl, hn6, hl6, ha, hg⟩
      have A6 := hid ha
      have G6 := hid hg
      clear ha hg
      have N6 := hid (And.intro hn6 hl6)
      obtain ⟨ad6, cp6, rfl⟩ := hn6.is
      clear hn6 hl6
      go_wp2_with fail
      go_ret
      exact A6.out.done 1 N6.out.1 (by have := N6.out.2; have := N5.out.2; omega) (by omega)

theorem leaf_nine {d : Dr} {ve v : Value} {W : World} {s : Cn} {ks : List Kn} (ty : Int) (h : Gen d ve W s) (hf : Fit s 9) (hk : KnowsD d W v ks) (hl : ks.length ≤ 998) :
    Calls Try.prog 54 #[.pointer (some ⟨d.G, 0, none⟩), .int .i64 ty, v] W (NodesPost d ve W s 9) := by
  by_cases h1 : ty = 1
  · exact (leaf1 ty h1 h (hf.mono (by omega)) hk (by omega)).mono fun e W' h => h.mono (by omega)
  by_cases h2 : ty = 2
  · exact (leaf2 ty h2 h (hf.mono (by omega)) hk (by omega)).mono fun e W' h => h.mono (by omega)
  by_cases h3 : ty = 3
  · exact (leaf3 ty h3 h (hf.mono (by omega)) hk (by omega)).mono fun e W' h => h.mono (by omega)
  by_cases h4 : ty = 4
  · exact (leaf4 ty h4 h (hf.mono (by omega)) hk (by omega)).mono fun e W' h => h.mono (by omega)
  exact leaf5n ty h1 h2 h3 h4 h hf hk hl

set_option maxHeartbeats 8000000 in
set_option maxRecDepth 100000 in
theorem of_step {d : Dr} {ve : Value} {es : List Ef} {D : Nat} (hD : D ≤ 90) (hO : OfC d ve es D) (hH : HanC d ve es D) : OfC d ve es (D + 1) := by
  intro deep ty v vm ks ms W s h1 h2 hf h hE
  have HO := hid hO
  have HH := hid hH
  have hl := h.setLeft (s.left - 1)
  have f2 := h.f2
  have c2 := h.c2
  have HF0 := hid hf
  have HW : Hid (wrap64 (s.left - 1) = s.left - 1) := by show _ = _; unfold Fit at hf; unfold wrap64; omega
  have HD0 := hid (And.intro h1 (And.intro h2 hD))
  obtain ⟨ad, cp, rfl⟩ := hE.know.is
  obtain ⟨adm, cpm, rfl⟩ := hE.may.is
  obtain ⟨X, hX⟩ : ∃ X, W.setCell ⟨d.G, 2, none⟩ (.int .i64 (s.left - 1)) = X := ⟨_, rfl⟩
  rw [hX] at hl
  have HX := hid hX
  obtain ⟨s1, hs1⟩ : ∃ s1 : Cn, { s with left := s.left - 1 } = s1 := ⟨_, rfl⟩
  rw [hs1] at hl
  have e1 : s1.p = s.p := by rw [← hs1]
  have e2 : s1.next = s.next := by rw [← hs1]
  have e3 : s1.left = s.left - 1 := by rw [← hs1]
  have HFF := hid (of_fit hf e1 e2 e3)
  have HP := hid (fun (c : Nat) (e : Ending) (Y : World) (h : NodesPost d ve X s1 c e Y) (hc : c ≤ 9 ∨ (0 < s.left ∧ c ≤ 300)) => of_post hl.2 e1 e2 e3 h hc)
  have A0 := hid (At.start hl.1)
  have HE := hid (hE.grew hl.2)
  have g2 := hl.1.c2
  have g0 := hl.1.c0
  rw [e3] at g2
  obtain ⟨L, hL⟩ : ∃ L : Int, s.left - 1 = L := ⟨_, rfl⟩
  have HLe := hid hL
  rw [hL] at g2
  clear hO hH hl hf h hE hX hs1 e1 e2 e3 hL
  go_enter Try.func38, Try.ntmps38
  go_upto_region 2 with fail
  try rw [HW.out]
  rw [HX.out]
  clear c2 f2 HW HX
  have HLF := hid (leaf_nine ty A0.out.1 HFF.out.1 HE.out.know (by have := HE.out.room; omega))
  by_cases hd : deep ≤ 1
  · go_wp2_with fail
    refine HLF.out.mono ?_
    rintro e Xl ⟨vl, nl, sl, tl, rfl, hnl, hll, hgl, hgrl, hspl⟩
    have NL := hid (And.intro hnl (And.intro hll (And.intro hgl (And.intro hgrl hspl))))
    clear hnl hll hgl hgrl hspl
    go_wp2_with fail
    go_ret
    exact HP.out 9 _ _ ⟨vl, nl, sl, tl, rfl, NL.out.1, NL.out.2.1, NL.out.2.2.1, NL.out.2.2.2.1, NL.out.2.2.2.2⟩ (Or.inl (by omega))
  · by_cases hl0 : L ≤ 0
    · go_wp2_with fail
      refine HLF.out.mono ?_
      rintro e Xl ⟨vl, nl, sl, tl, rfl, hnl, hll, hgl, hgrl, hspl⟩
      have NL := hid (And.intro hnl (And.intro hll (And.intro hgl (And.intro hgrl hspl))))
      clear hnl hll hgl hgrl hspl
      go_wp2_with fail
      go_ret
      exact HP.out 9 _ _ ⟨vl, nl, sl, tl, rfl, NL.out.1, NL.out.2.1, NL.out.2.2.1, NL.out.2.2.2.1, NL.out.2.2.2.2⟩ (Or.inl (by omega))
    · have HPos : Hid (0 < s.left) := by show _ < _; have := HLe.out; omega
      have HF := hid (HFF.out.2 HPos.out)
      have HD := hid (And.intro (show deep - 1 ≤ (D : Int) by have := HD0.out.1; omega) (And.intro (show -90 ≤ deep - 1 by omega) (show D ≤ 100 by omega)))
      have hdu : deep ≤ 1000 := by have := HD0.out; omega
      go_wp2_with fail
      refine (A0.out.pick HF.out (by omega) 9 (by decide)).mono ?_
      rintro e X1 ⟨m1, s51, rfl, hm1, hM1, ha, hg⟩
      have A1 := hid ha
      have G1 := hid hg
      clear ha hg
      by_cases h9 : m1 = 0
      · subst h9
        have HL3 := hid (A1.out.nodes (leaf_calls ty A1.out.1 (A1.out.fit HF.out 10 (by omega)) (HE.out.grew G1.out).know (by have := HE.out.room; omega)))
        go_wp2_with fail
        refine HL3.out.mono ?_
        rintro e X2 ⟨v2, n2, s2, t2, rfl, hn2, hl2, ha, hg⟩
        have A2 := hid ha
        have G2 := hid hg
        clear ha hg
        have N2 := hid (And.intro hn2 hl2)
        clear hn2 hl2
        go_wp2_with fail
        go_ret
        exact HP.out 300 _ _ (A2.out.done 0 N2.out.1 (by have := N2.out.2; omega) (by omega)) (Or.inr ⟨HPos.out, by omega⟩)
      · have z9 : (m1 == 0) = false := by simp [h9]
        have g0 := A1.out.1.c0
        go_wp2_with fail
        refine (A1.out.pick HF.out (by omega) 11 (by decide)).mono ?_
        rintro e X2 ⟨m2, s2, rfl, hm2, hM2, ha, hg⟩
        have A2 := hid ha
        have G2 := hid hg
        clear ha hg
        clear g0
        have hcs : m2 = 0 ∨ m2 = 1 ∨ m2 = 2 ∨ m2 = 3 ∨ m2 = 4 ∨ m2 = 5 ∨ m2 = 6 ∨ m2 = 7 ∨ m2 = 8 ∨ m2 = 9 ∨ m2 = 10 := by omega
        rcases hcs with rfl | rfl | rfl | rfl | rfl | rfl | rfl | rfl | rfl | rfl | rfl
        · go_wp2_with fail
          refine (A2.out.nodes (HO.out (deep - 1) 2 _ _ _ _ _ _ (by have := HD.out; omega) (by have := HD.out; omega) (A2.out.fit HF.out 10 (by omega)) A2.out.1 (HE.out.grew (G1.out.trans G2.out)).down)).mono ?_
          rintro e X3 ⟨v3, n3, s3, t3, rfl, hn3, hl3, ha, hg⟩
          have A3 := hid ha
          have G3 := hid hg
          clear ha hg
          have N3 := hid (And.intro hn3 hl3)
          obtain ⟨ad3, cp3, rfl⟩ := hn3.is
          clear hn3 hl3
          go_wp2_with fail
          refine (A3.out.nodes (HO.out (deep - 1) ty _ _ _ _ _ _ (by have := HD.out; omega) (by have := HD.out; omega) (A3.out.fit HF.out 10 (by omega)) A3.out.1 (HE.out.grew (G1.out.trans (G2.out.trans G3.out))).down)).mono ?_
          rintro e X4 ⟨v4, n4, s4, t4, rfl, hn4, hl4, ha, hg⟩
          have A4 := hid ha
          have G4 := hid hg
          clear ha hg
          have N4 := hid (And.intro hn4 hl4)
          obtain ⟨ad4, cp4, rfl⟩ := hn4.is
          clear hn4 hl4
          go_wp2_with fail
          refine (A4.out.nodes (HO.out (deep - 1) ty _ _ _ _ _ _ (by have := HD.out; omega) (by have := HD.out; omega) (A4.out.fit HF.out 10 (by omega)) A4.out.1 (HE.out.grew (G1.out.trans (G2.out.trans (G3.out.trans G4.out)))).down)).mono ?_
          rintro e X5 ⟨v5, n5, s5, t5, rfl, hn5, hl5, ha, hg⟩
          have A5 := hid ha
          have G5 := hid hg
          clear ha hg
          have N5 := hid (And.intro hn5 hl5)
          obtain ⟨ad5, cp5, rfl⟩ := hn5.is
          clear hn5 hl5
          go_wp2_with fail
          refine (A5.out.put3 10 0 0 ByteArray.empty ByteArray.empty ByteArray.empty (N3.out.1.grew (G4.out.trans G5.out)) (N4.out.1.grew G5.out) N5.out.1 ⟨brief_none, brief_none, brief_none⟩ (by have := A5.out.bound HF.out (by omega) (by decide); have := N3.out.2; have := N4.out.2; have := N5.out.2; omega)).mono ?_
          rintro e X6 ⟨v6, n6, rfl, hn6, hl6, ha, hg⟩
          have A6 := hid ha
          have G6 := hid hg
          clear ha hg
          have N6 := hid (And.intro hn6 hl6)
          obtain ⟨ad6, cp6, rfl⟩ := hn6.is
          clear hn6 hl6
          go_wp2_with fail
          go_ret
          exact HP.out 300 _ _ (A6.out.done 1 N6.out.1 (by have := N6.out.2; have := N3.out.2; have := N4.out.2; have := N5.out.2; omega) (by omega)) (Or.inr ⟨HPos.out, by omega⟩)
        · go_wp2_with fail
          refine (A2.out.name HF.out (by omega)).mono ?_
          rintro e X3 ⟨x3, s3, rfl, hb3, ha, hg⟩
          have A3 := hid ha
          have G3 := hid hg
          clear ha hg
          have B3 := hid hb3
          clear hb3
          have g0 := A3.out.1.c0
          go_wp2_with fail
          refine (A3.out.pick HF.out (by omega) 5 (by decide)).mono ?_
          rintro e X4 ⟨m4, s4, rfl, hm4, hM4, ha, hg⟩
          have A4 := hid ha
          have G4 := hid hg
          clear ha hg
          clear g0
          go_wp2_with fail
          refine (A4.out.nodes (HO.out (deep - 1) (1 + m4) _ _ _ _ _ _ (by have := HD.out; omega) (by have := HD.out; omega) (A4.out.fit HF.out 10 (by omega)) A4.out.1 (HE.out.grew (G1.out.trans (G2.out.trans (G3.out.trans G4.out)))).down)).mono ?_
          rintro e X5 ⟨v5, n5, s5, t5, rfl, hn5, hl5, ha, hg⟩
          have A5 := hid ha
          have G5 := hid hg
          clear ha hg
          have N5 := hid (And.intro hn5 hl5)
          obtain ⟨ad5, cp5, rfl⟩ := hn5.is
          clear hn5 hl5
          go_wp2_with fail
          refine (A5.out.add x3 (1 + m4) 0 (HE.out.grew (G1.out.trans (G2.out.trans (G3.out.trans (G4.out.trans G5.out))))).know B3.out (by have := HE.out.room; omega)).mono ?_
          rintro e X6 ⟨u6, ks6, rfl, hk6, hkl6, ha, hg⟩
          have A6 := hid ha
          have G6 := hid hg
          clear ha hg
          have K6 := hid (And.intro hk6 hkl6)
          obtain ⟨ad6, cp6, rfl⟩ := hk6.is
          clear hk6 hkl6
          go_wp2_with fail
          refine (A6.out.nodes (HO.out (deep - 1) ty _ _ _ _ _ _ (by have := HD.out; omega) (by have := HD.out; omega) (A6.out.fit HF.out 10 (by omega)) A6.out.1 ((HE.out.grew (G1.out.trans (G2.out.trans (G3.out.trans (G4.out.trans (G5.out.trans G6.out)))))).with K6.out.1 (by have := K6.out.2; omega)))).mono ?_
          rintro e X7 ⟨v7, n7, s7, t7, rfl, hn7, hl7, ha, hg⟩
          have A7 := hid ha
          have G7 := hid hg
          clear ha hg
          have N7 := hid (And.intro hn7 hl7)
          obtain ⟨ad7, cp7, rfl⟩ := hn7.is
          clear hn7 hl7
          go_wp2_with fail
          refine (A7.out.put2 8 0 0 x3 ByteArray.empty ByteArray.empty (N5.out.1.grew (G6.out.trans G7.out)) N7.out.1 ⟨B3.out, brief_none, brief_none⟩ (by have := A7.out.bound HF.out (by omega) (by decide); have := N5.out.2; have := N7.out.2; omega)).mono ?_
          rintro e X8 ⟨v8, n8, rfl, hn8, hl8, ha, hg⟩
          have A8 := hid ha
          have G8 := hid hg
          clear ha hg
          have N8 := hid (And.intro hn8 hl8)
          obtain ⟨ad8, cp8, rfl⟩ := hn8.is
          clear hn8 hl8
          go_wp2_with fail
          go_ret
          exact HP.out 300 _ _ (A8.out.done 1 N8.out.1 (by have := N8.out.2; have := N5.out.2; have := N7.out.2; omega) (by omega)) (Or.inr ⟨HPos.out, by omega⟩)
        · go_wp2_with fail
          refine (A2.out.name HF.out (by omega)).mono ?_
          rintro e X3 ⟨x3, s3, rfl, hb3, ha, hg⟩
          have A3 := hid ha
          have G3 := hid hg
          clear ha hg
          have B3 := hid hb3
          clear hb3
          go_wp2_with fail
          refine (A3.out.name HF.out (by omega)).mono ?_
          rintro e X4 ⟨x4, s4, rfl, hb4, ha, hg⟩
          have A4 := hid ha
          have G4 := hid hg
          clear ha hg
          have B4 := hid hb4
          clear hb4
          go_wp2_with fail
          refine (A4.out.nodes (HO.out (deep - 1) 4 _ _ _ _ _ _ (by have := HD.out; omega) (by have := HD.out; omega) (A4.out.fit HF.out 10 (by omega)) A4.out.1 (HE.out.grew (G1.out.trans (G2.out.trans (G3.out.trans G4.out)))).down)).mono ?_
          rintro e X5 ⟨v5, n5, s5, t5, rfl, hn5, hl5, ha, hg⟩
          have A5 := hid ha
          have G5 := hid hg
          clear ha hg
          have N5 := hid (And.intro hn5 hl5)
          obtain ⟨ad5, cp5, rfl⟩ := hn5.is
          clear hn5 hl5
          go_wp2_with fail
          refine (A5.out.nodes (HO.out (deep - 1) ty _ _ _ _ _ _ (by have := HD.out; omega) (by have := HD.out; omega) (A5.out.fit HF.out 10 (by omega)) A5.out.1 (HE.out.grew (G1.out.trans (G2.out.trans (G3.out.trans (G4.out.trans G5.out))))).down)).mono ?_
          rintro e X6 ⟨v6, n6, s6, t6, rfl, hn6, hl6, ha, hg⟩
          have A6 := hid ha
          have G6 := hid hg
          clear ha hg
          have N6 := hid (And.intro hn6 hl6)
          obtain ⟨ad6, cp6, rfl⟩ := hn6.is
          clear hn6 hl6
          go_wp2_with fail
          refine (A6.out.add x3 1 0 (HE.out.grew (G1.out.trans (G2.out.trans (G3.out.trans (G4.out.trans (G5.out.trans G6.out)))))).know B3.out (by have := HE.out.room; omega)).mono ?_
          rintro e X7 ⟨u7, ks7, rfl, hk7, hkl7, ha, hg⟩
          have A7 := hid ha
          have G7 := hid hg
          clear ha hg
          have K7 := hid (And.intro hk7 hkl7)
          obtain ⟨ad7, cp7, rfl⟩ := hk7.is
          clear hk7 hkl7
          go_wp2_with fail
          refine (A7.out.add x4 4 0 K7.out.1 B4.out (by have := HE.out.room; have := K7.out.2; omega)).mono ?_
          rintro e X8 ⟨u8, ks8, rfl, hk8, hkl8, ha, hg⟩
          have A8 := hid ha
          have G8 := hid hg
          clear ha hg
          have K8 := hid (And.intro hk8 hkl8)
          obtain ⟨ad8, cp8, rfl⟩ := hk8.is
          clear hk8 hkl8
          go_wp2_with fail
          refine (A8.out.nodes (HO.out (deep - 1) ty _ _ _ _ _ _ (by have := HD.out; omega) (by have := HD.out; omega) (A8.out.fit HF.out 10 (by omega)) A8.out.1 ((HE.out.grew (G1.out.trans (G2.out.trans (G3.out.trans (G4.out.trans (G5.out.trans (G6.out.trans (G7.out.trans G8.out)))))))).with K8.out.1 (by have := K7.out.2; have := K8.out.2; omega)))).mono ?_
          rintro e X9 ⟨v9, n9, s9, t9, rfl, hn9, hl9, ha, hg⟩
          have A9 := hid ha
          have G9 := hid hg
          clear ha hg
          have N9 := hid (And.intro hn9 hl9)
          obtain ⟨ad9, cp9, rfl⟩ := hn9.is
          clear hn9 hl9
          go_wp2_with fail
          refine (A9.out.put3 20 0 0 x3 x4 ByteArray.empty (N5.out.1.grew (G6.out.trans (G7.out.trans (G8.out.trans G9.out)))) (N6.out.1.grew (G7.out.trans (G8.out.trans G9.out))) N9.out.1 ⟨B3.out, B4.out, brief_none⟩ (by have := A9.out.bound HF.out (by omega) (by decide); have := N5.out.2; have := N6.out.2; have := N9.out.2; omega)).mono ?_
          rintro e X10 ⟨v10, n10, rfl, hn10, hl10, ha, hg⟩
          have A10 := hid ha
          have G10 := hid hg
          clear ha hg
          have N10 := hid (And.intro hn10 hl10)
          obtain ⟨ad10, cp10, rfl⟩ := hn10.is
          clear hn10 hl10
          go_wp2_with fail
          go_ret
          exact HP.out 300 _ _ (A10.out.done 1 N10.out.1 (by have := N10.out.2; have := N5.out.2; have := N6.out.2; have := N9.out.2; omega) (by omega)) (Or.inr ⟨HPos.out, by omega⟩)
        · go_wp2_with fail
          refine (A2.out.nodes (HH.out ty (deep - 1) _ _ _ _ _ _ (by have := HD.out; omega) (by have := HD.out; omega) A2.out.1 (A2.out.fit HF.out 250 (by omega)) (HE.out.grew (G1.out.trans G2.out)))).mono ?_
          rintro e X3 ⟨v3, n3, s3, t3, rfl, hn3, hl3, ha, hg⟩
          have A3 := hid ha
          have G3 := hid hg
          clear ha hg
          have N3 := hid (And.intro hn3 hl3)
          obtain ⟨ad3, cp3, rfl⟩ := hn3.is
          clear hn3 hl3
          go_wp2_with fail
          go_ret
          exact HP.out 300 _ _ (A3.out.done 0 N3.out.1 (by have := N3.out.2; omega) (by omega)) (Or.inr ⟨HPos.out, by omega⟩)
        · go_wp2_with fail
          refine (A2.out.nodes (HH.out ty (deep - 1) _ _ _ _ _ _ (by have := HD.out; omega) (by have := HD.out; omega) A2.out.1 (A2.out.fit HF.out 250 (by omega)) (HE.out.grew (G1.out.trans G2.out)))).mono ?_
          rintro e X3 ⟨v3, n3, s3, t3, rfl, hn3, hl3, ha, hg⟩
          have A3 := hid ha
          have G3 := hid hg
          clear ha hg
          have N3 := hid (And.intro hn3 hl3)
          obtain ⟨ad3, cp3, rfl⟩ := hn3.is
          clear hn3 hl3
          go_wp2_with fail
          go_ret
          exact HP.out 300 _ _ (A3.out.done 0 N3.out.1 (by have := N3.out.2; omega) (by omega)) (Or.inr ⟨HPos.out, by omega⟩)
        · go_wp2_with fail
          refine (A2.out.nodes0 (cont_calls ty (deep - 1) HO.out (by have := HD.out; omega) (by have := HD.out; omega) (by have := HD.out; omega) A2.out.1 (A2.out.fit HF.out 30 (by omega)) (HE.out.grew (G1.out.trans G2.out)))).mono ?_
          rintro e X3 ⟨v3, n3, s3, t3, rfl, hn3, hl3, ha, hg⟩
          have A3 := hid ha
          have G3 := hid hg
          clear ha hg
          have N3 := hid (And.intro hn3 hl3)
          obtain ⟨ad3, cp3, rfl⟩ := hn3.is
          clear hn3 hl3
          by_cases hz : n3.length = 0
          · rw [hz]
            go_wp2_with fail
            refine (A3.out.nodes (gown_calls ty (deep - 1) HO.out (by have := HD.out; omega) (by have := HD.out; omega) (by have := HD.out; omega) A3.out.1 (A3.out.fit HF.out 100 (by omega)) (HE.out.grew (G1.out.trans (G2.out.trans G3.out))))).mono ?_
            rintro e X4 ⟨v4, n4, s4, t4, rfl, hn4, hl4, ha, hg⟩
            have A4 := hid ha
            have G4 := hid hg
            clear ha hg
            have N4 := hid (And.intro hn4 hl4)
            obtain ⟨ad4, cp4, rfl⟩ := hn4.is
            clear hn4 hl4
            go_wp2_with fail
            go_ret
            exact HP.out 300 _ _ (A4.out.done 0 N4.out.1 (by have := N4.out.2; omega) (by omega)) (Or.inr ⟨HPos.out, by omega⟩)
          · have hz' : (0 : Int) < (n3.length : Int) := by omega
            go_wp2_with fail
            go_ret
            exact HP.out 300 _ _ (A3.out.done 0 N3.out.1 (by have := N3.out.2; omega) (by omega)) (Or.inr ⟨HPos.out, by omega⟩)
        · go_wp2_with fail
          refine (A2.out.nodes0 (perform_calls ty (deep - 1) HO.out (by have := HD.out; omega) (by have := HD.out; omega) (by have := HD.out; omega) A2.out.1 (A2.out.fit HF.out 30 (by omega)) (HE.out.grew (G1.out.trans G2.out)))).mono ?_
          rintro e X3 ⟨v3, n3, s3, t3, rfl, hn3, hl3, ha, hg⟩
          have A3 := hid ha
          have G3 := hid hg
          clear ha hg
          have N3 := hid (And.intro hn3 hl3)
          obtain ⟨ad3, cp3, rfl⟩ := hn3.is
          clear hn3 hl3
          by_cases hz : n3.length = 0
          · rw [hz]
            go_wp2_with fail
            refine (A3.out.nodes (gown_calls ty (deep - 1) HO.out (by have := HD.out; omega) (by have := HD.out; omega) (by have := HD.out; omega) A3.out.1 (A3.out.fit HF.out 100 (by omega)) (HE.out.grew (G1.out.trans (G2.out.trans G3.out))))).mono ?_
            rintro e X4 ⟨v4, n4, s4, t4, rfl, hn4, hl4, ha, hg⟩
            have A4 := hid ha
            have G4 := hid hg
            clear ha hg
            have N4 := hid (And.intro hn4 hl4)
            obtain ⟨ad4, cp4, rfl⟩ := hn4.is
            clear hn4 hl4
            go_wp2_with fail
            go_ret
            exact HP.out 300 _ _ (A4.out.done 0 N4.out.1 (by have := N4.out.2; omega) (by omega)) (Or.inr ⟨HPos.out, by omega⟩)
          · have hz' : (0 : Int) < (n3.length : Int) := by omega
            go_wp2_with fail
            go_ret
            exact HP.out 300 _ _ (A3.out.done 0 N3.out.1 (by have := N3.out.2; omega) (by omega)) (Or.inr ⟨HPos.out, by omega⟩)
        · have g0 := A2.out.1.c0
          go_wp2_with fail
          refine (A2.out.pick HF.out (by omega) 2 (by decide)).mono ?_
          rintro e X3 ⟨m3, s3, rfl, hm3, hM3, ha, hg⟩
          have A3 := hid ha
          have G3 := hid hg
          clear ha hg
          clear g0
          by_cases h7 : m3 = 0
          · subst h7
            go_upto_region 29 with fail
            refine pick_begin (S := fun w' => w'.cell? ⟨d.G, 0, none⟩ = some (.pointer (some ⟨d.B, 0, none⟩))) (by kernel_rfl) rfl rfl ?_
            have A4 := hid A3.out.drew
            have G4 := hid (Grew.refl d X3).drew
            generalize X3.drew = X4 at *
            refine pick_op (i := 0) (v := .agg #[.int .i64 17, .int .i64 0, .string ⟨#[]⟩, .string ⟨#[]⟩, .string ⟨#[]⟩, .int .i64 0]) (by kernel_rfl) rfl (by kernel_rfl) (by kernel_rfl) rfl rfl (fun w' hw => by simp [go_sem]) (A4.out.1.c0) (by simp [go_sem]; exact rfl) ?_
            refine pick_op (i := 1) (v := .agg #[.int .i64 16, .int .i64 0, .string ⟨#[]⟩, .string ⟨#[]⟩, .string ⟨#[]⟩, .int .i64 0]) (by kernel_rfl) rfl (by kernel_rfl) (by kernel_rfl) rfl rfl (fun w' hw => by simp [go_sem]) (A4.out.1.c0) (by simp [go_sem]; exact rfl) ?_
            refine pick_op (i := 2) (v := .pointer (some ⟨d.G, 0, none⟩)) (by kernel_rfl) rfl (by kernel_rfl) (by kernel_rfl) rfl rfl (fun w' hw => by simp [go_sem]) (A4.out.1.c0) (by simp [go_sem]; exact rfl) ?_
            refine pick_op (i := 3) (v := .int .i64 ty) (by kernel_rfl) rfl (by kernel_rfl) (by kernel_rfl) rfl rfl (fun w' hw => by simp [go_sem]) (A4.out.1.c0) (by simp [go_sem]; exact rfl) ?_
            refine pick_op (i := 4) (v := .slice ad ks.length cp) (by kernel_rfl) rfl (by kernel_rfl) (by kernel_rfl) rfl rfl (fun w' hw => by simp [go_sem]) (A4.out.1.c0) (by simp [go_sem]; exact rfl) ?_
            refine pick_op (i := 5) (v := .slice adm ms.length cpm) (by kernel_rfl) rfl (by kernel_rfl) (by kernel_rfl) rfl rfl (fun w' hw => by simp [go_sem]) (A4.out.1.c0) (by simp [go_sem]; exact rfl) ?_
            refine pick_op (i := 6) (v := .int .i64 (deep - 1)) (by kernel_rfl) rfl (by kernel_rfl) (by kernel_rfl) rfl rfl (fun w' hw => by simp [go_sem]) (A4.out.1.c0) (by simp [go_sem]; exact rfl) ?_
            refine pick_op (i := 8) (v := .pointer (some ⟨d.G, 0, none⟩)) (by kernel_rfl) rfl (by kernel_rfl) (by kernel_rfl) rfl rfl (fun w' hw => by simp [go_sem]) (A4.out.1.c0) (by simp [go_sem]; exact rfl) ?_
            refine pick_op (i := 9) (v := .pointer (some ⟨d.G, 0, none⟩)) (by kernel_rfl) rfl (by kernel_rfl) (by kernel_rfl) rfl rfl (fun w' hw => by simp [go_sem]) (A4.out.1.c0) (by simp [go_sem]; exact rfl) ?_
            refine pick_op (i := 10) (v := .pointer (some ⟨d.G, 0, none⟩)) (by kernel_rfl) rfl (by kernel_rfl) (by kernel_rfl) rfl rfl (fun w' hw => by simp [go_sem]) (A4.out.1.c0) (by simp [go_sem]; exact rfl) ?_
            refine pick_op (i := 11) (v := .pointer (some ⟨d.G, 0, none⟩)) (by kernel_rfl) rfl (by kernel_rfl) (by kernel_rfl) rfl rfl (fun w' hw => by simp [go_sem]) (A4.out.1.c0) (by simp [go_sem]; exact rfl) ?_
            refine pick_op (i := 12) (v := .pointer (some ⟨d.B, 0, none⟩)) (by kernel_rfl) rfl (by kernel_rfl) (by kernel_rfl) rfl rfl (fun w' hw => by simp [go_sem, hw]) (A4.out.1.c0) (by simp [go_sem]; exact rfl) ?_
            refine pick_op (i := 15) (v := .slice ad ks.length cp) (by kernel_rfl) rfl (by kernel_rfl) (by kernel_rfl) rfl rfl (fun w' hw => by simp [go_sem]) (A4.out.1.c0) (by simp [go_sem]; exact rfl) ?_
            refine pick_enter (i := 7) (f := 38) (args := #[.pointer (some ⟨d.G, 0, none⟩), .int .i64 ty, .slice ad ks.length cp, .slice adm ms.length cpm, .int .i64 (deep - 1)]) rfl (by kernel_rfl) rfl rfl (by simp [go_sem]) ?_
            refine (A4.out.nodes (HO.out (deep - 1) ty _ _ _ _ _ _ (by have := HD.out; omega) (by have := HD.out; omega) (A4.out.fit HF.out 10 (by omega)) A4.out.1 (HE.out.grew (G1.out.trans (G2.out.trans (G3.out.trans G4.out)))).down)).mono ?_
            rintro e X5 ⟨v5, n5, s5, t5, rfl, hn5, hl5, ha, hg⟩
            have A5 := hid ha
            have G5 := hid hg
            clear ha hg
            have N5 := hid (And.intro hn5 hl5)
            obtain ⟨ad5, cp5, rfl⟩ := hn5.is
            clear hn5 hl5
            refine ⟨_, rfl, (A5.out.1.c0), ?_⟩
            refine pick_frame (by simp [go_sem]; exact rfl) ?_
            refine pick_enter (i := 13) (f := 13) (args := #[.pointer (some ⟨d.B, 0, none⟩), .int .i64 4]) rfl (by kernel_rfl) rfl rfl (by simp [go_sem]) ?_
            refine (A5.out.pick HF.out (by omega) 4 (by decide)).mono ?_
            rintro e X6 ⟨m6, s6, rfl, hm6, hM6, ha, hg⟩
            have A6 := hid ha
            have G6 := hid hg
            clear ha hg
            refine ⟨_, rfl, (A6.out.1.c0), ?_⟩
            refine pick_frame (by simp [go_sem]; exact rfl) ?_
            have hwr : IntKind.i64.wrap (1 + m6) = 1 + m6 := by rw [IntKind.wrap_i64]; omega
            refine pick_op (i := 14) (v := .int .i64 (1 + m6)) (by kernel_rfl) rfl (by kernel_rfl) (by kernel_rfl) rfl rfl (fun w' hw => by simp [go_sem, hwr]) (A6.out.1.c0) (by simp [go_sem]; exact rfl) ?_
            clear hwr
            refine pick_enter (i := 16) (f := 54) (args := #[.pointer (some ⟨d.G, 0, none⟩), .int .i64 (1 + m6), .slice ad ks.length cp]) rfl (by kernel_rfl) rfl rfl (by simp [go_sem]) ?_
            refine (A6.out.nodes (leaf_calls (1 + m6) A6.out.1 (A6.out.fit HF.out 10 (by omega)) (HE.out.grew (G1.out.trans (G2.out.trans (G3.out.trans (G4.out.trans (G5.out.trans G6.out)))))).know (by have := HE.out.room; omega))).mono ?_
            rintro e X7 ⟨v7, n7, s7, t7, rfl, hn7, hl7, ha, hg⟩
            have A7 := hid ha
            have G7 := hid hg
            clear ha hg
            have N7 := hid (And.intro hn7 hl7)
            obtain ⟨ad7, cp7, rfl⟩ := hn7.is
            clear hn7 hl7
            refine ⟨_, rfl, (A7.out.1.c0), ?_⟩
            refine pick_frame (by simp [go_sem]; exact rfl) ?_
            have KV : Hid (KidsV d (X7.alloc (.cells #[.slice ad5 n5.length cp5, .slice ad7 n7.length cp7] 53)) (.slice (some ⟨X7.heap.size, 0, none⟩) 2 2) [(.slice ad5 n5.length cp5, n5), (.slice ad7 n7.length cp7, n7)]) := (kids_lit [(.slice ad5 n5.length cp5, n5), (.slice ad7 n7.length cp7, n7)] _ rfl A7.out.1.ltB A7.out.1.ltG (fun x hx => by simp at hx; rcases hx with rfl | rfl; exact (N5.out.1.grew (G6.out.trans G7.out)); exact N7.out.1))
            have A8 := hid (A7.out.alloc (.cells #[.slice ad5 n5.length cp5, .slice ad7 n7.length cp7] 53))
            have G8 := hid ((Grew.refl d X7).alloc (.cells #[.slice ad5 n5.length cp5, .slice ad7 n7.length cp7] 53))
            refine pick_make (i := 17) (v := .slice (some ⟨X7.heap.size, 0, none⟩) 2 2) (w1 := X7.alloc (.cells #[.slice ad5 n5.length cp5, .slice ad7 n7.length cp7] 53)) rfl (by kernel_rfl) rfl rfl (by simp [go_sem]) (A8.out.1.c0) (by simp [go_sem]; exact rfl) ?_
            generalize X7.alloc (.cells #[.slice ad5 n5.length cp5, .slice ad7 n7.length cp7] 53) = X8 at *
            refine pick_enter (i := 18) (f := 55) (args := #[.agg #[.int .i64 16, .int .i64 0, .string ⟨#[]⟩, .string ⟨#[]⟩, .string ⟨#[]⟩, .int .i64 0], .slice (some ⟨X7.heap.size, 0, none⟩) 2 2]) rfl (by kernel_rfl) rfl rfl (by simp [go_sem]) ?_
            refine (A8.out.put_kids 16 0 0 ⟨#[]⟩ ⟨#[]⟩ ⟨#[]⟩ KV.out ⟨brief_none, brief_none, brief_none⟩ (by simp) (by have := A8.out.bound HF.out (by omega) (by decide); have := N5.out.2; have := N7.out.2; simp [flatL]; omega)).mono ?_
            rintro e X9 ⟨v9, n9, rfl, hn9, hl9, ha, hg⟩
            have A9 := hid ha
            have G9 := hid hg
            clear ha hg
            have N9 := hid (And.intro hn9 hl9)
            obtain ⟨ad9, cp9, rfl⟩ := hn9.is
            clear hn9 hl9
            refine ⟨_, rfl, (A9.out.1.c0), ?_⟩
            refine pick_frame (by simp [go_sem]; exact rfl) ?_
            have KW : Hid (KidsV d (X9.alloc (.cells #[.slice ad9 n9.length cp9] 53)) (.slice (some ⟨X9.heap.size, 0, none⟩) 1 1) [(.slice ad9 n9.length cp9, n9)]) := (kids_lit [(.slice ad9 n9.length cp9, n9)] _ rfl A9.out.1.ltB A9.out.1.ltG (fun x hx => by simp at hx; rcases hx with rfl; exact N9.out.1))
            have A10 := hid (A9.out.alloc (.cells #[.slice ad9 n9.length cp9] 53))
            have G10 := hid ((Grew.refl d X9).alloc (.cells #[.slice ad9 n9.length cp9] 53))
            refine pick_make (i := 19) (v := .slice (some ⟨X9.heap.size, 0, none⟩) 1 1) (w1 := X9.alloc (.cells #[.slice ad9 n9.length cp9] 53)) rfl (by kernel_rfl) rfl rfl (by simp [go_sem]) (A10.out.1.c0) (by simp [go_sem]; exact rfl) ?_
            generalize X9.alloc (.cells #[.slice ad9 n9.length cp9] 53) = X10 at *
            refine pick_enter (i := 20) (f := 55) (args := #[.agg #[.int .i64 17, .int .i64 0, .string ⟨#[]⟩, .string ⟨#[]⟩, .string ⟨#[]⟩, .int .i64 0], .slice (some ⟨X9.heap.size, 0, none⟩) 1 1]) rfl (by kernel_rfl) rfl rfl (by simp [go_sem]) ?_
            refine (A10.out.put_kids 17 0 0 ⟨#[]⟩ ⟨#[]⟩ ⟨#[]⟩ KW.out ⟨brief_none, brief_none, brief_none⟩ (by simp) (by have := A10.out.bound HF.out (by omega) (by decide); have q1 := N9.out.2; have := N5.out.2; have := N7.out.2; simp [flatL] at q1; simp [flatL]; omega)).mono ?_
            rintro e X11 ⟨v11, n11, rfl, hn11, hl11, ha, hg⟩
            have A11 := hid ha
            have G11 := hid hg
            clear ha hg
            have N11 := hid (And.intro hn11 hl11)
            obtain ⟨ad11, cp11, rfl⟩ := hn11.is
            clear hn11 hl11
            refine ⟨_, rfl, (A11.out.1.c0), ?_⟩
            refine pick_frame (by simp [go_sem]; exact rfl) ?_
            refine pick_op (i := 21) (v := .slice ad11 n11.length cp11) (by kernel_rfl) rfl (by kernel_rfl) (by kernel_rfl) rfl rfl (fun w' hw => by simp [go_sem]) (A11.out.1.c0) (by simp [go_sem]; exact rfl) ?_
            refine pick_end (by kernel_rfl) ?_
            go_wp2_with fail
            go_ret
            exact HP.out 300 _ _ (A11.out.done 5 N11.out.1 (by have := N11.out.2; have := N9.out.2; have := N5.out.2; have := N7.out.2; simp [flatL] at *; omega) (by omega)) (Or.inr ⟨HPos.out, by omega⟩)
          · have z7 : (m3 == 0) = false := by simp [h7]
            have g0 := A3.out.1.c0
            go_wp2_with fail
            refine (A3.out.pick HF.out (by omega) 4 (by decide)).mono ?_
            rintro e X4 ⟨m4, s4, rfl, hm4, hM4, ha, hg⟩
            have A4 := hid ha
            have G4 := hid hg
            clear ha hg
            clear g0
            go_wp2_with fail
            refine (A4.out.nodes (leaf_calls (1 + m4) A4.out.1 (A4.out.fit HF.out 10 (by omega)) (HE.out.grew (G1.out.trans (G2.out.trans (G3.out.trans G4.out)))).know (by have := HE.out.room; omega))).mono ?_
            rintro e X5 ⟨v5, n5, s5, t5, rfl, hn5, hl5, ha, hg⟩
            have A5 := hid ha
            have G5 := hid hg
            clear ha hg
            have N5 := hid (And.intro hn5 hl5)
            obtain ⟨ad5, cp5, rfl⟩ := hn5.is
            clear hn5 hl5
            go_wp2_with fail
            refine (A5.out.nodes (HO.out (deep - 1) ty _ _ _ _ _ _ (by have := HD.out; omega) (by have := HD.out; omega) (A5.out.fit HF.out 10 (by omega)) A5.out.1 (HE.out.grew (G1.out.trans (G2.out.trans (G3.out.trans (G4.out.trans G5.out))))).down)).mono ?_
            rintro e X6 ⟨v6, n6, s6, t6, rfl, hn6, hl6, ha, hg⟩
            have A6 := hid ha
            have G6 := hid hg
            clear ha hg
            have N6 := hid (And.intro hn6 hl6)
            obtain ⟨ad6, cp6, rfl⟩ := hn6.is
            clear hn6 hl6
            go_wp2_with fail
            refine (A6.out.put2 16 0 0 ByteArray.empty ByteArray.empty ByteArray.empty (N5.out.1.grew G6.out) N6.out.1 ⟨brief_none, brief_none, brief_none⟩ (by have := A6.out.bound HF.out (by omega) (by decide); have := N5.out.2; have := N6.out.2; omega)).mono ?_
            rintro e X7 ⟨v7, n7, rfl, hn7, hl7, ha, hg⟩
            have A7 := hid ha
            have G7 := hid hg
            clear ha hg
            have N7 := hid (And.intro hn7 hl7)
            obtain ⟨ad7, cp7, rfl⟩ := hn7.is
            clear hn7 hl7
            go_wp2_with fail
            refine (A7.out.put1 18 0 0 ByteArray.empty ByteArray.empty ByteArray.empty N7.out.1 ⟨brief_none, brief_none, brief_none⟩ (by have := A7.out.bound HF.out (by omega) (by decide); have := N7.out.2; have := N5.out.2; have := N6.out.2; omega)).mono ?_
            rintro e X8 ⟨v8, n8, rfl, hn8, hl8, ha, hg⟩
            have A8 := hid ha
            have G8 := hid hg
            clear ha hg
            have N8 := hid (And.intro hn8 hl8)
            obtain ⟨ad8, cp8, rfl⟩ := hn8.is
            clear hn8 hl8
            go_wp2_with fail
            go_ret
            exact HP.out 300 _ _ (A8.out.done 2 N8.out.1 (by have := N8.out.2; have := N7.out.2; have := N5.out.2; have := N6.out.2; omega) (by omega)) (Or.inr ⟨HPos.out, by omega⟩)
        · go_wp2_with fail
          refine (A2.out.nodes (gown_calls ty (deep - 1) HO.out (by have := HD.out; omega) (by have := HD.out; omega) (by have := HD.out; omega) A2.out.1 (A2.out.fit HF.out 100 (by omega)) (HE.out.grew (G1.out.trans G2.out)))).mono ?_
          rintro e X3 ⟨v3, n3, s3, t3, rfl, hn3, hl3, ha, hg⟩
          have A3 := hid ha
          have G3 := hid hg
          clear ha hg
          have N3 := hid (And.intro hn3 hl3)
          obtain ⟨ad3, cp3, rfl⟩ := hn3.is
          clear hn3 hl3
          go_wp2_with fail
          go_ret
          exact HP.out 300 _ _ (A3.out.done 0 N3.out.1 (by have := N3.out.2; omega) (by omega)) (Or.inr ⟨HPos.out, by omega⟩)
        · go_wp2_with fail
          refine (A2.out.nodes (gown_calls ty (deep - 1) HO.out (by have := HD.out; omega) (by have := HD.out; omega) (by have := HD.out; omega) A2.out.1 (A2.out.fit HF.out 100 (by omega)) (HE.out.grew (G1.out.trans G2.out)))).mono ?_
          rintro e X3 ⟨v3, n3, s3, t3, rfl, hn3, hl3, ha, hg⟩
          have A3 := hid ha
          have G3 := hid hg
          clear ha hg
          have N3 := hid (And.intro hn3 hl3)
          obtain ⟨ad3, cp3, rfl⟩ := hn3.is
          clear hn3 hl3
          go_wp2_with fail
          go_ret
          exact HP.out 300 _ _ (A3.out.done 0 N3.out.1 (by have := N3.out.2; omega) (by omega)) (Or.inr ⟨HPos.out, by omega⟩)
        · go_wp2_with fail
          refine (A2.out.nodes (gown_calls ty (deep - 1) HO.out (by have := HD.out; omega) (by have := HD.out; omega) (by have := HD.out; omega) A2.out.1 (A2.out.fit HF.out 100 (by omega)) (HE.out.grew (G1.out.trans G2.out)))).mono ?_
          rintro e X3 ⟨v3, n3, s3, t3, rfl, hn3, hl3, ha, hg⟩
          have A3 := hid ha
          have G3 := hid hg
          clear ha hg
          have N3 := hid (And.intro hn3 hl3)
          obtain ⟨ad3, cp3, rfl⟩ := hn3.is
          clear hn3 hl3
          go_wp2_with fail
          go_ret
          exact HP.out 300 _ _ (A3.out.done 0 N3.out.1 (by have := N3.out.2; omega) (by omega)) (Or.inr ⟨HPos.out, by omega⟩)
end Go.Proofs.Ytnbmhopoiijhoaa

/- The drawer keeps its contract at all depths. -/
namespace Go.Proofs.Ytnbmhopoiijhoaa
open Go.RowKit Go.Deep

set_option maxHeartbeats 8000000 in
set_option maxRecDepth 100000 in
theorem of_zero {d : Dr} {ve : Value} {es : List Ef} : OfC d ve es 0 := by
  intro deep ty v vm ks ms W s h1 h2 hf h hE
  have hl := h.setLeft (s.left - 1)
  have f2 := h.f2
  have c2 := h.c2
  have HW : Hid (wrap64 (s.left - 1) = s.left - 1) := by show _ = _; unfold Fit at hf; unfold wrap64; omega
  have hd : deep ≤ 1 := by omega
  obtain ⟨ad, cp, rfl⟩ := hE.know.is
  obtain ⟨adm, cpm, rfl⟩ := hE.may.is
  obtain ⟨X, hX⟩ : ∃ X, W.setCell ⟨d.G, 2, none⟩ (.int .i64 (s.left - 1)) = X := ⟨_, rfl⟩
  rw [hX] at hl
  have HX := hid hX
  obtain ⟨s1, hs1⟩ : ∃ s1 : Cn, { s with left := s.left - 1 } = s1 := ⟨_, rfl⟩
  rw [hs1] at hl
  have e1 : s1.p = s.p := by rw [← hs1]
  have e2 : s1.next = s.next := by rw [← hs1]
  have e3 : s1.left = s.left - 1 := by rw [← hs1]
  have HFF := hid (of_fit hf e1 e2 e3)
  have HP := hid (fun (c : Nat) (e : Ending) (Y : World) (h : NodesPost d ve X s1 c e Y) (hc : c ≤ 9 ∨ (0 < s.left ∧ c ≤ 300)) => of_post hl.2 e1 e2 e3 h hc)
  have A0 := hid (At.start hl.1)
  have HE := hid (hE.grew hl.2)
  have g2 := hl.1.c2
  have g0 := hl.1.c0
  rw [e3] at g2
  obtain ⟨L, hL⟩ : ∃ L : Int, s.left - 1 = L := ⟨_, rfl⟩
  have HLe := hid hL
  rw [hL] at g2
  clear hl hf h hE hX hs1 e1 e2 e3 hL
  go_enter Try.func38, Try.ntmps38
  go_upto_region 2 with fail
  try rw [HW.out]
  rw [HX.out]
  clear c2 f2 HW HX
  have HLF := hid (leaf_nine ty A0.out.1 HFF.out.1 HE.out.know (by have := HE.out.room; omega))
  go_wp2_with fail
  refine HLF.out.mono ?_
  rintro e Xl ⟨vl, nl, sl, tl, rfl, hnl, hll, hgl, hgrl, hspl⟩
  have NL := hid (And.intro hnl (And.intro hll (And.intro hgl (And.intro hgrl hspl))))
  clear hnl hll hgl hgrl hspl
  go_wp2_with fail
  go_ret
  exact HP.out 9 _ _ ⟨vl, nl, sl, tl, rfl, NL.out.1, NL.out.2.1, NL.out.2.2.1, NL.out.2.2.2.1, NL.out.2.2.2.2⟩ (Or.inl (by omega))

theorem of_all {d : Dr} {ve : Value} {es : List Ef} : ∀ D : Nat, D ≤ 90 → OfC d ve es D
  | 0, _ => of_zero
  | D + 1, h => of_step (by omega) (of_all D (by omega)) (fun ty deep v vm ks ms X s h1 h2 hG hF hE => handler_calls ty deep (of_all D (by omega)) h1 h2 (by omega) hG hF hE)
end Go.Proofs.Ytnbmhopoiijhoaa

/- The operations of a drawn program; a reader without a drawer, and with one. -/
namespace Go.Proofs.Ytnbmhopoiijhoaa
open Go.RowKit Go.Deep

/-- The reader with a drawer beside it. -/
def Dr.on (d : Dr) (G : Nat) : Dr := ⟨d.B, G, d.a0, d.len, d.cap⟩

theorem free_on {d : Dr} {W W' : World} {q : Nat} (h : d.free W q) (hs : W.heap.size ≤ W'.heap.size) {G : Nat} (hg : W.heap.size ≤ G) : (d.on G).free W' q :=
  ⟨Nat.lt_of_lt_of_le h.1 hs, h.2.1, by have := h.1; show q ≠ G; omega⟩

theorem free_off {d : Dr} {W : World} {q G : Nat} (hG : d.G = d.B) (h : (d.on G).free W q) : d.free W q := ⟨h.1, h.2.1, by rw [hG]; exact h.2.1⟩

theorem Lies.on {d : Dr} {W W' : World} {v : Value} {n sz G : Nat} {F : Nat → Value} (h : Lies d W v n sz F) (hb : Below W.heap.size W W') (hg : W.heap.size ≤ G) : Lies (d.on G) W' v n sz F := by
  rcases h with h | ⟨b, off, cap, h1, h2, h3, h4, h5⟩
  · exact Or.inl h
  · exact Or.inr ⟨b, off, cap, h1, h2, h3, free_on h4 hb.size hg, fun i hi => (hb.cell (p := ⟨b, off + i, none⟩) h4.1).trans (h5 i hi)⟩

theorem Lies.off {d : Dr} {W : World} {v : Value} {n sz G : Nat} {F : Nat → Value} (hG : d.G = d.B) (h : Lies (d.on G) W v n sz F) : Lies d W v n sz F := by
  rcases h with h | ⟨b, off, cap, h1, h2, h3, h4, h5⟩
  · exact Or.inl h
  · exact Or.inr ⟨b, off, cap, h1, h2, h3, free_off hG h4, h5⟩

theorem Rdr.on {d : Dr} {W W' : World} {p G : Nat} (h : Rdr d W p) (hb : Below W.heap.size W W') (hg : W.heap.size ≤ G) : Rdr (d.on G) W' p := by
  refine ⟨(hb.block _ (heap_lt h.blk)).trans h.blk, fun hl => ?_⟩
  obtain ⟨b, off, ea, hq, hz⟩ := h.bytes hl
  refine ⟨b, off, ea, free_on hq hb.size hg, fun i hi => ?_⟩
  obtain ⟨z, hz, h2⟩ := hz i hi
  exact ⟨z, (hb.cell (p := ⟨b, off + i, none⟩) hq.1).trans hz, h2⟩

theorem Rdr.off {d : Dr} {W : World} {p G : Nat} (hG : d.G = d.B) (h : Rdr (d.on G) W p) : Rdr d W p := by
  refine ⟨h.blk, fun hl => ?_⟩
  obtain ⟨b, off, ea, hq, hz⟩ := h.bytes hl
  exact ⟨b, off, ea, free_off hG hq, hz⟩

theorem Grew.off {d : Dr} {W X Y : World} {G : Nat} (h : Grew d W X) (g : Grew (d.on G) X Y) (hg : W.heap.size ≤ G) : Grew d W Y :=
  ⟨g.os.trans h.os, g.tape.trans h.tape, g.output.trans h.output, Nat.le_trans h.size g.size, fun q hq => (g.block q ⟨Nat.lt_of_lt_of_le hq.1 h.size, hq.2.1, by have := hq.1; show q ≠ G; omega⟩).trans (h.block q hq)⟩

theorem lies_take {α : Type} [Inhabited α] {f : α → Nat → Value} {sz : Nat} {d : Dr} {W : World} {b cap n k : Nat} {l : List α} (h : Lies d W (.slice (some ⟨b, 0, none⟩) n cap) l.length sz (fun i => f (l.getD (i / sz) default) (i % sz))) (hk : k ≤ n) (hn : 0 < n) (hl : l.length = n) : Lies d W (.slice (some ⟨b, 0, none⟩) k cap) (l.take k).length sz (fun i => f ((l.take k).getD (i / sz) default) (i % sz)) := by
  obtain ⟨-, hc, b', off, e, hq, h5⟩ := h.at hn
  cases e
  have hlk : (l.take k).length = k := by rw [List.length_take]; omega
  rw [hlk]
  refine Or.inr ⟨b, 0, cap, rfl, by omega, rfl, hq, fun i hi => ?_⟩
  have hi' : i / sz < k := Nat.div_lt_of_lt_mul (by rw [Nat.mul_comm]; exact hi)
  rw [h5 i (Nat.lt_of_lt_of_le hi (Nat.mul_le_mul_right _ hk))]
  have e : (l.take k).getD (i / sz) default = l.getD (i / sz) default := by simp [List.getD, List.getElem?_take_of_lt hi']
  show _ = some (f ((l.take k).getD (i / sz) default) (i % sz))
  rw [e]

def all4 : List Ef := [⟨⟨#[97, 115, 107]⟩, 3, 1⟩, ⟨⟨#[116, 101, 108, 108]⟩, 1, 3⟩, ⟨⟨#[102, 108, 105, 112]⟩, 3, 2⟩, ⟨⟨#[112, 97, 115, 115]⟩, 4, 1⟩]

theorem all4_brief : ∀ e ∈ all4, Brief e.name := by
  intro e he
  unfold all4 at he
  simp only [List.mem_cons, List.not_mem_nil, or_false] at he
  rcases he with rfl | rfl | rfl | rfl <;> (unfold Brief; decide)

def EffsPost (d : Dr) (W : World) (p : Nat) (e : Ending) (W' : World) : Prop :=
  ∃ v es, e = .returned v ∧ EffsD d W' v es ∧ 1 ≤ es.length ∧ es.length ≤ 4 ∧ Rdr d W' (p + 1) ∧ Grew d W W'

set_option maxHeartbeats 4000000 in
set_option maxRecDepth 100000 in
theorem effs_calls {d : Dr} {W : World} {p : Nat} (hG : d.G = d.B) (h : Rdr d W p) (hp : p ≤ 1000000) : Calls Try.prog 37 #[.pointer (some ⟨d.B, 0, none⟩)] W (EffsPost d W p) := by
  have hB := heap_lt h.blk
  have HL := hid (lies_lit (f := Ef.cell) (sz := 3) (d := d) (by decide) W 88 all4 _ rfl hB (by rw [hG]; exact hB))
  have hbl : Below W.heap.size W (W.alloc (.cells (rowZ Ef.cell 3 all4).toArray 88)) := (Below.refl _ _).alloc (Nat.le_refl _) _
  have HB := hid hbl
  have HP := hid (rdr_pick (h.below hbl) hp 4 (by decide))
  clear hbl h hp
  go_enter Try.func37, Try.ntmps37
  go_wp2_with fail
  refine HP.out.mono ?_
  rintro e X ⟨m, rfl, hm0, hm1, hr, hg, -, -⟩
  have HR := hid (And.intro hr hg)
  have HX := hid (HL.out.grew hg)
  clear hr hg HP HL
  have hcs : m = 0 ∨ m = 1 ∨ m = 2 ∨ m = 3 := by omega
  rcases hcs with rfl | rfl | rfl | rfl
  · go_wp2_with fail
    go_ret
    exact ⟨_, all4.take 1, rfl, ⟨lies_take HX.out (by decide) (by decide) rfl, fun e he => all4_brief e (List.mem_of_mem_take he)⟩, by decide, by decide, HR.out.1, (Grew.of_below HB.out).trans HR.out.2⟩
  · go_wp2_with fail
    go_ret
    exact ⟨_, all4.take 2, rfl, ⟨lies_take HX.out (by decide) (by decide) rfl, fun e he => all4_brief e (List.mem_of_mem_take he)⟩, by decide, by decide, HR.out.1, (Grew.of_below HB.out).trans HR.out.2⟩
  · go_wp2_with fail
    go_ret
    exact ⟨_, all4.take 3, rfl, ⟨lies_take HX.out (by decide) (by decide) rfl, fun e he => all4_brief e (List.mem_of_mem_take he)⟩, by decide, by decide, HR.out.1, (Grew.of_below HB.out).trans HR.out.2⟩
  · go_wp2_with fail
    go_ret
    exact ⟨_, all4.take 4, rfl, ⟨lies_take HX.out (by decide) (by decide) rfl, fun e he => all4_brief e (List.mem_of_mem_take he)⟩, by decide, by decide, HR.out.1, (Grew.of_below HB.out).trans HR.out.2⟩
end Go.Proofs.Ytnbmhopoiijhoaa

/- A drawn program: mostly one that has a type, and always one whose tree is a tree. -/
namespace Go.Proofs.Ytnbmhopoiijhoaa
open Go.RowKit Go.Deep

/-- These nodes are a tree, within the sizes. -/
def Tr (ns : List Nd) : Prop := ∃ (n : Nd) (k : Fo), ns = n :: k.flat ∧ n.kids = k.count ∧ k.wf ∧ ns.length ≤ 300

theorem tr_of_ans {ns : List Nd} (h : SpecAns ns true) : Tr ns := by
  rcases h with ⟨-, h⟩ | ⟨-, -, -, h⟩ | ⟨h1, h2, n, k, e1, e2, e3, -⟩
  · cases h
  · cases h
  · exact ⟨n, k, e1, e2, e3, h2⟩

theorem prog_true {es : List Ef} {ns : List Nd} {T : Bool} (h : progZ es ns T = true) : T = true := by
  unfold progZ at h
  cases T
  · simp at h
  · rfl

def ProgPost (d : Dr) (W : World) (p : Nat) (e : Ending) (W' : World) : Prop :=
  ∃ ad n cp vt es ns p', e = .returned (.agg #[.slice ad n cp, vt]) ∧ EffsD d W' (.slice ad n cp) es ∧ es.length ≤ 4 ∧ NodesD d W' vt ns ∧ Tr ns ∧ Rdr d W' p' ∧ p' ≤ p + 200000 ∧ Grew d W W'

/-- What lies there when the program is drawn. -/
structure Pg (d : Dr) (W X : World) (p p' : Nat) (rb : Nat) : Prop where
  rd : Rdr d X p'
  gr : Grew d W X
  res : X.heap[rb]? = some (.cells #[.slice none 0 0, .slice none 0 0] 55)
  low : W.heap.size ≤ rb

/-- A call, or one that makes something: whichever comes up. -/
theorem pick_either2 {P : Program} {l0 : List Oper} {Q : Exit → Act → World → Prop} {S : World → Prop} {i j n : Nat} {ls : Array Bool} {a : Act} {w : World} (hr : (Region.ready .any l0.toArray ls == [i, j]) = true) (h1 : PickCl P l0 Q S n ls a w i) (h2 : PickMk P l0 Q S n ls a w j) : wpAnyH P .any l0.toArray (NoPanic Q) S (n + 1) ls a w := by
  refine wpAnyH_all (rs := [i, j]) (by simpa using hr) (by simp) (fun k hk => ?_)
  simp only [List.mem_cons, List.not_mem_nil, or_false] at hk
  rcases hk with rfl | rfl
  · exact h1.op
  · exact h2.op

theorem made_bools (n : Nat) (hn : n ≤ 1000) (w : World) : ∃ c : Array Value, c = madeCells #[.bool false] n ∧ (Instr.makeSlice 80 (.int .i64 (n : Int)) (.int .i64 (n : Int))).run Try.prog w = .ok (.slice (some ⟨w.heap.size, 0, none⟩) n n) (w.alloc (.cells c 4)) := by
  obtain ⟨i0, hi, hz0, hz1, hz2⟩ := info_parts info_bool
  have h := run_make (P := Try.prog) w 80 4 i0 _ Try.underlying80 hi hz0 .i64 .i64 n n (by omega) (Int.le_refl _) (by rw [hz2]; omega) (by omega)
  rw [hz1] at h
  simp only [Int.toNat_natCast, Nat.mul_one] at h
  exact ⟨_, rfl, h⟩

theorem bools_made {d : Dr} {X : World} {n : Nat} {c : Array Value} (hc : c = madeCells #[.bool false] n) (h1 : d.B < X.heap.size) (h2 : d.G < X.heap.size) : BoolsD d (X.alloc (.cells c 4)) (.slice (some ⟨X.heap.size, 0, none⟩) n n) (List.replicate n false) := by
  subst hc
  have hh := (MapKept.heap_alloc X (.cells (madeCells #[.bool false] n) 4)).1
  unfold BoolsD
  rw [List.length_replicate]
  refine Or.inr ⟨_, 0, _, rfl, Nat.le_refl _, rfl, ⟨heap_lt hh, by omega, by omega⟩, fun i hi => ?_⟩
  rw [Nat.mul_one] at hi
  rw [Nat.zero_add, cell_of_heap hh i]
  have e : (madeCells #[.bool false] n)[i]? = some (.bool false) := by simp [madeCells, hi, Nat.mod_one]
  rw [e]
  simp [List.getD, hi]

/-- When the tree is drawn and stored. -/
structure Fi (d : Dr) (W : World) (p i rb bp : Nat) (ve vt : Value) (es : List Ef) (ns : List Nd) (Z : World) (q : Nat) : Prop where
  rd : Rdr d Z q
  cost : q ≤ p + 30000 * (i + 1)
  gr : Grew d W Z
  res : Z.heap[rb]? = some (.cells #[.slice none 0 0, .slice none 0 0] 55)
  low : W.heap.size ≤ rb
  box : Z.heap[bp]? = some (.cells #[ve, vt] 55)
  effs : EffsD d Z ve es
  some_ : 1 ≤ es.length
  nodes : NodesD d Z vt ns
  any : 1 ≤ ns.length ∧ ns.length ≤ 100000

theorem Fi.below {d : Dr} {W : World} {p i rb bp : Nat} {ve vt : Value} {es : List Ef} {ns : List Nd} {Z Z' : World} {q : Nat} (h : Fi d W p i rb bp ve vt es ns Z q) (hb : Below Z.heap.size Z Z') : Fi d W p i rb bp ve vt es ns Z' q :=
  ⟨h.rd.below hb, h.cost, h.gr.trans (Grew.of_below hb), (hb.block _ (heap_lt h.res)).trans h.res, h.low, (hb.block _ (heap_lt h.box)).trans h.box, h.effs.grew (Grew.of_below hb), h.some_, h.nodes.grew (Grew.of_below hb), h.any⟩

theorem Fi.lies {d : Dr} {W : World} {p i rb bp : Nat} {ve vt : Value} {es : List Ef} {ns : List Nd} {Z : World} {q : Nat} (h : Fi d W p i rb bp ve vt es ns Z q) :
    ∃ be ce bt ct, ve = .slice (some ⟨be, 0, none⟩) es.length ce ∧ vt = .slice (some ⟨bt, 0, none⟩) ns.length ct ∧ be < Z.heap.size ∧ bt < Z.heap.size ∧ EffsAt Z be 0 es ∧ NodesAt Z bt 0 ns ∧ ns.length ≤ 1048576 := by
  have h1 := h.some_
  have h2 := h.any
  obtain ⟨⟨-, h0⟩ | ⟨be, off, ce, e1, -, rfl, hq, hc⟩, -⟩ := h.effs
  · omega
  obtain ⟨⟨-, h0⟩ | ⟨bt, off, ct, e2, -, rfl, hq', hc'⟩, -⟩ := h.nodes
  · omega
  refine ⟨be, ce, bt, ct, e1, e2, hq.1, hq'.1, fun k hk c hc2 => ?_, fun k hk c hc2 => ?_, by omega⟩
  · rw [Nat.add_assoc, hc (k * 3 + c) (by omega)]
    exact congrArg some (cell_div es Ef.cell 3 k c hc2)
  · rw [Nat.add_assoc, hc' (k * 6 + c) (by omega)]
    exact congrArg some (cell_div ns Nd.cell 6 k c hc2)

/-- What lies in a block of a program is neither names nor numbers. -/
theorem lies_not {d : Dr} {W : World} {v : Value} {n sz : Nat} {F : Nat → Value} {bp : Nat} {u0 u1 : Value} {t : TypeId} (h : Lies d W v n sz F) (hn : 0 < n * sz) (hb : W.heap[bp]? = some (.cells #[u0, u1] t)) (hne : F 0 ≠ u0) {X : World} (hX : ∀ q, q ≠ bp → X.heap[q]? = W.heap[q]?) (hs : X.heap.size = W.heap.size) : Lies d X v n sz F := by
  rcases h with h | ⟨b, off, cap, h1, h2, rfl, h4, h5⟩
  · exact Or.inl h
  · refine Or.inr ⟨b, 0, cap, h1, h2, rfl, ⟨by rw [hs]; exact h4.1, h4.2⟩, fun i hi => ?_⟩
    have hbb : b ≠ bp := fun e => by
      subst e
      have e1 := h5 0 hn
      rw [Nat.zero_add, cell_of_heap hb 0] at e1
      simp at e1
      exact hne e1.symm
    exact (World.cell?_of_block (a := ⟨b, 0 + i, none⟩) (hX b hbb)).trans (h5 i hi)

theorem rdr_not {d : Dr} {W : World} {p bp : Nat} {a1 c1 a2 c2 : Option Addr × Nat × Nat} {u0 u1 : Value} (hu0 : u0 = .slice a1.1 a1.2.1 a1.2.2) (hu1 : u1 = .slice a2.1 a2.2.1 a2.2.2) (h : Rdr d W p) (hb : W.heap[bp]? = some (.cells #[u0, u1] 55)) {X : World} (hX : ∀ q, q ≠ bp → X.heap[q]? = W.heap[q]?) (hs : X.heap.size = W.heap.size) (_ : c1 = c2) : Rdr d X p := by
  subst hu0
  subst hu1
  have hne : d.B ≠ bp := fun e => by
    have := h.blk
    rw [e, hb] at this
    simp at this
  refine ⟨(hX _ hne).trans h.blk, fun hl => ?_⟩
  obtain ⟨b, off, ea, hq, hz⟩ := h.bytes hl
  have hbb : b ≠ bp := fun e => by
    subst e
    obtain ⟨z, hz, -⟩ := hz 0 hl
    rw [cell_of_heap hb] at hz
    match off, hz with
    | 0, hz => simp at hz
    | 1, hz => simp at hz
    | _ + 2, hz => simp at hz
  refine ⟨b, off, ea, ⟨by rw [hs]; exact hq.1, hq.2⟩, fun i hi => ?_⟩
  obtain ⟨z, hz, h2⟩ := hz i hi
  exact ⟨z, (World.cell?_of_block (a := ⟨b, off + i, none⟩) (hX b hbb)).trans hz, h2⟩

theorem prog_rest {d : Dr} {W Y X1 X2 X4 X : World} {p p' i rb : Nat} {ade : Option Addr} {cpe : Nat} {es : List Ef} {s s' : Cn} {t0 t' c : Nat} {adt : Option Addr} {cpt : Nat} {ns : List Nd} (hG : d.G = d.B) (hP : Pg d W Y p p' rb) (hc : p' ≤ p + 30000 * i) (hg1 : Grew d Y X1) (hg2 : Grew d X1 X2) (he : EffsD d X1 (.slice ade es.length cpe) es) (h1 : 1 ≤ es.length) (hb24 : Below X2.heap.size X2 X4) (hs : s.p = p' + 1 + 1) (hleft : s.left ≤ 89) (hcC : c ≤ 20)
    (ha : At (d.on X2.heap.size) (.slice ade es.length cpe) X4 s X s' (t0 + t') c) (hb : X.heap[X2.heap.size + 1]? = some (.cells #[.slice ade es.length cpe, .slice none 0 0] 55)) (hn : NodesD (d.on X2.heap.size) X (.slice adt ns.length cpt) ns) (hl : 1 ≤ ns.length ∧ ns.length ≤ t') :
    Fi d W p i rb (X2.heap.size + 1) (.slice ade es.length cpe) (.slice adt ns.length cpt) es ns (X.setCell ⟨X2.heap.size + 1, 1, none⟩ (.slice adt ns.length cpt)) s'.p := by
  have hX : ∀ q, q ≠ X2.heap.size + 1 → (X.setCell ⟨X2.heap.size + 1, 1, none⟩ (.slice adt ns.length cpt)).heap[q]? = X.heap[q]? := fun q hq => Below.heap_setCell X ⟨X2.heap.size + 1, 1, none⟩ _ q hq
  have hs' : (X.setCell ⟨X2.heap.size + 1, 1, none⟩ (.slice adt ns.length cpt)).heap.size = X.heap.size := by simp [World.setCell]
  have hYX : Grew d Y X2 := hg1.trans hg2
  have hlow := hP.low
  have hrb := heap_lt hP.res
  have hYs := hYX.size
  have hWX : Grew d W X := ((hP.gr.trans hYX).trans (Grew.of_below hb24)).off ha.2.1 (by have := hP.gr.size; omega)
  have hsp := ha.2.2
  unfold Spent at hsp
  have hrbB : rb ≠ d.B := fun e => by
    have := hP.rd.blk
    rw [← e, hP.res] at this
    simp at this
  have hrX : X.heap[rb]? = some (.cells #[.slice none 0 0, .slice none 0 0] 55) := by
    rw [ha.2.1.block rb ⟨by have := hb24.size; omega, hrbB, by show rb ≠ X2.heap.size; omega⟩, hb24.block rb (by omega), hYX.block rb ⟨hrb, hrbB, by rw [hG]; exact hrbB⟩]
    exact hP.res
  refine ⟨rdr_not (a1 := (ade, es.length, cpe)) (a2 := (none, 0, 0)) (c1 := (none, 0, 0)) rfl rfl (ha.1.rd.off hG) hb hX hs' rfl, by omega, ⟨hWX.os, hWX.tape, hWX.output, by rw [hs']; exact hWX.size, fun q hq => (hX q (by have := hq.1; have := hP.gr.size; omega)).trans (hWX.block q hq)⟩, (hX rb (by omega)).trans hrX, hlow, set_heap hb, ?_, h1, ?_, by omega⟩
  · refine ⟨lies_not ((he.1.grew hg2).on hb24 (Nat.le_refl _) |>.grew ha.2.1 |>.off hG) (by omega) hb (fun e => ?_) hX hs', he.2⟩
    simp only [Nat.zero_div, Nat.zero_mod] at e
    cases e
  · refine ⟨lies_not (hn.1.off hG) (by omega) hb (fun e => ?_) hX hs', hn.2⟩
    simp only [Nat.zero_div, Nat.zero_mod] at e
    cases e

/-- The program is stored where it is told. -/
theorem Fi.stored {d : Dr} {W : World} {p i rb bp : Nat} {ve vt : Value} {es : List Ef} {ns : List Nd} {Z : World} {q : Nat} (h : Fi d W p i rb bp ve vt es ns Z q) (u0 u1 : Value) :
    EffsD d ((Z.setCell ⟨rb, 0, none⟩ u0).setCell ⟨rb, 1, none⟩ u1) ve es ∧ NodesD d ((Z.setCell ⟨rb, 0, none⟩ u0).setCell ⟨rb, 1, none⟩ u1) vt ns ∧ Rdr d ((Z.setCell ⟨rb, 0, none⟩ u0).setCell ⟨rb, 1, none⟩ u1) q ∧ Grew d W ((Z.setCell ⟨rb, 0, none⟩ u0).setCell ⟨rb, 1, none⟩ u1) := by
  have hX : ∀ k, k ≠ rb → ((Z.setCell ⟨rb, 0, none⟩ u0).setCell ⟨rb, 1, none⟩ u1).heap[k]? = Z.heap[k]? := fun k hk => (Below.heap_setCell _ ⟨rb, 1, none⟩ _ k hk).trans (Below.heap_setCell Z ⟨rb, 0, none⟩ _ k hk)
  have hs' : ((Z.setCell ⟨rb, 0, none⟩ u0).setCell ⟨rb, 1, none⟩ u1).heap.size = Z.heap.size := by simp [World.setCell]
  have h1 := h.some_
  have h2 := h.any
  have hlow := h.low
  refine ⟨⟨lies_not h.effs.1 (by omega) h.res (fun e => ?_) hX hs', h.effs.2⟩, ⟨lies_not h.nodes.1 (by omega) h.res (fun e => ?_) hX hs', h.nodes.2⟩, rdr_not (a1 := (none, 0, 0)) (a2 := (none, 0, 0)) (c1 := (none, 0, 0)) rfl rfl h.rd h.res hX hs' rfl, ⟨h.gr.os, h.gr.tape, h.gr.output, by rw [hs']; exact h.gr.size, fun k hk => (hX k (by have := hk.1; omega)).trans (h.gr.block k hk)⟩⟩
  · simp only [Nat.zero_div, Nat.zero_mod] at e
    cases e
  · simp only [Nat.zero_div, Nat.zero_mod] at e
    cases e

/-- The last resort is stored where it is told. -/
theorem fall_back {d : Dr} {W Y Z : World} {p p' rb : Nat} {v : Value} {n : Nd} (hP : Pg d W Y p p' rb) (hb : Below Y.heap.size Y Z) (hn : NodesD d Z v [n]) (u0 u1 : Value) :
    NodesD d ((Z.setCell ⟨rb, 0, none⟩ u0).setCell ⟨rb, 1, none⟩ u1) v [n] ∧ Rdr d ((Z.setCell ⟨rb, 0, none⟩ u0).setCell ⟨rb, 1, none⟩ u1) p' ∧ Grew d W ((Z.setCell ⟨rb, 0, none⟩ u0).setCell ⟨rb, 1, none⟩ u1) := by
  have hX : ∀ k, k ≠ rb → ((Z.setCell ⟨rb, 0, none⟩ u0).setCell ⟨rb, 1, none⟩ u1).heap[k]? = Z.heap[k]? := fun k hk => (Below.heap_setCell _ ⟨rb, 1, none⟩ _ k hk).trans (Below.heap_setCell Z ⟨rb, 0, none⟩ _ k hk)
  have hs' : ((Z.setCell ⟨rb, 0, none⟩ u0).setCell ⟨rb, 1, none⟩ u1).heap.size = Z.heap.size := by simp [World.setCell]
  have hres := (hb.block _ (heap_lt hP.res)).trans hP.res
  have hlow := hP.low
  have hg := hP.gr.trans (Grew.of_below hb)
  refine ⟨⟨lies_not hn.1 (by simp) hres (fun e => ?_) hX hs', hn.2⟩, rdr_not (a1 := (none, 0, 0)) (a2 := (none, 0, 0)) (c1 := (none, 0, 0)) rfl rfl (hP.rd.below hb) hres hX hs' rfl, ⟨hg.os, hg.tape, hg.output, by rw [hs']; exact hg.size, fun k hk => (hX k (by have := hk.1; omega)).trans (hg.block k hk)⟩⟩
  simp only [Nat.zero_div, Nat.zero_mod] at e
  cases e

set_option maxHeartbeats 8000000 in
set_option maxRecDepth 100000 in
theorem prog_calls {d : Dr} {W : World} {p : Nat} (hG : d.G = d.B) (h : Rdr d W p) (hp : p ≤ 500000) : Calls Try.prog 24 #[.pointer (some ⟨d.B, 0, none⟩)] W (ProgPost d W p) := by
  have hB := heap_lt h.blk
  have HG := hid hG
  have HPl := hid hp
  have P0 : Hid (Pg d W (W.alloc (.cells #[.slice none 0 0, .slice none 0 0] 55)) p p W.heap.size) := ⟨h.below ((Below.refl _ _).alloc (Nat.le_refl _) _), (Grew.refl d W).alloc _, (MapKept.heap_alloc W _).1, Nat.le_refl _⟩
  clear hG h hp
  go_enter Try.func24, Try.ntmps24
  go_wp2_with fail
  obtain ⟨rb, hrb⟩ : ∃ rb, W.heap.size = rb := ⟨_, rfl⟩
  have HRb := hid hrb
  rw [hrb] at P0 ⊢
  clear hrb
  go_loopw [3] (fun i wr => ∃ (i' p' : Nat), i = .int .i64 i' ∧ i' ≤ 6 ∧ Hid (Pg d W wr p p' rb ∧ p' ≤ p + 30000 * i')) (fun i _ => 6 - (intOf i).toNat)
  case atStart => exact ⟨0, p, rfl, Nat.zero_le _, P0.out, by omega⟩
  case round =>
    obtain ⟨i', p', rfl, hle, HP⟩ := hrel
    rename World => Y
    by_cases hi : (i' : Int) < 6
    · have hstep : 6 - (intOf (.int .i64 ((i' + 1 : Nat) : Int))).toNat < 6 - (intOf (.int .i64 (i' : Int))).toNat := by simp [intOf]; omega
      have HE0 := hid (effs_calls HG.out HP.out.1.rd (by have := HP.out.2; have := HPl.out; omega))
      go_wp2_with fail
      refine HE0.out.mono ?_
      rintro e X1 ⟨ve, es, rfl, hes, hes1, hes4, hr1, hg1⟩
      obtain ⟨ade, cpe, rfl⟩ := hes.is
      have E1 := hid (And.intro hes (And.intro hes1 hes4))
      have R1 := hid (And.intro hr1 hg1)
      clear hes hes1 hes4 hr1 hg1 HE0
      go_wp2_with fail
      refine (rdr_pick R1.out.1 (by have := HP.out.2; have := HPl.out; omega) 60 (by decide)).mono ?_
      rintro e X2 ⟨m2, rfl, hm0, hm1, hr2, hg2, -, -⟩
      have R2 := hid (And.intro hr2 hg2)
      clear hr2 hg2
      go_upto_region 6 with fail
      have hB2 : Below X2.heap.size X2 ((X2.alloc (.cells #[.pointer (some ⟨d.B, 0, none⟩), .slice ade es.length cpe, .int .i64 (30 + m2), .int .i64 0] 78)).alloc (.cells #[.slice ade es.length cpe, .slice none 0 0] 55)) := ((Below.refl _ _).alloc (Nat.le_refl _) _).alloc (by simp) _
      have hG2 := (MapKept.heap_alloc X2 (.cells #[.pointer (some ⟨d.B, 0, none⟩), .slice ade es.length cpe, .int .i64 (30 + m2), .int .i64 0] 78)).1
      have hb3 : Below (X2.alloc (.cells #[.pointer (some ⟨d.B, 0, none⟩), .slice ade es.length cpe, .int .i64 (30 + m2), .int .i64 0] 78)).heap.size (X2.alloc (.cells #[.pointer (some ⟨d.B, 0, none⟩), .slice ade es.length cpe, .int .i64 (30 + m2), .int .i64 0] 78)) ((X2.alloc (.cells #[.pointer (some ⟨d.B, 0, none⟩), .slice ade es.length cpe, .int .i64 (30 + m2), .int .i64 0] 78)).alloc (.cells #[.slice ade es.length cpe, .slice none 0 0] 55)) := (Below.refl _ _).alloc (Nat.le_refl _) _
      have hG4 := (hb3.block X2.heap.size (by simp)).trans hG2
      have hP4 := (MapKept.heap_alloc (X2.alloc (.cells #[.pointer (some ⟨d.B, 0, none⟩), .slice ade es.length cpe, .int .i64 (30 + m2), .int .i64 0] 78)) (.cells #[.slice ade es.length cpe, .slice none 0 0] 55)).1
      rw [show (X2.alloc (.cells #[.pointer (some ⟨d.B, 0, none⟩), .slice ade es.length cpe, .int .i64 (30 + m2), .int .i64 0] 78)).heap.size = X2.heap.size + 1 by simp] at hP4
      clear hb3 hG2
      generalize (X2.alloc (.cells #[.pointer (some ⟨d.B, 0, none⟩), .slice ade es.length cpe, .int .i64 (30 + m2), .int .i64 0] 78)).alloc (.cells #[.slice ade es.length cpe, .slice none 0 0] 55) = X4 at *
      have HB2 := hid hB2
      have A0 : Hid (At (d.on X2.heap.size) (.slice ade es.length cpe) X4 ⟨p' + 1 + 1, 30 + m2, 0⟩ X4 ⟨p' + 1 + 1, 30 + m2, 0⟩ 0 0) := At.start ⟨R2.out.1.on HB2.out (Nat.le_refl _), hG4, by have := heap_lt R2.out.1.blk; show d.B ≠ X2.heap.size; omega⟩
      have EF : Hid (EffsD (d.on X2.heap.size) X4 (.slice ade es.length cpe) es) := ⟨(E1.out.1.1.grew R2.out.2).on HB2.out (Nat.le_refl _), E1.out.1.2⟩
      have HF : Hid (Fit ⟨p' + 1 + 1, 30 + m2, 0⟩ 20) := by
        have := HP.out.2
        have := HPl.out
        unfold Hid Fit
        dsimp only
        omega
      have BP := hid hP4
      have HQp : Hid ((d.on X2.heap.size).free X4 (X2.heap.size + 1)) := ⟨heap_lt hP4, by have := heap_lt R2.out.1.blk; show X2.heap.size + 1 ≠ d.B; omega, by show X2.heap.size + 1 ≠ X2.heap.size; omega⟩
      clear hB2 hG4 hP4
      refine pick_begin (S := fun w' => w'.cell? ⟨X2.heap.size, 1, none⟩ = some (.slice ade es.length cpe)) (by kernel_rfl) rfl rfl ?_
      have A1 := hid A0.out.drew
      have G1 := hid (Grew.refl (d.on X2.heap.size) X4).drew
      generalize X4.drew = X11 at *
      refine pick_op (i := 0) (v := .pointer (some ⟨X2.heap.size, 0, none⟩)) (by kernel_rfl) rfl (by kernel_rfl) (by kernel_rfl) rfl rfl (fun w' hw => by simp [go_sem]) (A1.out.1.c1) (by simp [go_sem]; exact rfl) ?_
      refine pick_op (i := 1) (v := .pointer (some ⟨d.B, 0, none⟩)) (by kernel_rfl) rfl (by kernel_rfl) (by kernel_rfl) rfl rfl (fun w' hw => by simp [go_sem]) (A1.out.1.c1) (by simp [go_sem]; exact rfl) ?_
      refine pick_op (i := 4) (v := .pointer (some ⟨X2.heap.size, 0, none⟩)) (by kernel_rfl) rfl (by kernel_rfl) (by kernel_rfl) rfl rfl (fun w' hw => by simp [go_sem]) (A1.out.1.c1) (by simp [go_sem]; exact rfl) ?_
      refine pick_op (i := 5) (v := .pointer (some ⟨X2.heap.size, 0, none⟩)) (by kernel_rfl) rfl (by kernel_rfl) (by kernel_rfl) rfl rfl (fun w' hw => by simp [go_sem]) (A1.out.1.c1) (by simp [go_sem]; exact rfl) ?_
      refine pick_op (i := 6) (v := .pointer (some ⟨X2.heap.size, 1, none⟩)) (by kernel_rfl) rfl (by kernel_rfl) (by kernel_rfl) rfl rfl (fun w' hw => by simp [go_sem]) (A1.out.1.c1) (by simp [go_sem]; exact rfl) ?_
      refine pick_op (i := 7) (v := .slice ade es.length cpe) (by kernel_rfl) rfl (by kernel_rfl) (by kernel_rfl) rfl rfl (fun w' hw => by simp [go_sem, hw]) (A1.out.1.c1) (by simp [go_sem]; exact rfl) ?_
      refine pick_op (i := 8) (v := .int .i64 (es.length : Int)) (by kernel_rfl) rfl (by kernel_rfl) (by kernel_rfl) rfl rfl (fun w' hw => by simp [go_sem]) (A1.out.1.c1) (by simp [go_sem]; exact rfl) ?_
      refine pick_op (i := 10) (v := .pointer (some ⟨d.B, 0, none⟩)) (by kernel_rfl) rfl (by kernel_rfl) (by kernel_rfl) rfl rfl (fun w' hw => by simp [go_sem]) (A1.out.1.c1) (by simp [go_sem]; exact rfl) ?_
      refine pick_either2 (i := 2) (j := 9) (by kernel_rfl) ?_ ?_
      · refine ⟨_, 13, #[.pointer (some ⟨d.B, 0, none⟩), .int .i64 5], rfl, rfl, by simp [go_sem], ?_⟩
        refine (A1.out.pick HF.out (by omega) 5 (by decide)).mono ?_
        rintro e X21 ⟨m21, s21, rfl, hm21, hM21, ha, hg⟩
        have A21 := hid ha
        have G21 := hid hg
        clear ha hg
        refine ⟨_, rfl, (A21.out.1.c1), ?_⟩
        refine pick_frame (by simp [go_sem]; exact rfl) ?_
        have hwr21 : IntKind.i64.wrap (1 + m21) = 1 + m21 := by rw [IntKind.wrap_i64]; omega
        refine pick_op (i := 3) (v := .int .i64 (1 + m21)) (by kernel_rfl) rfl (by kernel_rfl) (by kernel_rfl) rfl rfl (fun w' hw => by simp [go_sem, hwr21]) (A21.out.1.c1) (by simp [go_sem]; exact rfl) ?_
        clear hwr21
        refine pick_either (i := 9) (j := 11) (by kernel_rfl) ?_ ?_
        · obtain ⟨cb, hcb, hmk⟩ := made_bools es.length (by have := E1.out.2.2; omega) X21
          have MB : Hid (BoolsD (d.on X2.heap.size) (X21.alloc (.cells cb 4)) (.slice (some ⟨X21.heap.size, 0, none⟩) es.length es.length) (List.replicate es.length false)) := bools_made hcb A21.out.1.ltB A21.out.1.ltG
          have A22 := hid (A21.out.alloc (.cells cb 4))
          have G22 := hid ((Grew.refl (d.on X2.heap.size) X21).alloc (.cells cb 4))
          refine ⟨_, .slice (some ⟨X21.heap.size, 0, none⟩) es.length es.length, X21.alloc (.cells cb 4), rfl, rfl, by simp [go_sem, hmk], (A22.out.1.c1), ?_⟩
          refine pick_frame (by simp [go_sem]; exact rfl) ?_
          clear hmk
          obtain ⟨qb, hqb⟩ : ∃ q, X21.heap.size = q := ⟨_, rfl⟩
          generalize X21.alloc (.cells cb 4) = X22 at *
          rw [hqb] at MB ⊢
          clear hqb hcb
          refine pick_enter (i := 11) (f := 13) (args := #[.pointer (some ⟨d.B, 0, none⟩), .int .i64 6]) rfl (by kernel_rfl) rfl rfl (by simp [go_sem]) ?_
          refine (A22.out.pick HF.out (by omega) 6 (by decide)).mono ?_
          rintro e X23 ⟨m23, s23, rfl, hm23, hM23, ha, hg⟩
          have A23 := hid ha
          have G23 := hid hg
          clear ha hg
          refine ⟨_, rfl, (A23.out.1.c1), ?_⟩
          refine pick_frame (by simp [go_sem]; exact rfl) ?_
          have hwr23 : IntKind.i64.wrap (4 + m23) = 4 + m23 := by rw [IntKind.wrap_i64]; omega
          refine pick_op (i := 12) (v := .int .i64 (4 + m23)) (by kernel_rfl) rfl (by kernel_rfl) (by kernel_rfl) rfl rfl (fun w' hw => by simp [go_sem, hwr23]) (A23.out.1.c1) (by simp [go_sem]; exact rfl) ?_
          clear hwr23
          refine pick_enter (i := 13) (f := 38) (args := #[.pointer (some ⟨X2.heap.size, 0, none⟩), .int .i64 (1 + m21), .slice none 0 0, .slice (some ⟨qb, 0, none⟩) es.length es.length, .int .i64 (4 + m23)]) rfl (by kernel_rfl) rfl rfl (by simp [go_sem]) ?_
          refine (A23.out.nodes (of_all 12 (by omega) (4 + m23) (1 + m21) (.slice none 0 0) _ [] (List.replicate es.length false) _ _ (by omega) (by omega) (A23.out.fit HF.out 10 (by omega)) A23.out.1 ⟨⟨Or.inl ⟨rfl, rfl⟩, fun k hk => by simp at hk⟩, (MB.out.grew G23.out), by simp, (EF.out.grew (G1.out.trans (G21.out.trans (G22.out.trans G23.out)))), by simp, E1.out.2.2⟩)).mono ?_
          rintro e X24 ⟨v24, n24, s24, t24, rfl, hn24, hl24, ha, hg⟩
          have A24 := hid ha
          have G24 := hid hg
          clear ha hg
          have N24 := hid (And.intro hn24 hl24)
          obtain ⟨ad24, cp24, rfl⟩ := hn24.is
          clear hn24 hl24
          refine ⟨_, rfl, (A24.out.1.c1), ?_⟩
          refine pick_frame (by simp [go_sem]; exact rfl) ?_
          refine pick_op (i := 14) (v := .pointer (some ⟨X2.heap.size + 1, 1, none⟩)) (by kernel_rfl) rfl (by kernel_rfl) (by kernel_rfl) rfl rfl (fun w' hw => by simp [go_sem]) (A24.out.1.c1) (by simp [go_sem]; exact rfl) ?_
          have BP2 := hid (((G1.out.trans (G21.out.trans (G22.out.trans (G23.out.trans G24.out)))).block _ HQp.out).trans BP.out)
          have cb0 := cell_of_heap BP2.out 1
          have fb0 := frozen_of_heap BP2.out 1
          have cb1 : X24.cell? ⟨X2.heap.size + 1, 1, none⟩ = some (.slice none 0 0) := cb0
          have CG := A24.out.1.c1
          refine pick_skip (i := 15) (w1 := X24.setCell ⟨X2.heap.size + 1, 1, none⟩ (.slice ad24 n24.length cp24)) rfl rfl (by kernel_rfl) rfl rfl (by simp [go_sem, cb1, fb0]) ?_ ?_
          · exact (World.cell?_setCell_other _ _ _ _ (fun h => by have := congrArg Addr.block h; dsimp only at this; omega)).trans CG
          refine pick_end (by kernel_rfl) ?_
          have FIN := hid (prog_rest HG.out HP.out.1 HP.out.2 R1.out.2 R2.out.2 E1.out.1 E1.out.2.1 HB2.out rfl (by show 30 + m2 ≤ 89; omega) (by omega) A24.out BP2.out N24.out.1 N24.out.2)
          clear cb0 fb0 cb1 CG
          generalize X24.setCell ⟨X2.heap.size + 1, 1, none⟩ (.slice ad24 n24.length cp24) = Z at *
          have cz0 := cell_of_heap FIN.out.box 0
          have cz1 := cell_of_heap FIN.out.box 1
          have cz0' : Z.cell? ⟨X2.heap.size + 1, 0, none⟩ = some (.slice ade es.length cpe) := cz0
          have cz1' : Z.cell? ⟨X2.heap.size + 1, 1, none⟩ = some (.slice ad24 n24.length cp24) := cz1
          clear cz0 cz1
          obtain ⟨R, hR, -⟩ := answers n24
          have hcap : es.length ≤ cpe := by rcases FIN.out.effs.1 with ⟨h, h0⟩ | ⟨_, _, _, h, h0, -⟩; have := E1.out.2.1; omega; cases h; exact h0
          obtain ⟨be, ce, bt, ct, heE, heT, hbe, hbt, hEA, hNA, hl5⟩ := FIN.out.lies
          simp only [Value.slice.injEq] at heE heT
          obtain ⟨rfl, -, rfl⟩ := heE
          obtain ⟨rfl, -, rfl⟩ := heT
          have HPK := hid (specProgC_calls be bt cpe cp24 es n24 R Z hcap hbe hbt hEA hNA (by have := E1.out.2.2; omega) hl5 (fun w' hb hn => specTree_calls bt 0 cp24 n24 w' R hl5 hb hn hR))
          have HR := hid hR
          clear hbe hbt hEA hNA hl5 hR
          go_wp2_with fail
          refine HPK.out.mono ?_
          rintro e Z2 ⟨rfl, hbz⟩
          have FZ := hid (FIN.out.below hbz)
          clear hbz HPK
          cases hpz : progZ es n24 R with
          | false =>
            go_wp2_with fail
            try rw [wrap_succ (by omega)]
            exact ⟨⟨i' + 1, _, rfl, by omega, ⟨FZ.out.rd, FZ.out.gr, FZ.out.res, FZ.out.low⟩, FZ.out.cost⟩, hstep⟩
          | true =>
            have HT := hid (tr_of_ans (ns := n24) (by have h := prog_true hpz; have := HR.out; rwa [h] at this))
            have rz0 := cell_of_heap FZ.out.res 0
            have rz1 := cell_of_heap FZ.out.res 1
            have rz0' : Z2.cell? ⟨rb, 0, none⟩ = some (.slice none 0 0) := rz0
            have rz1' : Z2.cell? ⟨rb, 1, none⟩ = some (.slice none 0 0) := rz1
            have fz0 := frozen_of_heap FZ.out.res 0
            have fz1 := frozen_of_heap FZ.out.res 1
            have qz0 := cell_of_heap FZ.out.box 0
            have qz1 := cell_of_heap FZ.out.box 1
            have qz0' : Z2.cell? ⟨X2.heap.size + 1, 0, none⟩ = some (.slice (some ⟨be, 0, none⟩) es.length cpe) := qz0
            have qz1' : Z2.cell? ⟨X2.heap.size + 1, 1, none⟩ = some (.slice (some ⟨bt, 0, none⟩) n24.length cp24) := qz1
            clear rz0 rz1 qz0 qz1
            go_wp2_with fail
            have HFi := hid (FZ.out.stored (.slice (some ⟨be, 0, none⟩) es.length cpe) (.slice (some ⟨bt, 0, none⟩) n24.length cp24))
            refine bodyPost_ret (v := .agg #[.slice (some ⟨be, 0, none⟩) es.length cpe, .slice (some ⟨bt, 0, none⟩) n24.length cp24]) ?_ rfl ?_
            · simp [results, Try.results24, go_sem, rz0', rz1']
            · exact ⟨_, _, _, _, es, n24, _, rfl, HFi.out.1, E1.out.2.2, HFi.out.2.1, HT.out, HFi.out.2.2.1, by have := FZ.out.cost; have := HPl.out; omega, HFi.out.2.2.2⟩
        · refine ⟨_, 13, #[.pointer (some ⟨d.B, 0, none⟩), .int .i64 6], rfl, rfl, by simp [go_sem], ?_⟩
          refine (A21.out.pick HF.out (by omega) 6 (by decide)).mono ?_
          rintro e X22 ⟨m22, s22, rfl, hm22, hM22, ha, hg⟩
          have A22 := hid ha
          have G22 := hid hg
          clear ha hg
          refine ⟨_, rfl, (A22.out.1.c1), ?_⟩
          refine pick_frame (by simp [go_sem]; exact rfl) ?_
          have hwr22 : IntKind.i64.wrap (4 + m22) = 4 + m22 := by rw [IntKind.wrap_i64]; omega
          refine pick_op (i := 12) (v := .int .i64 (4 + m22)) (by kernel_rfl) rfl (by kernel_rfl) (by kernel_rfl) rfl rfl (fun w' hw => by simp [go_sem, hwr22]) (A22.out.1.c1) (by simp [go_sem]; exact rfl) ?_
          clear hwr22
          obtain ⟨cb, hcb, hmk⟩ := made_bools es.length (by have := E1.out.2.2; omega) X22
          have MB : Hid (BoolsD (d.on X2.heap.size) (X22.alloc (.cells cb 4)) (.slice (some ⟨X22.heap.size, 0, none⟩) es.length es.length) (List.replicate es.length false)) := bools_made hcb A22.out.1.ltB A22.out.1.ltG
          have A23 := hid (A22.out.alloc (.cells cb 4))
          have G23 := hid ((Grew.refl (d.on X2.heap.size) X22).alloc (.cells cb 4))
          refine pick_make (i := 9) (v := .slice (some ⟨X22.heap.size, 0, none⟩) es.length es.length) (w1 := X22.alloc (.cells cb 4)) rfl (by kernel_rfl) rfl rfl (by simp [go_sem, hmk]) (A23.out.1.c1) (by simp [go_sem]; exact rfl) ?_
          clear hmk
          obtain ⟨qb, hqb⟩ : ∃ q, X22.heap.size = q := ⟨_, rfl⟩
          generalize X22.alloc (.cells cb 4) = X23 at *
          rw [hqb] at MB ⊢
          clear hqb hcb
          refine pick_enter (i := 13) (f := 38) (args := #[.pointer (some ⟨X2.heap.size, 0, none⟩), .int .i64 (1 + m21), .slice none 0 0, .slice (some ⟨qb, 0, none⟩) es.length es.length, .int .i64 (4 + m22)]) rfl (by kernel_rfl) rfl rfl (by simp [go_sem]) ?_
          refine (A23.out.nodes (of_all 12 (by omega) (4 + m22) (1 + m21) (.slice none 0 0) _ [] (List.replicate es.length false) _ _ (by omega) (by omega) (A23.out.fit HF.out 10 (by omega)) A23.out.1 ⟨⟨Or.inl ⟨rfl, rfl⟩, fun k hk => by simp at hk⟩, MB.out, by simp, (EF.out.grew (G1.out.trans (G21.out.trans (G22.out.trans G23.out)))), by simp, E1.out.2.2⟩)).mono ?_
          rintro e X24 ⟨v24, n24, s24, t24, rfl, hn24, hl24, ha, hg⟩
          have A24 := hid ha
          have G24 := hid hg
          clear ha hg
          have N24 := hid (And.intro hn24 hl24)
          obtain ⟨ad24, cp24, rfl⟩ := hn24.is
          clear hn24 hl24
          refine ⟨_, rfl, (A24.out.1.c1), ?_⟩
          refine pick_frame (by simp [go_sem]; exact rfl) ?_
          refine pick_op (i := 14) (v := .pointer (some ⟨X2.heap.size + 1, 1, none⟩)) (by kernel_rfl) rfl (by kernel_rfl) (by kernel_rfl) rfl rfl (fun w' hw => by simp [go_sem]) (A24.out.1.c1) (by simp [go_sem]; exact rfl) ?_
          have BP2 := hid (((G1.out.trans (G21.out.trans (G22.out.trans (G23.out.trans G24.out)))).block _ HQp.out).trans BP.out)
          have cb0 := cell_of_heap BP2.out 1
          have fb0 := frozen_of_heap BP2.out 1
          have cb1 : X24.cell? ⟨X2.heap.size + 1, 1, none⟩ = some (.slice none 0 0) := cb0
          have CG := A24.out.1.c1
          refine pick_skip (i := 15) (w1 := X24.setCell ⟨X2.heap.size + 1, 1, none⟩ (.slice ad24 n24.length cp24)) rfl rfl (by kernel_rfl) rfl rfl (by simp [go_sem, cb1, fb0]) ?_ ?_
          · exact (World.cell?_setCell_other _ _ _ _ (fun h => by have := congrArg Addr.block h; dsimp only at this; omega)).trans CG
          refine pick_end (by kernel_rfl) ?_
          have FIN := hid (prog_rest HG.out HP.out.1 HP.out.2 R1.out.2 R2.out.2 E1.out.1 E1.out.2.1 HB2.out rfl (by show 30 + m2 ≤ 89; omega) (by omega) A24.out BP2.out N24.out.1 N24.out.2)
          clear cb0 fb0 cb1 CG
          generalize X24.setCell ⟨X2.heap.size + 1, 1, none⟩ (.slice ad24 n24.length cp24) = Z at *
          have cz0 := cell_of_heap FIN.out.box 0
          have cz1 := cell_of_heap FIN.out.box 1
          have cz0' : Z.cell? ⟨X2.heap.size + 1, 0, none⟩ = some (.slice ade es.length cpe) := cz0
          have cz1' : Z.cell? ⟨X2.heap.size + 1, 1, none⟩ = some (.slice ad24 n24.length cp24) := cz1
          clear cz0 cz1
          obtain ⟨R, hR, -⟩ := answers n24
          have hcap : es.length ≤ cpe := by rcases FIN.out.effs.1 with ⟨h, h0⟩ | ⟨_, _, _, h, h0, -⟩; have := E1.out.2.1; omega; cases h; exact h0
          obtain ⟨be, ce, bt, ct, heE, heT, hbe, hbt, hEA, hNA, hl5⟩ := FIN.out.lies
          simp only [Value.slice.injEq] at heE heT
          obtain ⟨rfl, -, rfl⟩ := heE
          obtain ⟨rfl, -, rfl⟩ := heT
          have HPK := hid (specProgC_calls be bt cpe cp24 es n24 R Z hcap hbe hbt hEA hNA (by have := E1.out.2.2; omega) hl5 (fun w' hb hn => specTree_calls bt 0 cp24 n24 w' R hl5 hb hn hR))
          have HR := hid hR
          clear hbe hbt hEA hNA hl5 hR
          go_wp2_with fail
          refine HPK.out.mono ?_
          rintro e Z2 ⟨rfl, hbz⟩
          have FZ := hid (FIN.out.below hbz)
          clear hbz HPK
          cases hpz : progZ es n24 R with
          | false =>
            go_wp2_with fail
            try rw [wrap_succ (by omega)]
            exact ⟨⟨i' + 1, _, rfl, by omega, ⟨FZ.out.rd, FZ.out.gr, FZ.out.res, FZ.out.low⟩, FZ.out.cost⟩, hstep⟩
          | true =>
            have HT := hid (tr_of_ans (ns := n24) (by have h := prog_true hpz; have := HR.out; rwa [h] at this))
            have rz0 := cell_of_heap FZ.out.res 0
            have rz1 := cell_of_heap FZ.out.res 1
            have rz0' : Z2.cell? ⟨rb, 0, none⟩ = some (.slice none 0 0) := rz0
            have rz1' : Z2.cell? ⟨rb, 1, none⟩ = some (.slice none 0 0) := rz1
            have fz0 := frozen_of_heap FZ.out.res 0
            have fz1 := frozen_of_heap FZ.out.res 1
            have qz0 := cell_of_heap FZ.out.box 0
            have qz1 := cell_of_heap FZ.out.box 1
            have qz0' : Z2.cell? ⟨X2.heap.size + 1, 0, none⟩ = some (.slice (some ⟨be, 0, none⟩) es.length cpe) := qz0
            have qz1' : Z2.cell? ⟨X2.heap.size + 1, 1, none⟩ = some (.slice (some ⟨bt, 0, none⟩) n24.length cp24) := qz1
            clear rz0 rz1 qz0 qz1
            go_wp2_with fail
            have HFi := hid (FZ.out.stored (.slice (some ⟨be, 0, none⟩) es.length cpe) (.slice (some ⟨bt, 0, none⟩) n24.length cp24))
            refine bodyPost_ret (v := .agg #[.slice (some ⟨be, 0, none⟩) es.length cpe, .slice (some ⟨bt, 0, none⟩) n24.length cp24]) ?_ rfl ?_
            · simp [results, Try.results24, go_sem, rz0', rz1']
            · exact ⟨_, _, _, _, es, n24, _, rfl, HFi.out.1, E1.out.2.2, HFi.out.2.1, HT.out, HFi.out.2.2.1, by have := FZ.out.cost; have := HPl.out; omega, HFi.out.2.2.2⟩
      · obtain ⟨cb, hcb, hmk⟩ := made_bools es.length (by have := E1.out.2.2; omega) X11
        have MB : Hid (BoolsD (d.on X2.heap.size) (X11.alloc (.cells cb 4)) (.slice (some ⟨X11.heap.size, 0, none⟩) es.length es.length) (List.replicate es.length false)) := bools_made hcb A1.out.1.ltB A1.out.1.ltG
        have A21 := hid (A1.out.alloc (.cells cb 4))
        have G21 := hid ((Grew.refl (d.on X2.heap.size) X11).alloc (.cells cb 4))
        refine ⟨_, .slice (some ⟨X11.heap.size, 0, none⟩) es.length es.length, X11.alloc (.cells cb 4), rfl, rfl, by simp [go_sem, hmk], (A21.out.1.c1), ?_⟩
        refine pick_frame (by simp [go_sem]; exact rfl) ?_
        clear hmk
        obtain ⟨qb, hqb⟩ : ∃ q, X11.heap.size = q := ⟨_, rfl⟩
        generalize X11.alloc (.cells cb 4) = X21 at *
        rw [hqb] at MB ⊢
        clear hqb hcb
        refine pick_enter (i := 2) (f := 13) (args := #[.pointer (some ⟨d.B, 0, none⟩), .int .i64 5]) rfl (by kernel_rfl) rfl rfl (by simp [go_sem]) ?_
        refine (A21.out.pick HF.out (by omega) 5 (by decide)).mono ?_
        rintro e X22 ⟨m22, s22, rfl, hm22, hM22, ha, hg⟩
        have A22 := hid ha
        have G22 := hid hg
        clear ha hg
        refine ⟨_, rfl, (A22.out.1.c1), ?_⟩
        refine pick_frame (by simp [go_sem]; exact rfl) ?_
        have hwr22 : IntKind.i64.wrap (1 + m22) = 1 + m22 := by rw [IntKind.wrap_i64]; omega
        refine pick_op (i := 3) (v := .int .i64 (1 + m22)) (by kernel_rfl) rfl (by kernel_rfl) (by kernel_rfl) rfl rfl (fun w' hw => by simp [go_sem, hwr22]) (A22.out.1.c1) (by simp [go_sem]; exact rfl) ?_
        clear hwr22
        refine pick_enter (i := 11) (f := 13) (args := #[.pointer (some ⟨d.B, 0, none⟩), .int .i64 6]) rfl (by kernel_rfl) rfl rfl (by simp [go_sem]) ?_
        refine (A22.out.pick HF.out (by omega) 6 (by decide)).mono ?_
        rintro e X23 ⟨m23, s23, rfl, hm23, hM23, ha, hg⟩
        have A23 := hid ha
        have G23 := hid hg
        clear ha hg
        refine ⟨_, rfl, (A23.out.1.c1), ?_⟩
        refine pick_frame (by simp [go_sem]; exact rfl) ?_
        have hwr23 : IntKind.i64.wrap (4 + m23) = 4 + m23 := by rw [IntKind.wrap_i64]; omega
        refine pick_op (i := 12) (v := .int .i64 (4 + m23)) (by kernel_rfl) rfl (by kernel_rfl) (by kernel_rfl) rfl rfl (fun w' hw => by simp [go_sem, hwr23]) (A23.out.1.c1) (by simp [go_sem]; exact rfl) ?_
        clear hwr23
        refine pick_enter (i := 13) (f := 38) (args := #[.pointer (some ⟨X2.heap.size, 0, none⟩), .int .i64 (1 + m22), .slice none 0 0, .slice (some ⟨qb, 0, none⟩) es.length es.length, .int .i64 (4 + m23)]) rfl (by kernel_rfl) rfl rfl (by simp [go_sem]) ?_
        refine (A23.out.nodes (of_all 12 (by omega) (4 + m23) (1 + m22) (.slice none 0 0) _ [] (List.replicate es.length false) _ _ (by omega) (by omega) (A23.out.fit HF.out 10 (by omega)) A23.out.1 ⟨⟨Or.inl ⟨rfl, rfl⟩, fun k hk => by simp at hk⟩, (MB.out.grew (G22.out.trans G23.out)), by simp, (EF.out.grew (G1.out.trans (G21.out.trans (G22.out.trans G23.out)))), by simp, E1.out.2.2⟩)).mono ?_
        rintro e X24 ⟨v24, n24, s24, t24, rfl, hn24, hl24, ha, hg⟩
        have A24 := hid ha
        have G24 := hid hg
        clear ha hg
        have N24 := hid (And.intro hn24 hl24)
        obtain ⟨ad24, cp24, rfl⟩ := hn24.is
        clear hn24 hl24
        refine ⟨_, rfl, (A24.out.1.c1), ?_⟩
        refine pick_frame (by simp [go_sem]; exact rfl) ?_
        refine pick_op (i := 14) (v := .pointer (some ⟨X2.heap.size + 1, 1, none⟩)) (by kernel_rfl) rfl (by kernel_rfl) (by kernel_rfl) rfl rfl (fun w' hw => by simp [go_sem]) (A24.out.1.c1) (by simp [go_sem]; exact rfl) ?_
        have BP2 := hid (((G1.out.trans (G21.out.trans (G22.out.trans (G23.out.trans G24.out)))).block _ HQp.out).trans BP.out)
        have cb0 := cell_of_heap BP2.out 1
        have fb0 := frozen_of_heap BP2.out 1
        have cb1 : X24.cell? ⟨X2.heap.size + 1, 1, none⟩ = some (.slice none 0 0) := cb0
        have CG := A24.out.1.c1
        refine pick_skip (i := 15) (w1 := X24.setCell ⟨X2.heap.size + 1, 1, none⟩ (.slice ad24 n24.length cp24)) rfl rfl (by kernel_rfl) rfl rfl (by simp [go_sem, cb1, fb0]) ?_ ?_
        · exact (World.cell?_setCell_other _ _ _ _ (fun h => by have := congrArg Addr.block h; dsimp only at this; omega)).trans CG
        refine pick_end (by kernel_rfl) ?_
        have FIN := hid (prog_rest HG.out HP.out.1 HP.out.2 R1.out.2 R2.out.2 E1.out.1 E1.out.2.1 HB2.out rfl (by show 30 + m2 ≤ 89; omega) (by omega) A24.out BP2.out N24.out.1 N24.out.2)
        clear cb0 fb0 cb1 CG
        generalize X24.setCell ⟨X2.heap.size + 1, 1, none⟩ (.slice ad24 n24.length cp24) = Z at *
        have cz0 := cell_of_heap FIN.out.box 0
        have cz1 := cell_of_heap FIN.out.box 1
        have cz0' : Z.cell? ⟨X2.heap.size + 1, 0, none⟩ = some (.slice ade es.length cpe) := cz0
        have cz1' : Z.cell? ⟨X2.heap.size + 1, 1, none⟩ = some (.slice ad24 n24.length cp24) := cz1
        clear cz0 cz1
        obtain ⟨R, hR, -⟩ := answers n24
        have hcap : es.length ≤ cpe := by rcases FIN.out.effs.1 with ⟨h, h0⟩ | ⟨_, _, _, h, h0, -⟩; have := E1.out.2.1; omega; cases h; exact h0
        obtain ⟨be, ce, bt, ct, heE, heT, hbe, hbt, hEA, hNA, hl5⟩ := FIN.out.lies
        simp only [Value.slice.injEq] at heE heT
        obtain ⟨rfl, -, rfl⟩ := heE
        obtain ⟨rfl, -, rfl⟩ := heT
        have HPK := hid (specProgC_calls be bt cpe cp24 es n24 R Z hcap hbe hbt hEA hNA (by have := E1.out.2.2; omega) hl5 (fun w' hb hn => specTree_calls bt 0 cp24 n24 w' R hl5 hb hn hR))
        have HR := hid hR
        clear hbe hbt hEA hNA hl5 hR
        go_wp2_with fail
        refine HPK.out.mono ?_
        rintro e Z2 ⟨rfl, hbz⟩
        have FZ := hid (FIN.out.below hbz)
        clear hbz HPK
        cases hpz : progZ es n24 R with
        | false =>
          go_wp2_with fail
          try rw [wrap_succ (by omega)]
          exact ⟨⟨i' + 1, _, rfl, by omega, ⟨FZ.out.rd, FZ.out.gr, FZ.out.res, FZ.out.low⟩, FZ.out.cost⟩, hstep⟩
        | true =>
          have HT := hid (tr_of_ans (ns := n24) (by have h := prog_true hpz; have := HR.out; rwa [h] at this))
          have rz0 := cell_of_heap FZ.out.res 0
          have rz1 := cell_of_heap FZ.out.res 1
          have rz0' : Z2.cell? ⟨rb, 0, none⟩ = some (.slice none 0 0) := rz0
          have rz1' : Z2.cell? ⟨rb, 1, none⟩ = some (.slice none 0 0) := rz1
          have fz0 := frozen_of_heap FZ.out.res 0
          have fz1 := frozen_of_heap FZ.out.res 1
          have qz0 := cell_of_heap FZ.out.box 0
          have qz1 := cell_of_heap FZ.out.box 1
          have qz0' : Z2.cell? ⟨X2.heap.size + 1, 0, none⟩ = some (.slice (some ⟨be, 0, none⟩) es.length cpe) := qz0
          have qz1' : Z2.cell? ⟨X2.heap.size + 1, 1, none⟩ = some (.slice (some ⟨bt, 0, none⟩) n24.length cp24) := qz1
          clear rz0 rz1 qz0 qz1
          go_wp2_with fail
          have HFi := hid (FZ.out.stored (.slice (some ⟨be, 0, none⟩) es.length cpe) (.slice (some ⟨bt, 0, none⟩) n24.length cp24))
          refine bodyPost_ret (v := .agg #[.slice (some ⟨be, 0, none⟩) es.length cpe, .slice (some ⟨bt, 0, none⟩) n24.length cp24]) ?_ rfl ?_
          · simp [results, Try.results24, go_sem, rz0', rz1']
          · exact ⟨_, _, _, _, es, n24, _, rfl, HFi.out.1, E1.out.2.2, HFi.out.2.1, HT.out, HFi.out.2.2.1, by have := FZ.out.cost; have := HPl.out; omega, HFi.out.2.2.2⟩
    · have hBY := heap_lt HP.out.1.rd.blk
      go_wp2_with fail
      refine (node_calls (d := d) 1 7 Y hBY (by rw [HG.out]; exact hBY)).mono ?_
      rintro e Z ⟨v, rfl, hn, hb⟩
      obtain ⟨adv, cpv, rfl⟩ := hn.is
      have HFb := hid (fall_back HP.out.1 hb hn (.slice none 0 0) (.slice adv 1 cpv))
      have hres := (hb.block _ (heap_lt HP.out.1.res)).trans HP.out.1.res
      have rz0 : Z.cell? ⟨rb, 0, none⟩ = some (.slice none 0 0) := cell_of_heap hres 0
      have rz1 : Z.cell? ⟨rb, 1, none⟩ = some (.slice none 0 0) := cell_of_heap hres 1
      have fz0 := frozen_of_heap hres 0
      have fz1 := frozen_of_heap hres 1
      clear hn hb hres
      go_wp2_with fail
      refine bodyPost_ret (v := .agg #[.slice none 0 0, .slice adv 1 cpv]) ?_ rfl ?_
      · simp [results, Try.results24, go_sem, rz0, rz1]
      · exact ⟨none, 0, 0, _, [], _, p', rfl, ⟨Or.inl ⟨rfl, rfl⟩, fun e he => by simp at he⟩, by simp, HFb.out.1, ⟨_, .none, rfl, rfl, trivial, by simp⟩, HFb.out.2.1, by have := HP.out.2; omega, HFb.out.2.2⟩
end Go.Proofs.Ytnbmhopoiijhoaa

/- The draw of code. -/
namespace Go.Proofs.Ytnbmhopoiijhoaa
open Go.RowKit Go.Deep

def CodePost (d : Dr) (W : World) (p : Nat) (e : Ending) (W' : World) : Prop :=
  ∃ v cs q, e = .returned v ∧ W'.ownsRow W.heap.size 37 4 v cs.length (rowZ In.cell 4 cs) ∧ cs.length ≤ 960000 ∧ Rdr d W' q ∧ q ≤ p + 200010 ∧ Grew d W W'

theorem bytes_lowC {d : Dr} {W : World} {p : Nat} (h : Rdr d W p) : ∀ b off, d.a0 = some ⟨b, off, none⟩ → 0 < d.len → b < W.heap.size := fun b off ea hl => by
  obtain ⟨b', off', ea', hq, -⟩ := h.bytes hl
  rw [ea] at ea'
  cases ea'
  exact hq.1

/-- What lies there when code is spoilt: the reader, the code in a row of one's own. -/
structure Cd (d : Dr) (W X : World) (p g cap : Nat) (cs : List In) : Prop where
  rd : Rdr d X p
  gr : Grew d W X
  row : X.ownsRow W.heap.size 37 4 (.slice (some ⟨g, 0, none⟩) cs.length cap) cs.length (rowZ In.cell 4 cs)
  lo : d.B < W.heap.size ∧ d.G = d.B

theorem Cd.pick {d : Dr} {W X X' : World} {p p' g cap : Nat} {cs : List In} (h : Cd d W X p g cap cs) (hr : Rdr d X' p') (hg : Grew d X X') : Cd d W X' p' g cap cs :=
  ⟨hr, h.gr.trans hg, g_grew h.row h.lo.1 (by rw [h.lo.2]; exact h.lo.1) hg, h.lo⟩

theorem Cd.below {d : Dr} {W X X' : World} {p g cap : Nat} {cs : List In} (h : Cd d W X p g cap cs) (hb : Below X.heap.size X X') : Cd d W X' p g cap cs := h.pick (h.rd.below hb) (Grew.of_below hb)

theorem Cd.at {d : Dr} {W X : World} {p g cap : Nat} {cs : List In} (h : Cd d W X p g cap cs) : W.heap.size ≤ g ∧ g < X.heap.size ∧ ∃ cur, X.heap[g]? = some (.cells cur 37) := by
  obtain ⟨h1, cur, h2⟩ := g_type h.row (g := g) rfl
  exact ⟨h1, heap_lt h2, cur, h2⟩

/-- A block of one's own is written. -/
theorem Cd.other {d : Dr} {W X X' : World} {p g cap p0 q : Nat} {cs : List In} (h : Cd d W X p g cap cs) (h0 : Rdr d W p0) (ho : ∀ k, k ≠ q → X'.heap[k]? = X.heap[k]?) (hs : X'.heap.size = X.heap.size) (hos : X'.os = X.os ∧ X'.tape = X.tape ∧ X'.output = X.output) (hq : W.heap.size ≤ q) : Rdr d X' p ∧ Grew d W X' := by
  have hlo := h.lo
  refine ⟨⟨(ho _ (by omega)).trans h.rd.blk, fun hl => ?_⟩, ⟨hos.1.trans h.gr.os, hos.2.1.trans h.gr.tape, hos.2.2.trans h.gr.output, by rw [hs]; exact h.gr.size, fun k hk => (ho k (by have := hk.1; omega)).trans (h.gr.block k hk)⟩⟩
  obtain ⟨b, off, ea, hq2, hz⟩ := h.rd.bytes hl
  have hbl := bytes_lowC h0 b off ea hl
  refine ⟨b, off, ea, ⟨by rw [hs]; exact hq2.1, hq2.2⟩, fun i hi => ?_⟩
  obtain ⟨z, hz, h5⟩ := hz i hi
  exact ⟨z, (World.cell?_of_block (a := ⟨b, off + i, none⟩) (ho b (by omega))).trans hz, h5⟩

theorem Cd.set {d : Dr} {W X : World} {p g cap p0 q : Nat} {cs : List In} (h : Cd d W X p g cap cs) (h0 : Rdr d W p0) (hq : W.heap.size ≤ q) (hne : q ≠ g) (j : Nat) (v : Value) : Cd d W (X.setCell ⟨q, j, none⟩ v) p g cap cs := by
  have ho : ∀ k, k ≠ q → (X.setCell ⟨q, j, none⟩ v).heap[k]? = X.heap[k]? := fun k hk => Below.heap_setCell X ⟨q, j, none⟩ v k hk
  obtain ⟨h1, h2⟩ := h.other (q := q) (X' := X.setCell ⟨q, j, none⟩ v) h0 ho (by simp [World.setCell]) ⟨rfl, rfl, rfl⟩ hq
  exact ⟨h1, h2, g_same h.row (fun k hk => ho k (fun e => by cases hk; exact hne e.symm)), h.lo⟩

theorem Cd.quad {d : Dr} {W X : World} {p g cap p0 k : Nat} {cs : List In} (h : Cd d W X p g cap cs) (h0 : Rdr d W p0) (hk : k < cs.length) (i : In) : Cd d W (quad X g k i) p g cap (cs.set k i) := by
  obtain ⟨e, hs⟩ := quad_other X g k i
  obtain ⟨h1, h2⟩ := h.other (q := g) h0 e hs (quad_os X g k i) h.at.1
  exact ⟨h1, h2, quad_row h.row hk i, h.lo⟩

theorem box_sets {W : World} {q : Nat} {x0 x1 x2 x3 : Value} (h : W.heap[q]? = some (.cells #[x0, x1, x2, x3] 37)) (v : Value) : (W.setCell ⟨q, 0, none⟩ v).heap[q]? = some (.cells #[v, x1, x2, x3] 37) := by
  simp [World.setCell, Array.getElem?_modify, h]

theorem app_ins {W : World} {B : Nat} {v : Value} {l m : List In} {b off cap : Nat} (hown : W.ownsRow B 37 4 v l.length (rowZ In.cell 4 l)) (hc : InsAt W b off m) (hm : l.length + m.length ≤ 2000000) (hB : B ≤ W.heap.size) (ty : TypeId) :
    ∃ v' W', (Builtin.append_ #[23, 23] ty #[v, .slice (some ⟨b, off, none⟩) m.length cap]).run Try.prog W = .ok v' W' ∧ W'.ownsRow B 37 4 v' (l ++ m).length (rowZ In.cell 4 (l ++ m)) ∧ W.grownBy W' v.ownBlock := by
  obtain ⟨i0, hinf, hz0, hz1, hz2⟩ := info_parts info_insC
  obtain ⟨v', W', hr, h2, h3, -, -⟩ := run_append_own_at (P := Try.prog) W B 23 ty 37 i0 _ 4 32 Try.underlying23 hinf hz0 hz1 hz2 rfl (by decide) v l.length (rowZ In.cell 4 l) hown ⟨b, off, none⟩ m.length cap (rowZ In.cell 4 m) (rowZ_len _ 4 m)
    (fun j u hu => by
      have hj : j < m.length * 4 := by
        have := (List.getElem?_eq_some_iff.1 hu).1
        rwa [rowZ_len] at this
      rw [rowZ_get In.cell 4 (by decide) m j hj] at hu
      cases hu
      rw [Addr.add_lit]
      have := hc (j / 4) (by omega) (j % 4) (by omega)
      rwa [show off + j / 4 * 4 + j % 4 = off + j by omega] at this)
    (fun u hu => by
      unfold rowZ at hu
      rw [List.mem_flatMap] at hu
      obtain ⟨x, -, hu⟩ := hu
      rw [List.mem_map] at hu
      obtain ⟨i, -, rfl⟩ := hu
      unfold In.cell
      split <;> rfl) (by unfold maxLen; omega) (by omega) hB
  refine ⟨v', W', hr, ?_, h3⟩
  rw [List.length_append, rowZ_app]
  exact h2

theorem ins_at {X : World} {B g cap : Nat} {cs : List In} (h : X.ownsRow B 37 4 (.slice (some ⟨g, 0, none⟩) cs.length cap) cs.length (rowZ In.cell 4 cs)) : InsAt X g 0 cs := fun k hk c hc => by
  rw [Nat.zero_add, h.cellAt (k * 4 + c) (by omega), rowZ_get In.cell 4 (by decide) cs _ (by omega), show (k * 4 + c) / 4 = k by omega, show (k * 4 + c) % 4 = c by omega]

theorem ins_part {W : World} {b : Nat} {ns l r : List In} {k : Nat} (h : InsAt W b 0 ns) (hd : ns.drop k = l ++ r) : InsAt W b (k * 4) l := fun j hj c hc => by
  have hlen := congrArg List.length hd
  simp only [List.length_drop, List.length_append] at hlen
  have e := h (k + j) (by omega) c hc
  rw [show 0 + (k + j) * 4 + c = k * 4 + j * 4 + c by omega] at e
  rw [e]
  congr 2
  have : ns.getD (k + j) default = (ns.drop k).getD j default := by simp [List.getD, List.getElem?_drop]
  rw [this, hd]
  simp [List.getD, List.getElem?_append_left hj]

theorem ins_last {W : World} {b e o : Nat} {ns : List In} (h : ns.drop e = [] ∨ o = e * 4) (hn : InsAt W b 0 ns) : InsAt W b o (ns.drop e) := by
  rcases h with h | rfl
  · rw [h]
    exact fun k hk => by simp at hk
  · exact ins_part (r := []) hn (by simp)

theorem ins_made (X : World) : (X.alloc (.cells #[] 37)).ownsRow X.heap.size 37 4 (.slice (some ⟨X.heap.size, 0, none⟩) 0 0) ([] : List In).length (rowZ In.cell 4 []) := World.ownsRow_made X #[] 0 (Nat.le_refl _) (Nat.zero_le _) rfl

theorem effW_of {d : Dr} {W : World} {ad : Option Addr} {n cp : Nat} {es : List Ef} (h : EffsD d W (.slice ad n cp) es) : n = es.length ∧ EffW W ad cp es := by
  rcases h.1 with ⟨h1, h2⟩ | ⟨b, off, cap, h1, h2, rfl, h4, h5⟩
  · cases h1
    exact ⟨h2.symm, Or.inl ⟨rfl, List.eq_nil_of_length_eq_zero h2, rfl⟩⟩
  · cases h1
    refine ⟨rfl, Or.inr ⟨b, rfl, h4.1, fun k hk c hc => ?_, h2⟩⟩
    rw [Nat.zero_add]
    have := h5 (k * 3 + c) (by omega)
    rw [Nat.zero_add] at this
    rw [this]
    exact congrArg some (cell_div es Ef.cell 3 k c hc)

theorem treeN_of {d : Dr} {W : World} {v : Value} {ns : List Nd} (h : NodesD d W v ns) (h1 : 1 ≤ ns.length) : ∃ b cap, v = .slice (some ⟨b, 0, none⟩) ns.length cap ∧ b < W.heap.size ∧ NodesAt W b 0 ns := by
  have hsl := h.slice
  rcases h.1 with ⟨h2, h3⟩ | ⟨b, off, cap, h2, h3, rfl, h4, -⟩
  · omega
  · refine ⟨b, cap, h2, h4.1, ?_⟩
    obtain ⟨a, c, e, h5⟩ := hsl
    rw [h2] at e
    cases e
    rcases h5 with rfl | ⟨b', off', e', -, hn⟩
    · simp at h1
    · cases e'
      exact hn

set_option maxHeartbeats 8000000 in
set_option maxRecDepth 100000 in
theorem code_calls {d : Dr} {W : World} {p : Nat} (hG : d.G = d.B) (h : Rdr d W p) (hp : p ≤ 500000) : Calls Try.prog 12 #[.pointer (some ⟨d.B, 0, none⟩)] W (CodePost d W p) := by
  have hB := heap_lt h.blk
  have H0 := hid (And.intro h (And.intro hp (And.intro hB hG)))
  have HP := hid (prog_calls hG h hp)
  clear hG h hp hB
  go_enter Try.func12, Try.ntmps12
  go_wp2_with fail
  refine HP.out.mono ?_
  rintro e W1 ⟨ad, n, cp, vt, es, ns, p1, rfl, hE, hE4, hN, hT, hR, hq, hg⟩
  obtain ⟨rfl, hEW⟩ := effW_of hE
  obtain ⟨tn, tk, t1, -, -, t4⟩ := hT
  obtain ⟨bt, cn, rfl, hbt, hNA⟩ := treeN_of hN (by rw [t1]; simp)
  have HC := hid (compile_calls (cn := cn) hEW (by omega) hbt hNA t4)
  have HR := hid (And.intro hR (And.intro hq hg))
  clear HP hE hE4 hN hR hq hg hEW hbt hNA t1 t4
  go_wp2_with fail
  refine HC.out.mono ?_
  rintro e W2 ⟨v, cs, x, rfl, hown, hcl, hb, -, -⟩
  obtain ⟨adv, cpv, rfl⟩ := own_slice hown
  have HO := hid (own_base hown HR.out.2.2.size)
  have HCl := hid hcl
  have R2 := hid (HR.out.1.below hb)
  have G2 := hid (HR.out.2.2.trans (Grew.of_below hb))
  have HQ := hid HR.out.2.1
  clear HC hown hcl hb HR
  obtain ⟨L, hL⟩ : ∃ L, cs.length = L := ⟨_, rfl⟩
  have HL := hid hL
  rw [hL] at HO ⊢
  clear hL
  go_wp2_with fail
  refine (rdr_pick R2.out (by have := HQ.out; have := H0.out.2.1; omega) 4 (by decide)).mono ?_
  rintro e W3 ⟨m4, rfl, hm40, hm41, hr3, hg3, -, -⟩
  have R3 := hid hr3
  have G3 := hid (G2.out.trans hg3)
  have O3 := hid (g_grew HO.out H0.out.2.2.1 (by rw [H0.out.2.2.2]; exact H0.out.2.2.1) hg3)
  clear hr3 hg3 R2 G2 HO
  have FIN : Hid (CodePost d W p (.returned (.slice adv L cpv)) W3) := ⟨_, cs, _, rfl, by rw [HL.out]; exact O3.out, by have := HCl.out; omega, R3.out, by have := HQ.out; omega, G3.out⟩
  by_cases h4 : m4 = 0
  · subst h4
    by_cases hL0 : (0 : Int) < (L : Int)
    · obtain ⟨g, hgv⟩ : ∃ g, adv = some ⟨g, 0, none⟩ := by
        obtain ⟨-, ⟨-, h0⟩ | ⟨g, cap, cur, e, -⟩⟩ := O3.out
        · omega
        · cases e
          exact ⟨g, rfl⟩
      subst hgv
      have C3 : Hid (Cd d W W3 (p1 + 1) g cpv cs) := ⟨R3.out, G3.out, by rw [HL.out]; exact O3.out, H0.out.2.2.1, H0.out.2.2.2⟩
      clear R3 G3 O3 FIN hm40 hm41
      go_wp2_with fail
      refine (rdr_pick C3.out.rd (by have := HQ.out; have := H0.out.2.1; omega) (L : Int) hL0).mono ?_
      rintro e W4 ⟨mk, rfl, hmk0, hmk1, hr4, hg4, -, -⟩
      have C4 := hid (C3.out.pick hr4 hg4)
      obtain ⟨k, rfl⟩ : ∃ k : Nat, mk = (k : Int) := ⟨mk.toNat, by omega⟩
      have hcs := ins_at C4.out.row
      have hkl : k < cs.length := by rw [HL.out]; omega
      have HK := hid hkl
      have c0 := hcs k hkl 0 (by omega)
      have c1 := hcs k hkl 1 (by omega)
      have c2 := hcs k hkl 2 (by omega)
      have c3 := hcs k hkl 3 (by omega)
      obtain ⟨⟨op, a, b, c⟩, hi⟩ : ∃ i, cs.getD k default = i := ⟨_, rfl⟩
      rw [hi] at c0 c1 c2 c3
      simp only [In.cell, Nat.add_zero, Nat.zero_add] at c0 c1 c2 c3
      have hA := (MapKept.heap_alloc W4 (.cells #[.int .i64 op, .int .i64 a, .int .i64 b, .int .i64 c] 37)).1
      have hB1 := (Below.refl W4.heap.size W4).alloc (Nat.le_refl _) (.cells #[.int .i64 op, .int .i64 a, .int .i64 b, .int .i64 c] 37)
      obtain ⟨Y, hY⟩ : ∃ Y, W4.alloc (.cells #[.int .i64 op, .int .i64 a, .int .i64 b, .int .i64 c] 37) = Y := ⟨_, rfl⟩
      rw [hY] at hA hB1
      have HY := hid hY
      have HA := hid hA
      have CY := hid (C4.out.below hB1)
      have hqg : W4.heap.size ≠ g := by have := C4.out.at.2.1; omega
      have HQg := hid (And.intro hqg (show W.heap.size ≤ W4.heap.size from C4.out.gr.size))
      obtain ⟨q, hqq⟩ : ∃ q, W4.heap.size = q := ⟨_, rfl⟩
      rw [hqq] at HA HQg
      clear hcs hkl hi hA hB1 hY hr4 hg4 C3 C4 hqg
      go_upto_region 5 with fail
      rw [HY.out]
      try rw [hqq]
      clear HY c0 c1 c2 c3 hqq hmk0
      go_wp2_with fail
      refine (rdr_pick CY.out.rd (by have := HQ.out; have := H0.out.2.1; omega) 7 (by decide)).mono ?_
      rintro e W6 ⟨m7, rfl, hm70, hm71, hr6, hg6, -, ho6⟩
      have C6 := hid (CY.out.pick hr6 hg6)
      have A6 := hid ((ho6 q (by have := HQg.out.2; have := CY.out.lo; omega)).trans HA.out)
      clear hr6 hg6 ho6 HA CY
      have hk0 : (0 : Int) ≤ (k : Int) := by omega
      have HE : Hid (∀ Z s, Cd d W Z s g cpv cs → s ≤ p1 + 4 → ∀ i : In, CodePost d W p (.returned (.slice (some ⟨g, 0, none⟩) L cpv)) (quad Z g k i)) := fun Z s hz hs i => by
        have h1 := hz.quad H0.out.1 HK.out i
        have h2 := h1.row
        rw [List.length_set] at h2
        have h3 := HL.out
        refine ⟨_, cs.set k i, _, rfl, ?_, by rw [List.length_set]; have := HCl.out; omega, h1.rd, by have := HQ.out; omega, h1.gr⟩
        rw [List.length_set, ← h3]
        exact h2
      have h7 : m7 = 0 ∨ m7 = 1 ∨ m7 = 2 ∨ m7 = 3 ∨ m7 = 4 ∨ m7 = 5 ∨ m7 = 6 := by omega
      clear hm70 hm71
      rcases h7 with rfl | rfl | rfl | rfl | rfl | rfl | rfl
      · have x0 := cell_of_heap A6.out 0
        have z0 := frozen_of_heap A6.out 0
        simp at x0
        go_wp2_with fail
        refine (rdr_pick C6.out.rd (by have := HQ.out; have := H0.out.2.1; omega) 28 (by decide)).mono ?_
        rintro e W7 ⟨m8, rfl, hm80, hm81, hr7, hg7, -, ho7⟩
        have C7 := hid (C6.out.pick hr7 hg7)
        have A7 := hid ((ho7 q (by have := HQg.out.2; have := C6.out.lo; omega)).trans A6.out)
        clear hr7 hg7 ho7 x0 z0
        obtain ⟨zz, hzz⟩ : ∃ zz : Int, m8 - 1 = zz := ⟨_, rfl⟩
        have x0 := cell_of_heap A7.out 0
        have z0 := frozen_of_heap A7.out 0
        simp at x0
        have C8 := hid (C7.out.set H0.out.1 HQg.out.2 HQg.out.1 0 (.int .i64 zz))
        have A8 := hid (box_sets A7.out (.int .i64 zz))
        obtain ⟨Z, hZ⟩ : ∃ Z, W7.setCell ⟨q, 0, none⟩ (.int .i64 zz) = Z := ⟨_, rfl⟩
        rw [hZ] at C8 A8
        have HZ := hid hZ
        have HZz := hid hzz
        clear hZ hzz
        go_upto_region 20 with fail
        rw [HZz.out, HZ.out]
        clear HZ x0 z0
        have x0 := cell_of_heap A8.out 0
        have x1 := cell_of_heap A8.out 1
        have x2 := cell_of_heap A8.out 2
        have x3 := cell_of_heap A8.out 3
        simp at x0 x1 x2 x3
        obtain ⟨-, -, cur, hcur⟩ := C8.out.at
        have hcs := ins_at C8.out.row
        have y0 := hcs k HK.out 0 (by omega)
        have f0 := frozen_of_heap hcur (k * 4)
        have y1 := hcs k HK.out 1 (by omega)
        have f1 := frozen_of_heap hcur (k * 4 + 1)
        have y2 := hcs k HK.out 2 (by omega)
        have f2 := frozen_of_heap hcur (k * 4 + 2)
        have y3 := hcs k HK.out 3 (by omega)
        have f3 := frozen_of_heap hcur (k * 4 + 3)
        simp only [Nat.add_zero, Nat.zero_add] at y0 y1 y2 y3
        clear hcur hcs
        have HR := hid (HE.out Z _ C8.out (by omega) ⟨zz, a, b, c⟩)
        unfold quad at HR
        dsimp only at HR
        go_wp2_with fail
        go_ret
        exact HR.out
      · have c1 := cell_of_heap A6.out 1
        simp at c1
        go_upto_region 9 with fail
        have hD : Below W6.heap.size W6 W6.drew := (Below.refl _ _).drew
        obtain ⟨D, hDe⟩ : ∃ D, W6.drew = D := ⟨_, rfl⟩
        rw [hDe] at hD
        have CD := hid (C6.out.below hD)
        have AD := hid ((hD.block q (heap_lt A6.out)).trans A6.out)
        refine pick_begin (S := fun _ => True) (by kernel_rfl) rfl rfl ?_
        rw [hDe]
        clear hDe hD c1
        refine pick_op (i := 0) (v := .pointer (some ⟨q, 1, none⟩)) (by kernel_rfl) rfl (by kernel_rfl) (by kernel_rfl) rfl rfl (fun w' _ => by simp [go_sem]) trivial (by simp [go_sem]; exact rfl) ?_
        refine pick_op (i := 2) (v := .pointer (some ⟨d.B, 0, none⟩)) (by kernel_rfl) rfl (by kernel_rfl) (by kernel_rfl) rfl rfl (fun w' _ => by simp [go_sem]) trivial (by simp [go_sem]; exact rfl) ?_
        refine pick_either (i := 1) (j := 3) (by kernel_rfl) ?_ ?_
        · have c1 := cell_of_heap AD.out 1
          simp at c1
          refine ⟨_, .int .i64 a, D, rfl, rfl, by simp [go_sem, c1], trivial, ?_⟩
          refine pick_frame (by simp [go_sem]; exact rfl) ?_
          clear c1
          refine pick_enter (i := 3) (f := 13) (args := #[.pointer (some ⟨d.B, 0, none⟩), .int .i64 3]) rfl (by kernel_rfl) rfl rfl (by simp [go_sem]) ?_
          refine (rdr_pick CD.out.rd (by have := HQ.out; have := H0.out.2.1; omega) 3 (by decide)).mono ?_
          rintro e W7 ⟨m8, rfl, hm80, hm81, hr7, hg7, -, ho7⟩
          have C7 := hid (CD.out.pick hr7 hg7)
          have A7 := hid ((ho7 q (by have := HQg.out.2; have := CD.out.lo; omega)).trans AD.out)
          clear hr7 hg7 ho7
          refine ⟨_, rfl, trivial, ?_⟩
          refine pick_frame (by simp [go_sem]; exact rfl) ?_
          have c1 := cell_of_heap A7.out 1
          have z1 := frozen_of_heap A7.out 1
          simp at c1
          refine pick_op (i := 4) (v := .int .i64 (wrap64 (a + m8))) (by kernel_rfl) rfl (by kernel_rfl) (by kernel_rfl) rfl rfl (fun w' _ => by simp [go_sem]; exact IntWalk.i64_left _) trivial (by simp [go_sem]; exact rfl) ?_
          obtain ⟨z4, hz4⟩ : ∃ z : Int, wrap64 (a + m8) = z := ⟨_, rfl⟩
          rw [hz4]
          clear hz4
          refine pick_op (i := 5) (v := .int .i64 (wrap64 (z4 - 1))) (by kernel_rfl) rfl (by kernel_rfl) (by kernel_rfl) rfl rfl (fun w' _ => by simp [go_sem]; exact IntWalk.i64_left _) trivial (by simp [go_sem]; exact rfl) ?_
          obtain ⟨zz, hzz⟩ : ∃ z : Int, wrap64 (z4 - 1) = z := ⟨_, rfl⟩
          rw [hzz]
          clear hzz
          refine pick_op (i := 6) (v := .pointer (some ⟨q, 1, none⟩)) (by kernel_rfl) rfl (by kernel_rfl) (by kernel_rfl) rfl rfl (fun w' _ => by simp [go_sem]) trivial (by simp [go_sem]; exact rfl) ?_
          refine pick_skip (i := 7) rfl (w1 := W7.setCell ⟨q, 1, none⟩ (.int .i64 zz)) rfl (by kernel_rfl) rfl rfl (by simp [go_sem, c1, z1]) trivial ?_
          refine pick_end (by kernel_rfl) ?_
          have C8 := hid (C7.out.set H0.out.1 HQg.out.2 HQg.out.1 1 (.int .i64 zz))
          have A8 := hid (box_set A7.out (.int .i64 zz)).1
          generalize W7.setCell ⟨q, 1, none⟩ (.int .i64 zz) = Z at *
          clear c1 z1
          go_upto_region 20 with fail
          have x0 := cell_of_heap A8.out 0
          have x1 := cell_of_heap A8.out 1
          have x2 := cell_of_heap A8.out 2
          have x3 := cell_of_heap A8.out 3
          simp at x0 x1 x2 x3
          obtain ⟨-, -, cur, hcur⟩ := C8.out.at
          have hcs := ins_at C8.out.row
          have y0 := hcs k HK.out 0 (by omega)
          have f0 := frozen_of_heap hcur (k * 4)
          have y1 := hcs k HK.out 1 (by omega)
          have f1 := frozen_of_heap hcur (k * 4 + 1)
          have y2 := hcs k HK.out 2 (by omega)
          have f2 := frozen_of_heap hcur (k * 4 + 2)
          have y3 := hcs k HK.out 3 (by omega)
          have f3 := frozen_of_heap hcur (k * 4 + 3)
          simp only [Nat.add_zero, Nat.zero_add] at y0 y1 y2 y3
          clear hcur hcs
          have HR := hid (HE.out Z _ C8.out (by omega) ⟨op, zz, b, c⟩)
          unfold quad at HR
          dsimp only at HR
          go_wp2_with fail
          go_ret
          exact HR.out
        · refine ⟨_, 13, #[.pointer (some ⟨d.B, 0, none⟩), .int .i64 3], rfl, rfl, by simp [go_sem], ?_⟩
          refine (rdr_pick CD.out.rd (by have := HQ.out; have := H0.out.2.1; omega) 3 (by decide)).mono ?_
          rintro e W7 ⟨m8, rfl, hm80, hm81, hr7, hg7, -, ho7⟩
          have C7 := hid (CD.out.pick hr7 hg7)
          have A7 := hid ((ho7 q (by have := HQg.out.2; have := CD.out.lo; omega)).trans AD.out)
          clear hr7 hg7 ho7
          refine ⟨_, rfl, trivial, ?_⟩
          refine pick_frame (by simp [go_sem]; exact rfl) ?_
          have c1 := cell_of_heap A7.out 1
          have z1 := frozen_of_heap A7.out 1
          simp at c1
          refine pick_make (i := 1) (v := .int .i64 a) (w1 := W7) rfl (by kernel_rfl) rfl rfl (by simp [go_sem, c1]) trivial (by simp [go_sem]; exact rfl) ?_
          refine pick_op (i := 4) (v := .int .i64 (wrap64 (a + m8))) (by kernel_rfl) rfl (by kernel_rfl) (by kernel_rfl) rfl rfl (fun w' _ => by simp [go_sem]; exact IntWalk.i64_left _) trivial (by simp [go_sem]; exact rfl) ?_
          obtain ⟨z4, hz4⟩ : ∃ z : Int, wrap64 (a + m8) = z := ⟨_, rfl⟩
          rw [hz4]
          clear hz4
          refine pick_op (i := 5) (v := .int .i64 (wrap64 (z4 - 1))) (by kernel_rfl) rfl (by kernel_rfl) (by kernel_rfl) rfl rfl (fun w' _ => by simp [go_sem]; exact IntWalk.i64_left _) trivial (by simp [go_sem]; exact rfl) ?_
          obtain ⟨zz, hzz⟩ : ∃ z : Int, wrap64 (z4 - 1) = z := ⟨_, rfl⟩
          rw [hzz]
          clear hzz
          refine pick_op (i := 6) (v := .pointer (some ⟨q, 1, none⟩)) (by kernel_rfl) rfl (by kernel_rfl) (by kernel_rfl) rfl rfl (fun w' _ => by simp [go_sem]) trivial (by simp [go_sem]; exact rfl) ?_
          refine pick_skip (i := 7) rfl (w1 := W7.setCell ⟨q, 1, none⟩ (.int .i64 zz)) rfl (by kernel_rfl) rfl rfl (by simp [go_sem, c1, z1]) trivial ?_
          refine pick_end (by kernel_rfl) ?_
          have C8 := hid (C7.out.set H0.out.1 HQg.out.2 HQg.out.1 1 (.int .i64 zz))
          have A8 := hid (box_set A7.out (.int .i64 zz)).1
          generalize W7.setCell ⟨q, 1, none⟩ (.int .i64 zz) = Z at *
          clear c1 z1
          go_upto_region 20 with fail
          have x0 := cell_of_heap A8.out 0
          have x1 := cell_of_heap A8.out 1
          have x2 := cell_of_heap A8.out 2
          have x3 := cell_of_heap A8.out 3
          simp at x0 x1 x2 x3
          obtain ⟨-, -, cur, hcur⟩ := C8.out.at
          have hcs := ins_at C8.out.row
          have y0 := hcs k HK.out 0 (by omega)
          have f0 := frozen_of_heap hcur (k * 4)
          have y1 := hcs k HK.out 1 (by omega)
          have f1 := frozen_of_heap hcur (k * 4 + 1)
          have y2 := hcs k HK.out 2 (by omega)
          have f2 := frozen_of_heap hcur (k * 4 + 2)
          have y3 := hcs k HK.out 3 (by omega)
          have f3 := frozen_of_heap hcur (k * 4 + 3)
          simp only [Nat.add_zero, Nat.zero_add] at y0 y1 y2 y3
          clear hcur hcs
          have HR := hid (HE.out Z _ C8.out (by omega) ⟨op, zz, b, c⟩)
          unfold quad at HR
          dsimp only at HR
          go_wp2_with fail
          go_ret
          exact HR.out
      · have x0 := cell_of_heap A6.out 2
        have z0 := frozen_of_heap A6.out 2
        simp at x0
        go_wp2_with fail
        refine (rdr_pick C6.out.rd (by have := HQ.out; have := H0.out.2.1; omega) 3 (by decide)).mono ?_
        rintro e W7 ⟨m8, rfl, hm80, hm81, hr7, hg7, -, ho7⟩
        have C7 := hid (C6.out.pick hr7 hg7)
        have A7 := hid ((ho7 q (by have := HQg.out.2; have := C6.out.lo; omega)).trans A6.out)
        clear hr7 hg7 ho7 x0 z0
        obtain ⟨zz, hzz⟩ : ∃ zz : Int, m8 = zz := ⟨_, rfl⟩
        have x0 := cell_of_heap A7.out 2
        have z0 := frozen_of_heap A7.out 2
        simp at x0
        have C8 := hid (C7.out.set H0.out.1 HQg.out.2 HQg.out.1 2 (.int .i64 zz))
        have A8 := hid ((box_set A7.out (.int .i64 zz)).2.1)
        obtain ⟨Z, hZ⟩ : ∃ Z, W7.setCell ⟨q, 2, none⟩ (.int .i64 zz) = Z := ⟨_, rfl⟩
        rw [hZ] at C8 A8
        have HZ := hid hZ
        have HZz := hid hzz
        clear hZ hzz
        go_upto_region 20 with fail
        have hm := HZz.out
        subst hm
        rw [HZ.out]
        clear HZ x0 z0
        have x0 := cell_of_heap A8.out 0
        have x1 := cell_of_heap A8.out 1
        have x2 := cell_of_heap A8.out 2
        have x3 := cell_of_heap A8.out 3
        simp at x0 x1 x2 x3
        obtain ⟨-, -, cur, hcur⟩ := C8.out.at
        have hcs := ins_at C8.out.row
        have y0 := hcs k HK.out 0 (by omega)
        have f0 := frozen_of_heap hcur (k * 4)
        have y1 := hcs k HK.out 1 (by omega)
        have f1 := frozen_of_heap hcur (k * 4 + 1)
        have y2 := hcs k HK.out 2 (by omega)
        have f2 := frozen_of_heap hcur (k * 4 + 2)
        have y3 := hcs k HK.out 3 (by omega)
        have f3 := frozen_of_heap hcur (k * 4 + 3)
        simp only [Nat.add_zero, Nat.zero_add] at y0 y1 y2 y3
        clear hcur hcs
        have HR := hid (HE.out Z _ C8.out (by omega) ⟨op, a, m8, c⟩)
        unfold quad at HR
        dsimp only at HR
        go_wp2_with fail
        go_ret
        exact HR.out
      · have HW3 : Hid (wrap64 ((L : Int) + 2) = (L : Int) + 2) := by show _ = _; have := HL.out; have := HCl.out; unfold wrap64; omega
        have hp3 : (0 : Int) < (L : Int) + 2 := by omega
        have HP3 := hid hp3
        clear hp3
        go_wp2_with fail
        rw [HW3.out]
        refine (rdr_pick C6.out.rd (by have := HQ.out; have := H0.out.2.1; omega) ((L : Int) + 2) HP3.out).mono ?_
        rintro e W7 ⟨m8, rfl, hm80, hm81, hr7, hg7, -, ho7⟩
        have C7 := hid (C6.out.pick hr7 hg7)
        have A7 := hid ((ho7 q (by have := HQg.out.2; have := C6.out.lo; omega)).trans A6.out)
        clear hr7 hg7 ho7
        have x0 := cell_of_heap A7.out 3
        have z0 := frozen_of_heap A7.out 3
        simp at x0
        have C8 := hid (C7.out.set H0.out.1 HQg.out.2 HQg.out.1 3 (.int .i64 m8))
        have A8 := hid (box_set A7.out (.int .i64 m8)).2.2
        obtain ⟨Z, hZ⟩ : ∃ Z, W7.setCell ⟨q, 3, none⟩ (.int .i64 m8) = Z := ⟨_, rfl⟩
        rw [hZ] at C8 A8
        have HZ := hid hZ
        clear hZ
        go_upto_region 20 with fail
        rw [HZ.out]
        clear HZ x0 z0
        have x0 := cell_of_heap A8.out 0
        have x1 := cell_of_heap A8.out 1
        have x2 := cell_of_heap A8.out 2
        have x3 := cell_of_heap A8.out 3
        simp at x0 x1 x2 x3
        obtain ⟨-, -, cur, hcur⟩ := C8.out.at
        have hcs := ins_at C8.out.row
        have y0 := hcs k HK.out 0 (by omega)
        have f0 := frozen_of_heap hcur (k * 4)
        have y1 := hcs k HK.out 1 (by omega)
        have f1 := frozen_of_heap hcur (k * 4 + 1)
        have y2 := hcs k HK.out 2 (by omega)
        have f2 := frozen_of_heap hcur (k * 4 + 2)
        have y3 := hcs k HK.out 3 (by omega)
        have f3 := frozen_of_heap hcur (k * 4 + 3)
        simp only [Nat.add_zero, Nat.zero_add] at y0 y1 y2 y3
        clear hcur hcs
        have HR := hid (HE.out Z _ C8.out (by omega) ⟨op, a, b, m8⟩)
        unfold quad at HR
        dsimp only at HR
        go_wp2_with fail
        go_ret
        exact HR.out
      · have x0 := cell_of_heap A6.out 0
        have x1 := cell_of_heap A6.out 1
        have x2 := cell_of_heap A6.out 2
        have x3 := cell_of_heap A6.out 3
        have z0 := frozen_of_heap A6.out 0
        have z1 := frozen_of_heap A6.out 1
        have z2 := frozen_of_heap A6.out 2
        have z3 := frozen_of_heap A6.out 3
        simp at x0 x1 x2 x3
        have C8 := hid ((((C6.out.set H0.out.1 HQg.out.2 HQg.out.1 0 (.int .i64 13)).set H0.out.1 HQg.out.2 HQg.out.1 1 (.int .i64 0)).set H0.out.1 HQg.out.2 HQg.out.1 2 (.int .i64 0)).set H0.out.1 HQg.out.2 HQg.out.1 3 (.int .i64 0))
        have A8 := hid (box_set (box_set (box_set (box_sets A6.out (.int .i64 13)) (.int .i64 0)).1 (.int .i64 0)).2.1 (.int .i64 0)).2.2
        obtain ⟨Z, hZ⟩ : ∃ Z, (((W6.setCell ⟨q, 0, none⟩ (.int .i64 13)).setCell ⟨q, 1, none⟩ (.int .i64 0)).setCell ⟨q, 2, none⟩ (.int .i64 0)).setCell ⟨q, 3, none⟩ (.int .i64 0) = Z := ⟨_, rfl⟩
        rw [hZ] at C8 A8
        have HZ := hid hZ
        clear hZ
        go_upto_region 20 with fail
        rw [HZ.out]
        clear HZ x0 x1 x2 x3 z0 z1 z2 z3
        have x0 := cell_of_heap A8.out 0
        have x1 := cell_of_heap A8.out 1
        have x2 := cell_of_heap A8.out 2
        have x3 := cell_of_heap A8.out 3
        simp at x0 x1 x2 x3
        obtain ⟨-, -, cur, hcur⟩ := C8.out.at
        have hcs := ins_at C8.out.row
        have y0 := hcs k HK.out 0 (by omega)
        have f0 := frozen_of_heap hcur (k * 4)
        have y1 := hcs k HK.out 1 (by omega)
        have f1 := frozen_of_heap hcur (k * 4 + 1)
        have y2 := hcs k HK.out 2 (by omega)
        have f2 := frozen_of_heap hcur (k * 4 + 2)
        have y3 := hcs k HK.out 3 (by omega)
        have f3 := frozen_of_heap hcur (k * 4 + 3)
        simp only [Nat.add_zero, Nat.zero_add] at y0 y1 y2 y3
        clear hcur hcs
        have HR := hid (HE.out Z _ C8.out (by omega) ⟨13, 0, 0, 0⟩)
        unfold quad at HR
        dsimp only at HR
        go_wp2_with fail
        go_ret
        exact HR.out
      · have x0 := cell_of_heap A6.out 0
        have x1 := cell_of_heap A6.out 1
        have x2 := cell_of_heap A6.out 2
        have x3 := cell_of_heap A6.out 3
        have z0 := frozen_of_heap A6.out 0
        have z1 := frozen_of_heap A6.out 1
        have z2 := frozen_of_heap A6.out 2
        have z3 := frozen_of_heap A6.out 3
        simp at x0 x1 x2 x3
        have C8 := hid ((((C6.out.set H0.out.1 HQg.out.2 HQg.out.1 0 (.int .i64 3)).set H0.out.1 HQg.out.2 HQg.out.1 1 (.int .i64 0)).set H0.out.1 HQg.out.2 HQg.out.1 2 (.int .i64 0)).set H0.out.1 HQg.out.2 HQg.out.1 3 (.int .i64 0))
        have A8 := hid (box_set (box_set (box_set (box_sets A6.out (.int .i64 3)) (.int .i64 0)).1 (.int .i64 0)).2.1 (.int .i64 0)).2.2
        obtain ⟨Z, hZ⟩ : ∃ Z, (((W6.setCell ⟨q, 0, none⟩ (.int .i64 3)).setCell ⟨q, 1, none⟩ (.int .i64 0)).setCell ⟨q, 2, none⟩ (.int .i64 0)).setCell ⟨q, 3, none⟩ (.int .i64 0) = Z := ⟨_, rfl⟩
        rw [hZ] at C8 A8
        have HZ := hid hZ
        clear hZ
        go_upto_region 20 with fail
        rw [HZ.out]
        clear HZ x0 x1 x2 x3 z0 z1 z2 z3
        have x0 := cell_of_heap A8.out 0
        have x1 := cell_of_heap A8.out 1
        have x2 := cell_of_heap A8.out 2
        have x3 := cell_of_heap A8.out 3
        simp at x0 x1 x2 x3
        obtain ⟨-, -, cur, hcur⟩ := C8.out.at
        have hcs := ins_at C8.out.row
        have y0 := hcs k HK.out 0 (by omega)
        have f0 := frozen_of_heap hcur (k * 4)
        have y1 := hcs k HK.out 1 (by omega)
        have f1 := frozen_of_heap hcur (k * 4 + 1)
        have y2 := hcs k HK.out 2 (by omega)
        have f2 := frozen_of_heap hcur (k * 4 + 2)
        have y3 := hcs k HK.out 3 (by omega)
        have f3 := frozen_of_heap hcur (k * 4 + 3)
        simp only [Nat.add_zero, Nat.zero_add] at y0 y1 y2 y3
        clear hcur hcs
        have HR := hid (HE.out Z _ C8.out (by omega) ⟨3, 0, 0, 0⟩)
        unfold quad at HR
        dsimp only at HR
        go_wp2_with fail
        go_ret
        exact HR.out
      · obtain ⟨-, -, cur, hcur⟩ := C6.out.at
        have hcap : L ≤ cpv := by obtain ⟨-, ⟨h1, -⟩ | ⟨g', cap', cur', e, -, -, h2, -⟩⟩ := C6.out.row; cases h1; cases e; rw [HL.out] at h2; exact h2
        have hkL : k < L := by have := HK.out; have := HL.out; omega
        have hkc : (k : Int) ≤ (cpv : Int) := by omega
        have HW1 : Hid (wrap64 ((k : Int) + 1) = ((k + 1 : Nat) : Int)) := by show _ = _; have := HCl.out; have := HL.out; unfold wrap64; omega
        clear hcur
        go_upto_region 19 with fail
        have hD : Below W6.heap.size W6 W6.drew := (Below.refl _ _).drew
        obtain ⟨D, hDe⟩ : ∃ D, W6.drew = D := ⟨_, rfl⟩
        rw [hDe] at hD
        have CD := hid (C6.out.below hD)
        refine pick_begin (S := fun _ => True) (by kernel_rfl) rfl rfl ?_
        rw [hDe]
        clear hDe hD
        have hk9 : ¬ cpv < k := by omega
        have he9 : k + 1 ≤ L := by omega
        have he8 : ((k + 1 : Nat) : Int) ≤ (L : Int) := by omega
        obtain ⟨o3, ho3, hO3⟩ : ∃ o3, (if cpv = k + 1 then some (⟨g, 0, none⟩ : Addr) else some ⟨g, (k + 1) * 4, none⟩) = some ⟨g, o3, none⟩ ∧ (cs.drop (k + 1) = [] ∨ o3 = (k + 1) * 4) := by
          by_cases h : cpv = k + 1
          · exact ⟨0, by rw [if_pos h], Or.inl (List.drop_eq_nil_of_le (by have := HL.out; omega))⟩
          · exact ⟨(k + 1) * 4, by rw [if_neg h], Or.inr rfl⟩
        have HO3 := hid hO3
        clear hO3
        refine pick_op (i := 1) (v := .slice (some ⟨g, 0, none⟩) L cpv) (by kernel_rfl) rfl (by kernel_rfl) (by kernel_rfl) rfl rfl (fun w' _ => by simp [go_sem]) trivial (by simp [go_sem]; exact rfl) ?_
        refine pick_op (i := 2) (v := .int .i64 (k : Int)) (by kernel_rfl) rfl (by kernel_rfl) (by kernel_rfl) rfl rfl (fun w' _ => by simp [go_sem]) trivial (by simp [go_sem]; exact rfl) ?_
        refine pick_op (i := 3) (v := .slice (some ⟨g, 0, none⟩) k cpv) (by kernel_rfl) rfl (by kernel_rfl) (by kernel_rfl) rfl rfl (fun w' _ => by simp [go_sem, Try.underlying23, hk9]) trivial (by simp [go_sem]; exact rfl) ?_
        refine pick_op (i := 5) (v := .slice (some ⟨g, 0, none⟩) L cpv) (by kernel_rfl) rfl (by kernel_rfl) (by kernel_rfl) rfl rfl (fun w' _ => by simp [go_sem]) trivial (by simp [go_sem]; exact rfl) ?_
        refine pick_op (i := 6) (v := .int .i64 (k : Int)) (by kernel_rfl) rfl (by kernel_rfl) (by kernel_rfl) rfl rfl (fun w' _ => by simp [go_sem]) trivial (by simp [go_sem]; exact rfl) ?_
        refine pick_op (i := 7) (v := .int .i64 (wrap64 ((k : Int) + 1))) (by kernel_rfl) rfl (by kernel_rfl) (by kernel_rfl) rfl rfl (fun w' _ => by simp [go_sem]; exact IntWalk.i64_left _) trivial (by simp [go_sem]; exact rfl) ?_
        rw [HW1.out]
        obtain ⟨k1, hk1⟩ : ∃ k1, k + 1 = k1 := ⟨_, rfl⟩
        rw [hk1] at ho3 he9 HO3 ⊢
        have HK1 := hid hk1
        clear hk1 he8 HW1
        refine pick_op (i := 8) (v := .slice (some ⟨g, o3, none⟩) (L - k1) (cpv - k1)) (by kernel_rfl) rfl (by kernel_rfl) (by kernel_rfl) rfl rfl (fun w' _ => by simp [go_sem, Try.underlying23, he9, ho3]) trivial (by simp [go_sem]; exact rfl) ?_
        have OW0 := hid (ins_made D)
        have BL0 : Hid (Below D.heap.size D (D.alloc (.cells #[] 37))) := (Below.refl _ _).alloc (Nat.le_refl _) _
        refine pick_make (i := 0) (v := .slice (some ⟨D.heap.size, 0, none⟩) 0 0) (w1 := D.alloc (.cells #[] 37)) rfl (by kernel_rfl) rfl rfl (by simp [go_sem]) trivial (by simp [go_sem]; exact rfl) ?_
        generalize D.alloc (.cells #[] 37) = Y0 at *
        have HNs := hid (fun (Y : World) (hb : Below D.heap.size D Y) => ins_at (CD.out.below hb).row)
        have HLn : Hid ((cs.take k).length = k ∧ (cs.drop k1).length = L - k1) := ⟨by rw [List.length_take]; have := HK.out; omega, by rw [List.length_drop, HL.out]⟩
        obtain ⟨v1, Y1, hrun, hown, hgr⟩ := app_ins (b := g) (off := 0) (cap := cpv) OW0.out (m := cs.take k) (by have h := ins_part (k := 0) (l := cs.take k) (r := cs.drop k) (HNs.out Y0 BL0.out) (by rw [List.drop_zero, List.take_append_drop]); rwa [Nat.zero_mul] at h) (by rw [HLn.out.1]; have := HCl.out; have := HK.out; simp; omega) BL0.out.size 23
        have OW1 := hid hown
        have BL1 : Hid (Below D.heap.size D Y1) := BL0.out.grown hgr BL0.out.size (fun x hx => (OW0.out.lt x hx).1)
        rw [HLn.out.1] at hrun
        obtain ⟨ad1, cp1, hv1⟩ := g_is hown
        obtain ⟨l1, hl1⟩ : ∃ l, (([] : List In) ++ cs.take k).length = l := ⟨_, rfl⟩
        rw [hl1] at hv1
        subst hv1
        clear hown hgr hl1
        refine pick_make (i := 4) (v := .slice ad1 l1 cp1) (w1 := Y1) rfl (by kernel_rfl) rfl rfl (append_run (s := .tmp 67) (x := .tmp 70) (t := 23) rfl rfl rfl hrun) trivial (by simp [go_sem]; exact rfl) ?_
        clear hrun
        have HLl : Hid ((([] : List In) ++ cs.take k).length + (cs.drop k1).length ≤ 950000) := by show _ ≤ _; have h1 := HLn.out.2; have h2 := HLn.out.1; have h3 := HCl.out; have h4 := HL.out; have h5 := HK1.out; rw [List.nil_append]; omega
        obtain ⟨v2, Y2, hrun, hown, hgr⟩ := app_ins (b := g) (off := o3) (cap := cpv - k1) OW1.out (m := cs.drop k1) (ins_last HO3.out (HNs.out Y1 BL1.out)) (by have := HLl.out; omega) BL1.out.size 23
        have OW2 := hid hown
        have BL2 : Hid (Below D.heap.size D Y2) := BL1.out.grown hgr BL1.out.size (fun x hx => (OW1.out.lt x hx).1)
        rw [HLn.out.2] at hrun
        obtain ⟨ad2, cp2, hv2⟩ := g_is hown
        obtain ⟨l2, hl2⟩ : ∃ l, ((([] : List In) ++ cs.take k) ++ cs.drop k1).length = l := ⟨_, rfl⟩
        rw [hl2] at hv2
        subst hv2
        clear hown hgr hl2
        refine pick_make (i := 9) (v := .slice ad2 l2 cp2) (w1 := Y2) rfl (by kernel_rfl) rfl rfl (append_run (s := .tmp 71) (x := .tmp 75) (t := 23) rfl rfl rfl hrun) trivial (by simp [go_sem]; exact rfl) ?_
        clear hrun
        refine pick_op (i := 10) (v := .slice ad2 l2 cp2) (by kernel_rfl) rfl (by kernel_rfl) (by kernel_rfl) rfl rfl (fun w' _ => by simp [go_sem]) trivial (by simp [go_sem]; exact rfl) ?_
        refine pick_end (by kernel_rfl) ?_
        have CE := hid (CD.out.below BL2.out)
        have HDs : Hid (W.heap.size ≤ D.heap.size) := CD.out.gr.size
        have HR : Hid (CodePost d W p (.returned (.slice ad2 l2 cp2)) Y2) := ⟨_, _, _, rfl, own_base OW2.out HDs.out, by rw [List.length_append]; have := HLl.out; omega, CE.out.rd, by have := HQ.out; omega, CE.out.gr⟩
        clear hk9 he9 ho3 hkc hkL hcap
        go_wp2_with fail
        go_ret
        exact HR.out
    · have z4 : ¬ ((0 : Int) < (L : Int)) := hL0
      go_wp2_with fail
      go_ret
      exact FIN.out
  · have z4 : (m4 == 0) = false := by simp [h4]
    go_wp2_with fail
    go_ret
    exact FIN.out
end Go.Proofs.Ytnbmhopoiijhoaa
