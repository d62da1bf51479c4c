/- A handler is drawn. -/
import Derived.Test.YtegjdgiegnofhaaDoorGenJML
namespace Go.Proofs.YtegjdgiegnofhaaDoor
open Go.RowKit Go.Deep

theorem bo_start {W X : World} (hs : W.heap.size ≤ X.heap.size) : (X.alloc (.cells #[] 4)).ownsRow W.heap.size 4 1 (.slice (some ⟨X.heap.size, 0, none⟩) 0 0) ([] : List Bool).length (rowZ boV 1 []) := World.ownsRow_made X #[] 0 hs (Nat.zero_le _) rfl

/-- What the first loop bears: which operations are handled. -/
structure Pk (d : Dr) (ve : Value) (W : World) (s : Cn) (X : World) (s1 : Cn) (t c : Nat) (vi : Value) (ms : List Bool) (vo : Value) (os : List Nat) (E : Nat) : Prop where
  at_ : At d ve W s X s1 t c
  may : X.ownsRow W.heap.size 4 1 vi ms.length (rowZ boV 1 ms)
  ops : X.ownsRow W.heap.size 3 1 vo os.length (rowZ gnV 1 os)
  len : ms.length = E
  lt : ∀ j ∈ os, j < E
  few : os.length ≤ 4

theorem Pk.grew {d : Dr} {ve : Value} {W X X' : World} {s s1 s2 : Cn} {t t' c c' : Nat} {vi vo : Value} {ms : List Bool} {os : List Nat} {E : Nat} (h : Pk d ve W s X s1 t c vi ms vo os E) (h0 : Gen d ve W s) (ha : At d ve W s X' s2 t' c') (hg : Grew d X X') : Pk d ve W s X' s2 t' c' vi ms vo os E :=
  ⟨ha, g_grew h.may h0.ltB h0.ltG hg, g_grew h.ops h0.ltB h0.ltG hg, h.len, h.lt, h.few⟩

theorem in_lit {d : Dr} (X : World) (j : Nat) (h1 : d.B < X.heap.size) (h2 : d.G < X.heap.size) : Lies d (X.alloc (.cells #[.int .i64 (j : Int)] 3)) (.slice (some ⟨X.heap.size, 0, none⟩) 1 1) [j].length 1 (fun i => gnV ([j].getD (i / 1) default) (i % 1)) :=
  lies_lit (f := gnV) (sz := 1) (by decide) X 3 [j] _ rfl h1 h2

/-- An operation more is handled. -/
theorem Pk.app {d : Dr} {ve : Value} {W X : World} {s s1 : Cn} {t c : Nat} {vi vo : Value} {ms : List Bool} {os : List Nat} {E : Nat} (h : Pk d ve W s X s1 t c vi ms vo os E) (h0 : Gen d ve W s) (j : Nat) (hj : j < E) (hf : os.length < 4) (ty : TypeId) :
    ∃ v' X', (Builtin.append_ #[42, 42] ty #[vo, .slice (some ⟨X.heap.size, 0, none⟩) 1 1]).run Tryd.prog (X.alloc (.cells #[.int .i64 (j : Int)] 3)) = .ok v' X' ∧ Pk d ve W s X' s1 t c vi ms v' (os ++ [j]) E := by
  obtain ⟨i0, hinf, hz0, hz1, hz2⟩ := info_parts info_int
  have hmX := h.may.alloc (.cells #[.int .i64 (j : Int)] 3)
  have hoX := h.ops.alloc (.cells #[.int .i64 (j : Int)] 3)
  have haX := h.at_.alloc (.cells #[.int .i64 (j : Int)] 3)
  obtain ⟨v', X', hr, ho, hgr⟩ := app_row (d := d) in_one Tryd.underlying42 hinf hz0 hz1 hz2 rfl (by decide) (by decide) hoX (in_lit X j h.at_.1.ltB h.at_.1.ltG) (by simp; omega) haX.2.1.size ty
  refine ⟨v', X', hr, haX.own h0 hgr (fun g hg => (hoX.lt g hg).1), g_other hmX hoX hgr (by decide), ho, h.len, fun x hx => ?_, by simp; omega⟩
  rw [List.mem_append, List.mem_singleton] at hx
  rcases hx with hx | rfl
  · exact h.lt x hx
  · exact hj

/-- It may be performed inside. -/
theorem Pk.set {d : Dr} {ve : Value} {W X : World} {s s1 : Cn} {t c : Nat} {vi vo : Value} {ms : List Bool} {os : List Nat} {E : Nat} (h : Pk d ve W s X s1 t c vi ms vo os E) (h0 : Gen d ve W s) (j : Nat) (hj : j < E) :
    ∃ g cap u, vi = .slice (some ⟨g, 0, none⟩) E cap ∧ X.cell? ⟨g, j, none⟩ = some u ∧ X.frozen? ⟨g, j, none⟩ = false ∧ Pk d ve W s (X.setCell ⟨g, j, none⟩ (.bool true)) s1 t c vi (ms.set j true) vo os E := by
  obtain ⟨g, cap, u, rfl, hB, hlt, hc, hf, hown, hgr⟩ := bools_set h.may (i := j) (by rw [h.len]; exact hj) true
  refine ⟨g, cap, u, by rw [h.len], hc, hf, h.at_.own h0 hgr (fun k hk => by cases hk; exact hB), hown, g_same h.ops (fun k hk => hgr.block k (h.ops.lt k hk).2 (fun e => ?_)), by rw [List.length_set]; exact h.len, h.lt, h.few⟩
  cases e
  obtain ⟨-, c1, hc1⟩ := g_type h.ops hk
  obtain ⟨-, c2, hc2⟩ := g_type h.may (g := g) rfl
  rw [hc1] at hc2
  cases hc2

set_option maxHeartbeats 8000000 in
set_option maxRecDepth 100000 in
/-- A handler. -/
theorem handler_calls {d : Dr} {ve v vm : Value} {es : List Ef} {W : World} {s : Cn} {ks : List Kn} {ms : List Bool} {D : Nat} (ty : Int) (deep : Int) (hO : OfC d ve es D) (h1 : deep ≤ D) (h2 : -90 ≤ deep) (h3 : D ≤ 100) (h : Gen d ve W s) (hf : Fit s 250) (hE : Env d ve es W v ks vm ms (D + 1)) :
    Calls Tryd.prog 54 #[.pointer (some ⟨d.G, 0, none⟩), .int .i64 ty, v, vm, .int .i64 deep] W (NodesPost d ve W s 250) := by
  have HF := hid hf
  have HO := hid hO
  have A0 := hid (At.start h)
  have HE := hid hE
  have HD := hid (And.intro h1 (And.intro h2 h3))
  have hdu : deep ≤ 1000 := by omega
  obtain ⟨ad, cp, rfl⟩ := hE.know.is
  obtain ⟨adm, cpm, rfl⟩ := hE.may.is
  have H0 := hid h
  obtain ⟨ade, cpe, rfl⟩ := hE.effs.is
  clear hO h1 h3 h hf hE
  have HL : Hid (es.length ≤ 4 ∧ ms.length = es.length) := ⟨HE.out.few, HE.out.len⟩
  obtain ⟨ib, hbi, hb0, hb1, hb2⟩ := info_parts info_bool
  go_enter Tryd.func54, Tryd.ntmps54
  have HEW := HE
  have g0 := A0.out.1.c0
  go_wp2_with fail
  refine (A0.out.pick HF.out (by omega) 4 (by decide)).mono ?_
  rintro e X1 ⟨m1, s1, rfl, hm1, hM1, ha, hg⟩
  have A1 := hid ha
  have G1 := hid hg
  clear ha hg
  clear g0
  have hcs : m1 = 0 ∨ 1 ≤ m1 := by omega
  rcases hcs with rfl | h1
  · clear hm1
    have bs := hid (bo_start (W := W) (X := X1) A1.out.2.1.size)
    go_wp2_with (at_builtin; refine wpList_append_by rfl _ _ 78 rfl _ _ rfl rfl (fun ty => app_row (d := d) bo_one Tryd.underlying78 hbi hb0 hb1 hb2 rfl (by decide) (by decide) bs.out (bools_lies ((HE.out.grew G1.out).may.grew ((Grew.refl d X1).alloc _))) (by have := HL.out; simp; omega) (by have := A1.out.2.1.size; simp; omega) ty) ?_; intro vi Xi hvi; have AI := hid (And.intro ((A1.out.alloc _).own H0.out hvi.2 (fun g hg => (bs.out.lt g hg).1)) hvi.1); clear hvi)
    rw [List.nil_append] at AI
    obtain ⟨adi, cpi, rfl⟩ := g_is AI.out.2
    have P0 : Hid (Pk d (.slice ade es.length cpe) W s Xi _ _ _ (.slice adi ms.length cpi) ms (.slice none 0 0) [] es.length) := ⟨AI.out.1, AI.out.2, World.ownsRow_nil _ _ _ _, HL.out.2, fun j hj => by simp at hj, by simp⟩
    clear bs AI
    go_loopw [13, 14] (fun o i wr => ∃ (i' : Nat) (ms' : List Bool) (os' : List Nat) (s' : Cn) (t' c' : Nat), i = .int .i64 i' ∧ i' ≤ es.length ∧ Hid (Pk d (.slice ade es.length cpe) W s wr s' t' c' (.slice adi ms.length cpi) ms' o os' es.length) ∧ Hid (c' ≤ 1 + i')) (fun _ i _ => es.length - (intOf i).toNat)
    case atStart => exact ⟨0, ms, [], _, _, _, rfl, Nat.zero_le _, P0, by show _ ≤ _; omega⟩
    case round =>
      obtain ⟨i', ms', os', s', t', c', rfl, hle, HP, HC⟩ := hrel
      obtain ⟨ado, cpo, rfl⟩ := g_is HP.out.ops
      have g0 := HP.out.at_.1.c0
      have g1 := HP.out.at_.1.c1
      by_cases hi : (i' : Int) < (es.length : Int)
      · obtain ⟨g, cap, u, hv, -, -, -⟩ := HP.out.set H0.out i' (by omega)
        simp only [Value.slice.injEq] at hv
        obtain ⟨rfl, -, rfl⟩ := hv
        have hi0 : (0 : Int) ≤ (i' : Int) := by omega
        have hi2 : (i' : Int) < (ms.length : Int) := by have := HL.out.2; omega
        have hstep : es.length - (intOf (.int .i64 ((i' + 1 : Nat) : Int))).toNat < es.length - (intOf (.int .i64 (i' : Int))).toNat := lt_step hi
        go_wp2_with fail
        refine (HP.out.at_.pick HF.out (by have := HC.out; have := HL.out.1; omega) 2 (by decide)).mono ?_
        rintro e X2 ⟨m, s2, rfl, hm0, hm1, ha, hg⟩
        have HP2 := hid (HP.out.grew H0.out ha hg)
        clear ha hg g0 g1 HP P0
        by_cases hm : m = 0
        · subst hm
          by_cases hf : (os'.length : Int) < 4
          · go_wp2_with (at_builtin; refine wpList_append_by rfl _ _ 42 rfl _ _ rfl rfl (fun ty => HP2.out.app H0.out i' (by omega) (by omega) ty) ?_; intro v3 X3 hv3; obtain ⟨ad3, cp3, hv9⟩ := g_is hv3.ops; rw [show (os' ++ [i']).length = os'.length + 1 by simp] at hv9; subst hv9; obtain ⟨g', cap', u', hv', hcu, hfu, hset⟩ := hv3.set H0.out i' (by omega); have HP4 := hid hset; simp only [Value.slice.injEq, Option.some.injEq, Addr.mk.injEq] at hv'; obtain ⟨⟨rfl, -⟩, -, rfl⟩ := hv'; clear hv3 hset)
            rw [wrap_succ (by have := HL.out.1; omega)]
            exact ⟨⟨i' + 1, _, _, s2, t' + 1, c' + 1, rfl, by omega, HP4, by show _ ≤ _; have := HC.out; omega⟩, hstep⟩
          · go_wp2_with fail
            rw [wrap_succ (by have := HL.out.1; omega)]
            exact ⟨⟨i' + 1, _, _, s2, t' + 1, c' + 1, rfl, by omega, HP2, by show _ ≤ _; have := HC.out; omega⟩, hstep⟩
        · have hz : (m == 0) = false := by simp [hm]
          go_wp2_with fail
          rw [wrap_succ (by have := HL.out.1; omega)]
          exact ⟨⟨i' + 1, _, _, s2, t' + 1, c' + 1, rfl, by omega, HP2, by show _ ≤ _; have := HC.out; omega⟩, hstep⟩
      · have ei : i' = es.length := by omega
        have hc5 : c' ≤ 5 := by have := HC.out; have := HL.out.1; omega
        have AH := hid HP.out.at_
        have HE2 := hid (HE.out.grew AH.out.2.1)
        have MI := hid (And.intro (bools_own (d := d) HP.out.may H0.out.ltB H0.out.ltG) HP.out.len)
        have HOs := hid (And.intro HP.out.lt HP.out.few)
        have OR := hid HP.out.ops
        clear HE HP P0 HC ei
        have HE := HE2
        clear HE2
        rename World => Y0
        go_wp2_with fail
        refine (AH.out.name HF.out (by omega)).mono ?_
        rintro e X2 ⟨x2, s2, rfl, hb2, ha, hg⟩
        have A2 := hid ha
        have G2 := hid hg
        clear ha hg
        have B2 := hid hb2
        clear hb2
        clear g0 g1
        go_wp2_with fail
        refine (A2.out.nodes (HO.out deep ty _ _ _ _ _ _ (by have := HD.out; omega) (by have := HD.out; omega) (A2.out.fit HF.out 10 (by omega)) A2.out.1 ((HE.out.grew G2.out).let (MI.out.1.grew G2.out) MI.out.2))).mono ?_
        rintro e X3 ⟨v3, n3, s3, t3, rfl, hn3, hl3, ha, hg⟩
        have A3 := hid ha
        have G3 := hid hg
        clear ha hg
        have N3 := hid (And.intro hn3 hl3)
        obtain ⟨ad3, cp3, rfl⟩ := hn3.is
        clear hn3 hl3
        go_wp2_with fail
        refine (A3.out.add x2 ty 0 (HE.out.grew (G2.out.trans G3.out)).know B2.out (by have := HE.out.room; omega)).mono ?_
        rintro e X4 ⟨u4, ks4, rfl, hk4, hkl4, ha, hg⟩
        have A4 := hid ha
        have G4 := hid hg
        clear ha hg
        have K4 := hid (And.intro hk4 hkl4)
        obtain ⟨ad4, cp4, rfl⟩ := hk4.is
        clear hk4 hkl4
        go_wp2_with fail
        refine (A4.out.nodes (HO.out deep ty _ _ _ _ _ _ (by have := HD.out; omega) (by have := HD.out; omega) (A4.out.fit HF.out 10 (by omega)) A4.out.1 ((HE.out.grew (G2.out.trans (G3.out.trans G4.out))).with K4.out.1 (by have := K4.out.2; omega)))).mono ?_
        rintro e X5 ⟨v5, n5, s5, t5, rfl, hn5, hl5, ha, hg⟩
        have A5 := hid ha
        have G5 := hid hg
        clear ha hg
        have N5 := hid (And.intro hn5 hl5)
        obtain ⟨ad5, cp5, rfl⟩ := hn5.is
        clear hn5 hl5
        go_wp2_with fail
        refine (A5.out.put1 25 0 0 x2 ByteArray.empty ByteArray.empty N5.out.1 ⟨B2.out, brief_none, brief_none⟩ (by have := A5.out.bound HF.out (by omega) (by decide); have := N5.out.2; omega)).mono ?_
        rintro e X6 ⟨v6, n6, rfl, hn6, hl6, ha, hg⟩
        have A6 := hid ha
        have G6 := hid hg
        clear ha hg
        have N6 := hid (And.intro hn6 hl6)
        obtain ⟨ad6, cp6, rfl⟩ := hn6.is
        clear hn6 hl6
        have HS : Hid (Hn d (.slice ade es.length cpe) W s (X6.alloc (.cells #[.slice ad3 n3.length cp3, .slice ad6 n6.length cp6] 55)) _ _ _ (.slice (some ⟨X6.heap.size, 0, none⟩) 2 2) [⟨ad3, cp3, n3⟩, ⟨ad6, cp6, n6⟩] (.slice ado os'.length cpo) os') := hn_start A6.out (g_grew OR.out H0.out.ltB H0.out.ltG (G2.out.trans (G3.out.trans (G4.out.trans (G5.out.trans G6.out))))) ⟨ad3, cp3, n3⟩ ⟨ad6, cp6, n6⟩ (N3.out.1.grew (G4.out.trans (G5.out.trans G6.out))) N6.out.1
        have hfl : (flatL (kdL [⟨ad3, cp3, n3⟩, ⟨ad6, cp6, n6⟩])).length ≤ n3.length + n6.length := by simp [flatL, kdL]
        go_wp2_with fail
        go_loopw [16, 17] (fun kv i wr => ∃ (i2 : Nat) (ls : List Kd) (s2 : Cn) (t2 c2 : Nat), i = .int .i64 i2 ∧ i2 ≤ os'.length ∧ Hid (Hn d (.slice ade es.length cpe) W s wr s2 t2 c2 kv ls (.slice ado os'.length cpo) os') ∧ Hid (c2 ≤ 30 + 40 * i2 ∧ ls.length = 2 + i2 ∧ (flatL (kdL ls)).length ≤ t2 + 3 + 8 * i2)) (fun _ i _ => os'.length - (intOf i).toNat)
        case atStart => exact ⟨0, [⟨ad3, cp3, n3⟩, ⟨ad6, cp6, n6⟩], _, _, _, rfl, Nat.zero_le _, HS, by omega, rfl, by have := N3.out.2; have := N6.out.2; have := N5.out.2; omega⟩
        case round =>
          obtain ⟨i2, ls, s2, t2, c2, rfl, hle2, HH, HB⟩ := hrel
          obtain ⟨adk, cpk, rfl⟩ := g_is HH.out.kids
          by_cases hj : (i2 : Int) < (os'.length : Int)
          · rename World => Y1
            have hc2 : c2 + 40 ≤ 190 := by have := HB.out; have := HOs.out.2; omega
            have AR := hid HH.out.at_
            obtain ⟨go, j, rfl, hjo, hgB, hgl, cj⟩ := ops_at HH.out.ops (i := i2) (by omega)
            have hjE : j < es.length := HOs.out.1 j hjo
            have HEr := hid (HEW.out.grew AR.out.2.1)
            obtain ⟨be, oe, xn, xa, xr, rfl, -, hbr, hqe, c0, c1, c2'⟩ := HEr.out.effs.at (i := j) hjE
            have HQ := hid (And.intro hqe (And.intro hbr (And.intro hgl (And.intro (show go ≠ d.B by have := H0.out.ltB; omega) (show go ≠ d.G by have := H0.out.ltG; omega)))))
            have HE := HEr
            have hj0 : (0 : Int) ≤ (j : Int) := by omega
            have hj1 : (j : Int) < (es.length : Int) := by omega
            have hi20 : (0 : Int) ≤ (i2 : Int) := by omega
            have hstep : os'.length - (intOf (.int .i64 ((i2 + 1 : Nat) : Int))).toNat < os'.length - (intOf (.int .i64 (i2 : Int))).toNat := lt_step hj
            clear hqe hbr hgl hgB hjE hjo
            go_upto_region 17 with fail
            refine pick_begin (S := fun w' => w'.cell? ⟨d.G, 1, none⟩ = some (.slice (some ⟨be, oe, none⟩) es.length cpe) ∧ w'.cell? ⟨go, i2, none⟩ = some (.int .i64 (j : Int)) ∧ w'.cell? ⟨be, oe + j * 3, none⟩ = some (.string xn) ∧ w'.cell? ⟨be, oe + j * 3 + 1, none⟩ = some (.int .i64 xa) ∧ w'.cell? ⟨be, oe + j * 3 + 2, none⟩ = some (.int .i64 xr)) (by kernel_rfl) rfl rfl ?_
            have A7 := hid AR.out.drew
            have G7 := hid (Grew.refl d Y1).drew
            generalize Y1.drew = X7 at *
            refine pick_op (i := 0) (v := .pointer (some ⟨d.G, 0, none⟩)) (by kernel_rfl) rfl (by kernel_rfl) (by kernel_rfl) rfl rfl (fun w' hw => by simp [go_sem]) ⟨A7.out.1.c1, ((G7.out.cell (p := ⟨go, i2, none⟩) ⟨HQ.out.2.2.1, HQ.out.2.2.2.1, HQ.out.2.2.2.2⟩).trans cj), ((G7.out.cell (p := ⟨be, oe + j * 3, none⟩) HQ.out.1).trans c0), ((G7.out.cell (p := ⟨be, oe + j * 3 + 1, none⟩) HQ.out.1).trans c1), ((G7.out.cell (p := ⟨be, oe + j * 3 + 2, none⟩) HQ.out.1).trans c2')⟩ (by simp [go_sem]; exact rfl) ?_
            refine pick_op (i := 1) (v := .pointer (some ⟨d.G, 0, none⟩)) (by kernel_rfl) rfl (by kernel_rfl) (by kernel_rfl) rfl rfl (fun w' hw => by simp [go_sem]) ⟨A7.out.1.c1, ((G7.out.cell (p := ⟨go, i2, none⟩) ⟨HQ.out.2.2.1, HQ.out.2.2.2.1, HQ.out.2.2.2.2⟩).trans cj), ((G7.out.cell (p := ⟨be, oe + j * 3, none⟩) HQ.out.1).trans c0), ((G7.out.cell (p := ⟨be, oe + j * 3 + 1, none⟩) HQ.out.1).trans c1), ((G7.out.cell (p := ⟨be, oe + j * 3 + 2, none⟩) HQ.out.1).trans c2')⟩ (by simp [go_sem]; exact rfl) ?_
            refine pick_op (i := 2) (v := .pointer (some ⟨d.G, 1, none⟩)) (by kernel_rfl) rfl (by kernel_rfl) (by kernel_rfl) rfl rfl (fun w' hw => by simp [go_sem]) ⟨A7.out.1.c1, ((G7.out.cell (p := ⟨go, i2, none⟩) ⟨HQ.out.2.2.1, HQ.out.2.2.2.1, HQ.out.2.2.2.2⟩).trans cj), ((G7.out.cell (p := ⟨be, oe + j * 3, none⟩) HQ.out.1).trans c0), ((G7.out.cell (p := ⟨be, oe + j * 3 + 1, none⟩) HQ.out.1).trans c1), ((G7.out.cell (p := ⟨be, oe + j * 3 + 2, none⟩) HQ.out.1).trans c2')⟩ (by simp [go_sem]; exact rfl) ?_
            refine pick_op (i := 3) (v := .slice (some ⟨be, oe, none⟩) es.length cpe) (by kernel_rfl) rfl (by kernel_rfl) (by kernel_rfl) rfl rfl (fun w' hw => by simp [go_sem, hw.1]) ⟨A7.out.1.c1, ((G7.out.cell (p := ⟨go, i2, none⟩) ⟨HQ.out.2.2.1, HQ.out.2.2.2.1, HQ.out.2.2.2.2⟩).trans cj), ((G7.out.cell (p := ⟨be, oe + j * 3, none⟩) HQ.out.1).trans c0), ((G7.out.cell (p := ⟨be, oe + j * 3 + 1, none⟩) HQ.out.1).trans c1), ((G7.out.cell (p := ⟨be, oe + j * 3 + 2, none⟩) HQ.out.1).trans c2')⟩ (by simp [go_sem]; exact rfl) ?_
            refine pick_op (i := 4) (v := (.slice (some ⟨go, 0, none⟩) os'.length cpo)) (by kernel_rfl) rfl (by kernel_rfl) (by kernel_rfl) rfl rfl (fun w' hw => by simp [go_sem]) ⟨A7.out.1.c1, ((G7.out.cell (p := ⟨go, i2, none⟩) ⟨HQ.out.2.2.1, HQ.out.2.2.2.1, HQ.out.2.2.2.2⟩).trans cj), ((G7.out.cell (p := ⟨be, oe + j * 3, none⟩) HQ.out.1).trans c0), ((G7.out.cell (p := ⟨be, oe + j * 3 + 1, none⟩) HQ.out.1).trans c1), ((G7.out.cell (p := ⟨be, oe + j * 3 + 2, none⟩) HQ.out.1).trans c2')⟩ (by simp [go_sem]; exact rfl) ?_
            refine pick_op (i := 5) (v := .int .i64 (i2 : Int)) (by kernel_rfl) rfl (by kernel_rfl) (by kernel_rfl) rfl rfl (fun w' hw => by simp [go_sem]) ⟨A7.out.1.c1, ((G7.out.cell (p := ⟨go, i2, none⟩) ⟨HQ.out.2.2.1, HQ.out.2.2.2.1, HQ.out.2.2.2.2⟩).trans cj), ((G7.out.cell (p := ⟨be, oe + j * 3, none⟩) HQ.out.1).trans c0), ((G7.out.cell (p := ⟨be, oe + j * 3 + 1, none⟩) HQ.out.1).trans c1), ((G7.out.cell (p := ⟨be, oe + j * 3 + 2, none⟩) HQ.out.1).trans c2')⟩ (by simp [go_sem]; exact rfl) ?_
            refine pick_op (i := 6) (v := .pointer (some ⟨go, i2, none⟩)) (by kernel_rfl) rfl (by kernel_rfl) (by kernel_rfl) rfl rfl (fun w' hw => by simp [go_sem, hi20, hj]) ⟨A7.out.1.c1, ((G7.out.cell (p := ⟨go, i2, none⟩) ⟨HQ.out.2.2.1, HQ.out.2.2.2.1, HQ.out.2.2.2.2⟩).trans cj), ((G7.out.cell (p := ⟨be, oe + j * 3, none⟩) HQ.out.1).trans c0), ((G7.out.cell (p := ⟨be, oe + j * 3 + 1, none⟩) HQ.out.1).trans c1), ((G7.out.cell (p := ⟨be, oe + j * 3 + 2, none⟩) HQ.out.1).trans c2')⟩ (by simp [go_sem]; exact rfl) ?_
            refine pick_op (i := 7) (v := .int .i64 (j : Int)) (by kernel_rfl) rfl (by kernel_rfl) (by kernel_rfl) rfl rfl (fun w' hw => by simp [go_sem, hw.2.1]) ⟨A7.out.1.c1, ((G7.out.cell (p := ⟨go, i2, none⟩) ⟨HQ.out.2.2.1, HQ.out.2.2.2.1, HQ.out.2.2.2.2⟩).trans cj), ((G7.out.cell (p := ⟨be, oe + j * 3, none⟩) HQ.out.1).trans c0), ((G7.out.cell (p := ⟨be, oe + j * 3 + 1, none⟩) HQ.out.1).trans c1), ((G7.out.cell (p := ⟨be, oe + j * 3 + 2, none⟩) HQ.out.1).trans c2')⟩ (by simp [go_sem]; exact rfl) ?_
            refine pick_op (i := 8) (v := .pointer (some ⟨be, oe + j * 3, none⟩)) (by kernel_rfl) rfl (by kernel_rfl) (by kernel_rfl) rfl rfl (fun w' hw => by simp [go_sem, hj0, hj1]) ⟨A7.out.1.c1, ((G7.out.cell (p := ⟨go, i2, none⟩) ⟨HQ.out.2.2.1, HQ.out.2.2.2.1, HQ.out.2.2.2.2⟩).trans cj), ((G7.out.cell (p := ⟨be, oe + j * 3, none⟩) HQ.out.1).trans c0), ((G7.out.cell (p := ⟨be, oe + j * 3 + 1, none⟩) HQ.out.1).trans c1), ((G7.out.cell (p := ⟨be, oe + j * 3 + 2, none⟩) HQ.out.1).trans c2')⟩ (by simp [go_sem]; exact rfl) ?_
            refine pick_op (i := 9) (v := .agg #[.string xn, .int .i64 xa, .int .i64 xr]) (by kernel_rfl) rfl (by kernel_rfl) (by kernel_rfl) rfl rfl (fun w' hw => by simp [go_sem, hw.2.2.1, hw.2.2.2.1, hw.2.2.2.2]) ⟨A7.out.1.c1, ((G7.out.cell (p := ⟨go, i2, none⟩) ⟨HQ.out.2.2.1, HQ.out.2.2.2.1, HQ.out.2.2.2.2⟩).trans cj), ((G7.out.cell (p := ⟨be, oe + j * 3, none⟩) HQ.out.1).trans c0), ((G7.out.cell (p := ⟨be, oe + j * 3 + 1, none⟩) HQ.out.1).trans c1), ((G7.out.cell (p := ⟨be, oe + j * 3 + 2, none⟩) HQ.out.1).trans c2')⟩ (by simp [go_sem]; exact rfl) ?_
            have A8 := hid (A7.out.alloc (.cells #[.string ⟨#[]⟩, .int .i64 0, .int .i64 0] 86))
            have G8 := hid ((Grew.refl d X7).alloc (.cells #[.string ⟨#[]⟩, .int .i64 0, .int .i64 0] 86))
            refine pick_make (i := 10) (v := .pointer (some ⟨X7.heap.size, 0, none⟩)) (w1 := X7.alloc (.cells #[.string ⟨#[]⟩, .int .i64 0, .int .i64 0] 86)) rfl (by kernel_rfl) rfl rfl (by simp [go_sem]) ⟨A8.out.1.c1, (((G7.out.trans G8.out).cell (p := ⟨go, i2, none⟩) ⟨HQ.out.2.2.1, HQ.out.2.2.2.1, HQ.out.2.2.2.2⟩).trans cj), (((G7.out.trans G8.out).cell (p := ⟨be, oe + j * 3, none⟩) HQ.out.1).trans c0), (((G7.out.trans G8.out).cell (p := ⟨be, oe + j * 3 + 1, none⟩) HQ.out.1).trans c1), (((G7.out.trans G8.out).cell (p := ⟨be, oe + j * 3 + 2, none⟩) HQ.out.1).trans c2')⟩ (by simp [go_sem]; exact rfl) ?_
            have EB := hid (boxW_heap X7 xn xa xr)
            have A9 := hid (A7.out.below (boxW_below X7 xn xa xr))
            have G9 : Hid (Grew d X7 (boxW X7 xn xa xr)) := Grew.of_below (boxW_below X7 xn xa xr)
            have HQ2 := hid (And.intro A7.out.1.ltB A7.out.1.ltG)
            refine pick_skip (i := 11) (w1 := boxW X7 xn xa xr) rfl rfl (by kernel_rfl) rfl rfl (by simp [go_sem, boxW]) ⟨A9.out.1.c1, (((G7.out.trans G9.out).cell (p := ⟨go, i2, none⟩) ⟨HQ.out.2.2.1, HQ.out.2.2.2.1, HQ.out.2.2.2.2⟩).trans cj), (((G7.out.trans G9.out).cell (p := ⟨be, oe + j * 3, none⟩) HQ.out.1).trans c0), (((G7.out.trans G9.out).cell (p := ⟨be, oe + j * 3 + 1, none⟩) HQ.out.1).trans c1), (((G7.out.trans G9.out).cell (p := ⟨be, oe + j * 3 + 2, none⟩) HQ.out.1).trans c2')⟩ ?_
            refine pick_end (by kernel_rfl) ?_
            obtain ⟨bq, hbq⟩ : ∃ q, X7.heap.size = q := ⟨_, rfl⟩
            generalize boxW X7 xn xa xr = X9 at *
            rw [hbq] at EB HQ2 ⊢
            clear hbq cj c0 c1 c2' A8 G8
            go_wp2_with fail
            refine (A9.out.name HF.out (by omega)).mono ?_
            rintro e X10 ⟨x10, s10, rfl, hb10, ha, hg⟩
            have A10 := hid ha
            have G10 := hid hg
            clear ha hg
            have B10 := hid hb10
            clear hb10
            go_wp2_with fail
            refine (A10.out.name HF.out (by omega)).mono ?_
            rintro e X11 ⟨x11, s11, rfl, hb11, ha, hg⟩
            have A11 := hid ha
            have G11 := hid hg
            clear ha hg
            have B11 := hid hb11
            clear hb11
            have ec := (((G10.out.trans G11.out)).cell (p := ⟨bq, 1, none⟩) ⟨heap_lt EB.out, (show bq ≠ d.B by have := HQ2.out.1; omega), (show bq ≠ d.G by have := HQ2.out.2; omega)⟩).trans (cell_of_heap EB.out 1)
            have ec : X11.cell? ⟨bq, 1, none⟩ = some (.int .i64 xa) := ec
            go_wp2_with fail
            refine (base_calls xa _).mono ?_
            rintro e W9 ⟨rfl, rfl⟩
            clear ec
            go_wp2_with fail
            refine (A11.out.add x10 xa 0 (HE.out.grew (G7.out.trans (G9.out.trans (G10.out.trans G11.out)))).know B10.out (by have := HE.out.room; omega)).mono ?_
            rintro e X12 ⟨u12, ks12, rfl, hk12, hkl12, ha, hg⟩
            have A12 := hid ha
            have G12 := hid hg
            clear ha hg
            have K12 := hid (And.intro hk12 hkl12)
            obtain ⟨ad12, cp12, rfl⟩ := hk12.is
            clear hk12 hkl12
            have g0 := A12.out.1.c0
            go_wp2_with fail
            refine (A12.out.pick HF.out (by omega) 6 (by decide)).mono ?_
            rintro e X13 ⟨m13, s13, rfl, hm13, hM13, ha, hg⟩
            have A13 := hid ha
            have G13 := hid hg
            clear ha hg
            clear g0
            by_cases hm6 : m13 = 0
            · subst hm6
              have ec := (((G10.out.trans (G11.out.trans (G12.out.trans G13.out)))).cell (p := ⟨bq, 2, none⟩) ⟨heap_lt EB.out, (show bq ≠ d.B by have := HQ2.out.1; omega), (show bq ≠ d.G by have := HQ2.out.2; omega)⟩).trans (cell_of_heap EB.out 2)
              have ec : X13.cell? ⟨bq, 2, none⟩ = some (.int .i64 xr) := ec
              go_wp2_with fail
              refine (base_calls xr _).mono ?_
              rintro e W9 ⟨rfl, rfl⟩
              clear ec
              go_wp2_with fail
              refine (A13.out.add x11 (wrap64 (10 + ty)) xr (K12.out.1.grew G13.out) B11.out (by have := HE.out.room; have := K12.out.2; omega)).mono ?_
              rintro e X14 ⟨u14, ks14, rfl, hk14, hkl14, ha, hg⟩
              have A14 := hid ha
              have G14 := hid hg
              clear ha hg
              have K14 := hid (And.intro hk14 hkl14)
              obtain ⟨ad14, cp14, rfl⟩ := hk14.is
              clear hk14 hkl14
              go_wp2_with fail
              refine (A14.out.nodes (HO.out deep ty _ _ _ _ _ _ (by have := HD.out; omega) (by have := HD.out; omega) (A14.out.fit HF.out 10 (by omega)) A14.out.1 ((HE.out.grew (G7.out.trans (G9.out.trans (G10.out.trans (G11.out.trans (G12.out.trans (G13.out.trans G14.out))))))).with K14.out.1 (by have := K12.out.2; have := K14.out.2; omega)))).mono ?_
              rintro e X15 ⟨v15, n15, s15, t15, rfl, hn15, hl15, ha, hg⟩
              have A15 := hid ha
              have G15 := hid hg
              clear ha hg
              have N15 := hid (And.intro hn15 hl15)
              obtain ⟨ad15, cp15, rfl⟩ := hn15.is
              clear hn15 hl15
              have ec := (((G10.out.trans (G11.out.trans (G12.out.trans (G13.out.trans (G14.out.trans G15.out)))))).cell (p := ⟨bq, 0, none⟩) ⟨heap_lt EB.out, (show bq ≠ d.B by have := HQ2.out.1; omega), (show bq ≠ d.G by have := HQ2.out.2; omega)⟩).trans (cell_of_heap EB.out 0)
              have ec : X15.cell? ⟨bq, 0, none⟩ = some (.string xn) := ec
              go_wp2_with fail
              refine (A15.out.put1 26 0 0 xn x10 x11 N15.out.1 ⟨HQ.out.2.1, B10.out, B11.out⟩ (by have := A15.out.bound HF.out (by omega) (by decide); have := N15.out.2; omega)).mono ?_
              rintro e X16 ⟨v16, n16, rfl, hn16, hl16, ha, hg⟩
              have A16 := hid ha
              have G16 := hid hg
              clear ha hg
              have N16 := hid (And.intro hn16 hl16)
              obtain ⟨ad16, cp16, rfl⟩ := hn16.is
              clear hn16 hl16
              clear ec
              have HFl : Hid ((flatL (kdL (ls ++ [⟨ad16, cp16, n16⟩]))).length = (flatL (kdL ls)).length + n16.length) := by show _ = _; simp [flatL, kdL]
              have HLL : Hid (ls.length ≤ 1000) := by show _ ≤ _; have := HB.out; have := HOs.out.2; omega
              go_wp2_with (at_builtin; refine wpList_append_by rfl _ _ 116 rfl _ _ rfl rfl (fun ty_ => HH.out.app H0.out A16.out (G7.out.trans (G9.out.trans (G10.out.trans (G11.out.trans (G12.out.trans (G13.out.trans (G14.out.trans (G15.out.trans G16.out)))))))) ⟨ad16, cp16, n16⟩ N16.out.1 HLL.out ty_) ?_; intro vq Xq hvq; have HQQ := hid hvq; clear hvq)
              rw [wrap_succ (by have := HOs.out.2; omega)]
              exact ⟨⟨i2 + 1, ls ++ [⟨ad16, cp16, n16⟩], _, _, _, rfl, by omega, HQQ, by have := HB.out; omega, by have := HB.out; simp; omega, by have := HB.out; have := HFl.out; have := N16.out.2; have := N15.out.2; omega⟩, hstep⟩
            · have z6 : (m13 == 0) = false := by simp [hm6]
              go_wp2_with fail
              refine (A13.out.nodes (HO.out deep ty _ _ _ _ _ _ (by have := HD.out; omega) (by have := HD.out; omega) (A13.out.fit HF.out 10 (by omega)) A13.out.1 ((HE.out.grew (G7.out.trans (G9.out.trans (G10.out.trans (G11.out.trans (G12.out.trans G13.out)))))).with (K12.out.1.grew G13.out) (by have := K12.out.2; omega)))).mono ?_
              rintro e X14 ⟨v14, n14, s14, t14, rfl, hn14, hl14, ha, hg⟩
              have A14 := hid ha
              have G14 := hid hg
              clear ha hg
              have N14 := hid (And.intro hn14 hl14)
              obtain ⟨ad14, cp14, rfl⟩ := hn14.is
              clear hn14 hl14
              have ec := (((G10.out.trans (G11.out.trans (G12.out.trans (G13.out.trans G14.out))))).cell (p := ⟨bq, 0, none⟩) ⟨heap_lt EB.out, (show bq ≠ d.B by have := HQ2.out.1; omega), (show bq ≠ d.G by have := HQ2.out.2; omega)⟩).trans (cell_of_heap EB.out 0)
              have ec : X14.cell? ⟨bq, 0, none⟩ = some (.string xn) := ec
              go_wp2_with fail
              refine (A14.out.put1 26 0 0 xn x10 x11 N14.out.1 ⟨HQ.out.2.1, B10.out, B11.out⟩ (by have := A14.out.bound HF.out (by omega) (by decide); have := N14.out.2; omega)).mono ?_
              rintro e X15 ⟨v15, n15, rfl, hn15, hl15, ha, hg⟩
              have A15 := hid ha
              have G15 := hid hg
              clear ha hg
              have N15 := hid (And.intro hn15 hl15)
              obtain ⟨ad15, cp15, rfl⟩ := hn15.is
              clear hn15 hl15
              clear ec
              have HFl : Hid ((flatL (kdL (ls ++ [⟨ad15, cp15, n15⟩]))).length = (flatL (kdL ls)).length + n15.length) := by show _ = _; simp [flatL, kdL]
              have HLL : Hid (ls.length ≤ 1000) := by show _ ≤ _; have := HB.out; have := HOs.out.2; omega
              go_wp2_with (at_builtin; refine wpList_append_by rfl _ _ 116 rfl _ _ rfl rfl (fun ty_ => HH.out.app H0.out A15.out (G7.out.trans (G9.out.trans (G10.out.trans (G11.out.trans (G12.out.trans (G13.out.trans (G14.out.trans G15.out))))))) ⟨ad15, cp15, n15⟩ N15.out.1 HLL.out ty_) ?_; intro vq Xq hvq; have HQQ := hid hvq; clear hvq)
              rw [wrap_succ (by have := HOs.out.2; omega)]
              exact ⟨⟨i2 + 1, ls ++ [⟨ad15, cp15, n15⟩], _, _, _, rfl, by omega, HQQ, by have := HB.out; omega, by have := HB.out; simp; omega, by have := HB.out; have := HFl.out; have := N15.out.2; have := N14.out.2; omega⟩, hstep⟩
          · have e2 : i2 = os'.length := by omega
            have hb4 := HOs.out.2
            have hcz : c2 ≤ 190 ∧ (flatL (kdL ls)).length ≤ t2 + 35 := by have := HB.out; omega
            have AZ := hid HH.out.at_
            have HKZ := hid (kids_own HH.out.kids H0.out.ltB H0.out.ltG HH.out.nodes)
            go_wp2_with fail
            refine (AZ.out.put_kids 24 0 0 ⟨#[]⟩ ⟨#[]⟩ ⟨#[]⟩ HKZ.out ⟨brief_none, brief_none, brief_none⟩ (by simp [kdL]; have := HB.out; omega) (by have := AZ.out.bound HF.out (by omega) (by decide); omega)).mono ?_
            rintro e XZ ⟨vz, nz, rfl, hnz, hlz, haz, hgz⟩
            have NZ := hid (And.intro haz (And.intro hnz hlz))
            clear haz hnz hlz hgz
            go_wp2_with fail
            go_ret
            exact NZ.out.1.done 36 NZ.out.2.1 (by have := NZ.out.2.2; omega) (by omega)
  · have z0 : (m1 == 0) = false := by simp; omega
    have bs := hid (bo_start (W := W) (X := X1) A1.out.2.1.size)
    go_wp2_with (at_builtin; refine wpList_append_by rfl _ _ 78 rfl _ _ rfl rfl (fun ty => app_row (d := d) bo_one Tryd.underlying78 hbi hb0 hb1 hb2 rfl (by decide) (by decide) bs.out (bools_lies ((HE.out.grew G1.out).may.grew ((Grew.refl d X1).alloc _))) (by have := HL.out; simp; omega) (by have := A1.out.2.1.size; simp; omega) ty) ?_; intro vi Xi hvi; have AI := hid (And.intro ((A1.out.alloc _).own H0.out hvi.2 (fun g hg => (bs.out.lt g hg).1)) hvi.1); clear hvi)
    rw [List.nil_append] at AI
    obtain ⟨adi, cpi, rfl⟩ := g_is AI.out.2
    have P0 : Hid (Pk d (.slice ade es.length cpe) W s Xi _ _ _ (.slice adi ms.length cpi) ms (.slice none 0 0) [] es.length) := ⟨AI.out.1, AI.out.2, World.ownsRow_nil _ _ _ _, HL.out.2, fun j hj => by simp at hj, by simp⟩
    clear bs AI
    go_loopw [13, 14] (fun o i wr => ∃ (i' : Nat) (ms' : List Bool) (os' : List Nat) (s' : Cn) (t' c' : Nat), i = .int .i64 i' ∧ i' ≤ es.length ∧ Hid (Pk d (.slice ade es.length cpe) W s wr s' t' c' (.slice adi ms.length cpi) ms' o os' es.length) ∧ Hid (c' ≤ 1 + i')) (fun _ i _ => es.length - (intOf i).toNat)
    case atStart => exact ⟨0, ms, [], _, _, _, rfl, Nat.zero_le _, P0, by show _ ≤ _; omega⟩
    case round =>
      obtain ⟨i', ms', os', s', t', c', rfl, hle, HP, HC⟩ := hrel
      obtain ⟨ado, cpo, rfl⟩ := g_is HP.out.ops
      have g0 := HP.out.at_.1.c0
      have g1 := HP.out.at_.1.c1
      by_cases hi : (i' : Int) < (es.length : Int)
      · obtain ⟨g, cap, u, hv, -, -, -⟩ := HP.out.set H0.out i' (by omega)
        simp only [Value.slice.injEq] at hv
        obtain ⟨rfl, -, rfl⟩ := hv
        have hi0 : (0 : Int) ≤ (i' : Int) := by omega
        have hi2 : (i' : Int) < (ms.length : Int) := by have := HL.out.2; omega
        have hstep : es.length - (intOf (.int .i64 ((i' + 1 : Nat) : Int))).toNat < es.length - (intOf (.int .i64 (i' : Int))).toNat := lt_step hi
        go_wp2_with fail
        refine (HP.out.at_.pick HF.out (by have := HC.out; have := HL.out.1; omega) 2 (by decide)).mono ?_
        rintro e X2 ⟨m, s2, rfl, hm0, hm1, ha, hg⟩
        have HP2 := hid (HP.out.grew H0.out ha hg)
        clear ha hg g0 g1 HP P0
        by_cases hm : m = 0
        · subst hm
          by_cases hf : (os'.length : Int) < 4
          · go_wp2_with (at_builtin; refine wpList_append_by rfl _ _ 42 rfl _ _ rfl rfl (fun ty => HP2.out.app H0.out i' (by omega) (by omega) ty) ?_; intro v3 X3 hv3; obtain ⟨ad3, cp3, hv9⟩ := g_is hv3.ops; rw [show (os' ++ [i']).length = os'.length + 1 by simp] at hv9; subst hv9; obtain ⟨g', cap', u', hv', hcu, hfu, hset⟩ := hv3.set H0.out i' (by omega); have HP4 := hid hset; simp only [Value.slice.injEq, Option.some.injEq, Addr.mk.injEq] at hv'; obtain ⟨⟨rfl, -⟩, -, rfl⟩ := hv'; clear hv3 hset)
            rw [wrap_succ (by have := HL.out.1; omega)]
            exact ⟨⟨i' + 1, _, _, s2, t' + 1, c' + 1, rfl, by omega, HP4, by show _ ≤ _; have := HC.out; omega⟩, hstep⟩
          · go_wp2_with fail
            rw [wrap_succ (by have := HL.out.1; omega)]
            exact ⟨⟨i' + 1, _, _, s2, t' + 1, c' + 1, rfl, by omega, HP2, by show _ ≤ _; have := HC.out; omega⟩, hstep⟩
        · have hz : (m == 0) = false := by simp [hm]
          go_wp2_with fail
          rw [wrap_succ (by have := HL.out.1; omega)]
          exact ⟨⟨i' + 1, _, _, s2, t' + 1, c' + 1, rfl, by omega, HP2, by show _ ≤ _; have := HC.out; omega⟩, hstep⟩
      · have ei : i' = es.length := by omega
        have hc5 : c' ≤ 5 := by have := HC.out; have := HL.out.1; omega
        have AH := hid HP.out.at_
        have HE2 := hid (HE.out.grew AH.out.2.1)
        have MI := hid (And.intro (bools_own (d := d) HP.out.may H0.out.ltB H0.out.ltG) HP.out.len)
        have HOs := hid (And.intro HP.out.lt HP.out.few)
        have OR := hid HP.out.ops
        clear HE HP P0 HC ei
        have HE := HE2
        clear HE2
        rename World => Y0
        go_wp2_with fail
        refine (AH.out.name HF.out (by omega)).mono ?_
        rintro e X2 ⟨x2, s2, rfl, hb2, ha, hg⟩
        have A2 := hid ha
        have G2 := hid hg
        clear ha hg
        have B2 := hid hb2
        clear hb2
        clear g0 g1
        go_wp2_with fail
        refine (A2.out.nodes (HO.out deep ty _ _ _ _ _ _ (by have := HD.out; omega) (by have := HD.out; omega) (A2.out.fit HF.out 10 (by omega)) A2.out.1 ((HE.out.grew G2.out).let (MI.out.1.grew G2.out) MI.out.2))).mono ?_
        rintro e X3 ⟨v3, n3, s3, t3, rfl, hn3, hl3, ha, hg⟩
        have A3 := hid ha
        have G3 := hid hg
        clear ha hg
        have N3 := hid (And.intro hn3 hl3)
        obtain ⟨ad3, cp3, rfl⟩ := hn3.is
        clear hn3 hl3
        go_wp2_with fail
        refine (A3.out.add x2 ty 0 (HE.out.grew (G2.out.trans G3.out)).know B2.out (by have := HE.out.room; omega)).mono ?_
        rintro e X4 ⟨u4, ks4, rfl, hk4, hkl4, ha, hg⟩
        have A4 := hid ha
        have G4 := hid hg
        clear ha hg
        have K4 := hid (And.intro hk4 hkl4)
        obtain ⟨ad4, cp4, rfl⟩ := hk4.is
        clear hk4 hkl4
        go_wp2_with fail
        refine (A4.out.nodes (HO.out deep ty _ _ _ _ _ _ (by have := HD.out; omega) (by have := HD.out; omega) (A4.out.fit HF.out 10 (by omega)) A4.out.1 ((HE.out.grew (G2.out.trans (G3.out.trans G4.out))).with K4.out.1 (by have := K4.out.2; omega)))).mono ?_
        rintro e X5 ⟨v5, n5, s5, t5, rfl, hn5, hl5, ha, hg⟩
        have A5 := hid ha
        have G5 := hid hg
        clear ha hg
        have N5 := hid (And.intro hn5 hl5)
        obtain ⟨ad5, cp5, rfl⟩ := hn5.is
        clear hn5 hl5
        go_wp2_with fail
        refine (A5.out.put1 25 0 0 x2 ByteArray.empty ByteArray.empty N5.out.1 ⟨B2.out, brief_none, brief_none⟩ (by have := A5.out.bound HF.out (by omega) (by decide); have := N5.out.2; omega)).mono ?_
        rintro e X6 ⟨v6, n6, rfl, hn6, hl6, ha, hg⟩
        have A6 := hid ha
        have G6 := hid hg
        clear ha hg
        have N6 := hid (And.intro hn6 hl6)
        obtain ⟨ad6, cp6, rfl⟩ := hn6.is
        clear hn6 hl6
        have HS : Hid (Hn d (.slice ade es.length cpe) W s (X6.alloc (.cells #[.slice ad3 n3.length cp3, .slice ad6 n6.length cp6] 55)) _ _ _ (.slice (some ⟨X6.heap.size, 0, none⟩) 2 2) [⟨ad3, cp3, n3⟩, ⟨ad6, cp6, n6⟩] (.slice ado os'.length cpo) os') := hn_start A6.out (g_grew OR.out H0.out.ltB H0.out.ltG (G2.out.trans (G3.out.trans (G4.out.trans (G5.out.trans G6.out))))) ⟨ad3, cp3, n3⟩ ⟨ad6, cp6, n6⟩ (N3.out.1.grew (G4.out.trans (G5.out.trans G6.out))) N6.out.1
        have hfl : (flatL (kdL [⟨ad3, cp3, n3⟩, ⟨ad6, cp6, n6⟩])).length ≤ n3.length + n6.length := by simp [flatL, kdL]
        go_wp2_with fail
        go_loopw [16, 17] (fun kv i wr => ∃ (i2 : Nat) (ls : List Kd) (s2 : Cn) (t2 c2 : Nat), i = .int .i64 i2 ∧ i2 ≤ os'.length ∧ Hid (Hn d (.slice ade es.length cpe) W s wr s2 t2 c2 kv ls (.slice ado os'.length cpo) os') ∧ Hid (c2 ≤ 30 + 40 * i2 ∧ ls.length = 2 + i2 ∧ (flatL (kdL ls)).length ≤ t2 + 3 + 8 * i2)) (fun _ i _ => os'.length - (intOf i).toNat)
        case atStart => exact ⟨0, [⟨ad3, cp3, n3⟩, ⟨ad6, cp6, n6⟩], _, _, _, rfl, Nat.zero_le _, HS, by omega, rfl, by have := N3.out.2; have := N6.out.2; have := N5.out.2; omega⟩
        case round =>
          obtain ⟨i2, ls, s2, t2, c2, rfl, hle2, HH, HB⟩ := hrel
          obtain ⟨adk, cpk, rfl⟩ := g_is HH.out.kids
          by_cases hj : (i2 : Int) < (os'.length : Int)
          · rename World => Y1
            have hc2 : c2 + 40 ≤ 190 := by have := HB.out; have := HOs.out.2; omega
            have AR := hid HH.out.at_
            obtain ⟨go, j, rfl, hjo, hgB, hgl, cj⟩ := ops_at HH.out.ops (i := i2) (by omega)
            have hjE : j < es.length := HOs.out.1 j hjo
            have HEr := hid (HEW.out.grew AR.out.2.1)
            obtain ⟨be, oe, xn, xa, xr, rfl, -, hbr, hqe, c0, c1, c2'⟩ := HEr.out.effs.at (i := j) hjE
            have HQ := hid (And.intro hqe (And.intro hbr (And.intro hgl (And.intro (show go ≠ d.B by have := H0.out.ltB; omega) (show go ≠ d.G by have := H0.out.ltG; omega)))))
            have HE := HEr
            have hj0 : (0 : Int) ≤ (j : Int) := by omega
            have hj1 : (j : Int) < (es.length : Int) := by omega
            have hi20 : (0 : Int) ≤ (i2 : Int) := by omega
            have hstep : os'.length - (intOf (.int .i64 ((i2 + 1 : Nat) : Int))).toNat < os'.length - (intOf (.int .i64 (i2 : Int))).toNat := lt_step hj
            clear hqe hbr hgl hgB hjE hjo
            go_upto_region 17 with fail
            refine pick_begin (S := fun w' => w'.cell? ⟨d.G, 1, none⟩ = some (.slice (some ⟨be, oe, none⟩) es.length cpe) ∧ w'.cell? ⟨go, i2, none⟩ = some (.int .i64 (j : Int)) ∧ w'.cell? ⟨be, oe + j * 3, none⟩ = some (.string xn) ∧ w'.cell? ⟨be, oe + j * 3 + 1, none⟩ = some (.int .i64 xa) ∧ w'.cell? ⟨be, oe + j * 3 + 2, none⟩ = some (.int .i64 xr)) (by kernel_rfl) rfl rfl ?_
            have A7 := hid AR.out.drew
            have G7 := hid (Grew.refl d Y1).drew
            generalize Y1.drew = X7 at *
            refine pick_op (i := 0) (v := .pointer (some ⟨d.G, 0, none⟩)) (by kernel_rfl) rfl (by kernel_rfl) (by kernel_rfl) rfl rfl (fun w' hw => by simp [go_sem]) ⟨A7.out.1.c1, ((G7.out.cell (p := ⟨go, i2, none⟩) ⟨HQ.out.2.2.1, HQ.out.2.2.2.1, HQ.out.2.2.2.2⟩).trans cj), ((G7.out.cell (p := ⟨be, oe + j * 3, none⟩) HQ.out.1).trans c0), ((G7.out.cell (p := ⟨be, oe + j * 3 + 1, none⟩) HQ.out.1).trans c1), ((G7.out.cell (p := ⟨be, oe + j * 3 + 2, none⟩) HQ.out.1).trans c2')⟩ (by simp [go_sem]; exact rfl) ?_
            refine pick_op (i := 1) (v := .pointer (some ⟨d.G, 0, none⟩)) (by kernel_rfl) rfl (by kernel_rfl) (by kernel_rfl) rfl rfl (fun w' hw => by simp [go_sem]) ⟨A7.out.1.c1, ((G7.out.cell (p := ⟨go, i2, none⟩) ⟨HQ.out.2.2.1, HQ.out.2.2.2.1, HQ.out.2.2.2.2⟩).trans cj), ((G7.out.cell (p := ⟨be, oe + j * 3, none⟩) HQ.out.1).trans c0), ((G7.out.cell (p := ⟨be, oe + j * 3 + 1, none⟩) HQ.out.1).trans c1), ((G7.out.cell (p := ⟨be, oe + j * 3 + 2, none⟩) HQ.out.1).trans c2')⟩ (by simp [go_sem]; exact rfl) ?_
            refine pick_op (i := 2) (v := .pointer (some ⟨d.G, 1, none⟩)) (by kernel_rfl) rfl (by kernel_rfl) (by kernel_rfl) rfl rfl (fun w' hw => by simp [go_sem]) ⟨A7.out.1.c1, ((G7.out.cell (p := ⟨go, i2, none⟩) ⟨HQ.out.2.2.1, HQ.out.2.2.2.1, HQ.out.2.2.2.2⟩).trans cj), ((G7.out.cell (p := ⟨be, oe + j * 3, none⟩) HQ.out.1).trans c0), ((G7.out.cell (p := ⟨be, oe + j * 3 + 1, none⟩) HQ.out.1).trans c1), ((G7.out.cell (p := ⟨be, oe + j * 3 + 2, none⟩) HQ.out.1).trans c2')⟩ (by simp [go_sem]; exact rfl) ?_
            refine pick_op (i := 3) (v := .slice (some ⟨be, oe, none⟩) es.length cpe) (by kernel_rfl) rfl (by kernel_rfl) (by kernel_rfl) rfl rfl (fun w' hw => by simp [go_sem, hw.1]) ⟨A7.out.1.c1, ((G7.out.cell (p := ⟨go, i2, none⟩) ⟨HQ.out.2.2.1, HQ.out.2.2.2.1, HQ.out.2.2.2.2⟩).trans cj), ((G7.out.cell (p := ⟨be, oe + j * 3, none⟩) HQ.out.1).trans c0), ((G7.out.cell (p := ⟨be, oe + j * 3 + 1, none⟩) HQ.out.1).trans c1), ((G7.out.cell (p := ⟨be, oe + j * 3 + 2, none⟩) HQ.out.1).trans c2')⟩ (by simp [go_sem]; exact rfl) ?_
            refine pick_op (i := 4) (v := (.slice (some ⟨go, 0, none⟩) os'.length cpo)) (by kernel_rfl) rfl (by kernel_rfl) (by kernel_rfl) rfl rfl (fun w' hw => by simp [go_sem]) ⟨A7.out.1.c1, ((G7.out.cell (p := ⟨go, i2, none⟩) ⟨HQ.out.2.2.1, HQ.out.2.2.2.1, HQ.out.2.2.2.2⟩).trans cj), ((G7.out.cell (p := ⟨be, oe + j * 3, none⟩) HQ.out.1).trans c0), ((G7.out.cell (p := ⟨be, oe + j * 3 + 1, none⟩) HQ.out.1).trans c1), ((G7.out.cell (p := ⟨be, oe + j * 3 + 2, none⟩) HQ.out.1).trans c2')⟩ (by simp [go_sem]; exact rfl) ?_
            refine pick_op (i := 5) (v := .int .i64 (i2 : Int)) (by kernel_rfl) rfl (by kernel_rfl) (by kernel_rfl) rfl rfl (fun w' hw => by simp [go_sem]) ⟨A7.out.1.c1, ((G7.out.cell (p := ⟨go, i2, none⟩) ⟨HQ.out.2.2.1, HQ.out.2.2.2.1, HQ.out.2.2.2.2⟩).trans cj), ((G7.out.cell (p := ⟨be, oe + j * 3, none⟩) HQ.out.1).trans c0), ((G7.out.cell (p := ⟨be, oe + j * 3 + 1, none⟩) HQ.out.1).trans c1), ((G7.out.cell (p := ⟨be, oe + j * 3 + 2, none⟩) HQ.out.1).trans c2')⟩ (by simp [go_sem]; exact rfl) ?_
            refine pick_op (i := 6) (v := .pointer (some ⟨go, i2, none⟩)) (by kernel_rfl) rfl (by kernel_rfl) (by kernel_rfl) rfl rfl (fun w' hw => by simp [go_sem, hi20, hj]) ⟨A7.out.1.c1, ((G7.out.cell (p := ⟨go, i2, none⟩) ⟨HQ.out.2.2.1, HQ.out.2.2.2.1, HQ.out.2.2.2.2⟩).trans cj), ((G7.out.cell (p := ⟨be, oe + j * 3, none⟩) HQ.out.1).trans c0), ((G7.out.cell (p := ⟨be, oe + j * 3 + 1, none⟩) HQ.out.1).trans c1), ((G7.out.cell (p := ⟨be, oe + j * 3 + 2, none⟩) HQ.out.1).trans c2')⟩ (by simp [go_sem]; exact rfl) ?_
            refine pick_op (i := 7) (v := .int .i64 (j : Int)) (by kernel_rfl) rfl (by kernel_rfl) (by kernel_rfl) rfl rfl (fun w' hw => by simp [go_sem, hw.2.1]) ⟨A7.out.1.c1, ((G7.out.cell (p := ⟨go, i2, none⟩) ⟨HQ.out.2.2.1, HQ.out.2.2.2.1, HQ.out.2.2.2.2⟩).trans cj), ((G7.out.cell (p := ⟨be, oe + j * 3, none⟩) HQ.out.1).trans c0), ((G7.out.cell (p := ⟨be, oe + j * 3 + 1, none⟩) HQ.out.1).trans c1), ((G7.out.cell (p := ⟨be, oe + j * 3 + 2, none⟩) HQ.out.1).trans c2')⟩ (by simp [go_sem]; exact rfl) ?_
            refine pick_op (i := 8) (v := .pointer (some ⟨be, oe + j * 3, none⟩)) (by kernel_rfl) rfl (by kernel_rfl) (by kernel_rfl) rfl rfl (fun w' hw => by simp [go_sem, hj0, hj1]) ⟨A7.out.1.c1, ((G7.out.cell (p := ⟨go, i2, none⟩) ⟨HQ.out.2.2.1, HQ.out.2.2.2.1, HQ.out.2.2.2.2⟩).trans cj), ((G7.out.cell (p := ⟨be, oe + j * 3, none⟩) HQ.out.1).trans c0), ((G7.out.cell (p := ⟨be, oe + j * 3 + 1, none⟩) HQ.out.1).trans c1), ((G7.out.cell (p := ⟨be, oe + j * 3 + 2, none⟩) HQ.out.1).trans c2')⟩ (by simp [go_sem]; exact rfl) ?_
            refine pick_op (i := 9) (v := .agg #[.string xn, .int .i64 xa, .int .i64 xr]) (by kernel_rfl) rfl (by kernel_rfl) (by kernel_rfl) rfl rfl (fun w' hw => by simp [go_sem, hw.2.2.1, hw.2.2.2.1, hw.2.2.2.2]) ⟨A7.out.1.c1, ((G7.out.cell (p := ⟨go, i2, none⟩) ⟨HQ.out.2.2.1, HQ.out.2.2.2.1, HQ.out.2.2.2.2⟩).trans cj), ((G7.out.cell (p := ⟨be, oe + j * 3, none⟩) HQ.out.1).trans c0), ((G7.out.cell (p := ⟨be, oe + j * 3 + 1, none⟩) HQ.out.1).trans c1), ((G7.out.cell (p := ⟨be, oe + j * 3 + 2, none⟩) HQ.out.1).trans c2')⟩ (by simp [go_sem]; exact rfl) ?_
            have A8 := hid (A7.out.alloc (.cells #[.string ⟨#[]⟩, .int .i64 0, .int .i64 0] 86))
            have G8 := hid ((Grew.refl d X7).alloc (.cells #[.string ⟨#[]⟩, .int .i64 0, .int .i64 0] 86))
            refine pick_make (i := 10) (v := .pointer (some ⟨X7.heap.size, 0, none⟩)) (w1 := X7.alloc (.cells #[.string ⟨#[]⟩, .int .i64 0, .int .i64 0] 86)) rfl (by kernel_rfl) rfl rfl (by simp [go_sem]) ⟨A8.out.1.c1, (((G7.out.trans G8.out).cell (p := ⟨go, i2, none⟩) ⟨HQ.out.2.2.1, HQ.out.2.2.2.1, HQ.out.2.2.2.2⟩).trans cj), (((G7.out.trans G8.out).cell (p := ⟨be, oe + j * 3, none⟩) HQ.out.1).trans c0), (((G7.out.trans G8.out).cell (p := ⟨be, oe + j * 3 + 1, none⟩) HQ.out.1).trans c1), (((G7.out.trans G8.out).cell (p := ⟨be, oe + j * 3 + 2, none⟩) HQ.out.1).trans c2')⟩ (by simp [go_sem]; exact rfl) ?_
            have EB := hid (boxW_heap X7 xn xa xr)
            have A9 := hid (A7.out.below (boxW_below X7 xn xa xr))
            have G9 : Hid (Grew d X7 (boxW X7 xn xa xr)) := Grew.of_below (boxW_below X7 xn xa xr)
            have HQ2 := hid (And.intro A7.out.1.ltB A7.out.1.ltG)
            refine pick_skip (i := 11) (w1 := boxW X7 xn xa xr) rfl rfl (by kernel_rfl) rfl rfl (by simp [go_sem, boxW]) ⟨A9.out.1.c1, (((G7.out.trans G9.out).cell (p := ⟨go, i2, none⟩) ⟨HQ.out.2.2.1, HQ.out.2.2.2.1, HQ.out.2.2.2.2⟩).trans cj), (((G7.out.trans G9.out).cell (p := ⟨be, oe + j * 3, none⟩) HQ.out.1).trans c0), (((G7.out.trans G9.out).cell (p := ⟨be, oe + j * 3 + 1, none⟩) HQ.out.1).trans c1), (((G7.out.trans G9.out).cell (p := ⟨be, oe + j * 3 + 2, none⟩) HQ.out.1).trans c2')⟩ ?_
            refine pick_end (by kernel_rfl) ?_
            obtain ⟨bq, hbq⟩ : ∃ q, X7.heap.size = q := ⟨_, rfl⟩
            generalize boxW X7 xn xa xr = X9 at *
            rw [hbq] at EB HQ2 ⊢
            clear hbq cj c0 c1 c2' A8 G8
            go_wp2_with fail
            refine (A9.out.name HF.out (by omega)).mono ?_
            rintro e X10 ⟨x10, s10, rfl, hb10, ha, hg⟩
            have A10 := hid ha
            have G10 := hid hg
            clear ha hg
            have B10 := hid hb10
            clear hb10
            go_wp2_with fail
            refine (A10.out.name HF.out (by omega)).mono ?_
            rintro e X11 ⟨x11, s11, rfl, hb11, ha, hg⟩
            have A11 := hid ha
            have G11 := hid hg
            clear ha hg
            have B11 := hid hb11
            clear hb11
            have ec := (((G10.out.trans G11.out)).cell (p := ⟨bq, 1, none⟩) ⟨heap_lt EB.out, (show bq ≠ d.B by have := HQ2.out.1; omega), (show bq ≠ d.G by have := HQ2.out.2; omega)⟩).trans (cell_of_heap EB.out 1)
            have ec : X11.cell? ⟨bq, 1, none⟩ = some (.int .i64 xa) := ec
            go_wp2_with fail
            refine (base_calls xa _).mono ?_
            rintro e W9 ⟨rfl, rfl⟩
            clear ec
            go_wp2_with fail
            refine (A11.out.add x10 xa 0 (HE.out.grew (G7.out.trans (G9.out.trans (G10.out.trans G11.out)))).know B10.out (by have := HE.out.room; omega)).mono ?_
            rintro e X12 ⟨u12, ks12, rfl, hk12, hkl12, ha, hg⟩
            have A12 := hid ha
            have G12 := hid hg
            clear ha hg
            have K12 := hid (And.intro hk12 hkl12)
            obtain ⟨ad12, cp12, rfl⟩ := hk12.is
            clear hk12 hkl12
            have ec := (((G10.out.trans (G11.out.trans G12.out))).cell (p := ⟨bq, 2, none⟩) ⟨heap_lt EB.out, (show bq ≠ d.B by have := HQ2.out.1; omega), (show bq ≠ d.G by have := HQ2.out.2; omega)⟩).trans (cell_of_heap EB.out 2)
            have ec : X12.cell? ⟨bq, 2, none⟩ = some (.int .i64 xr) := ec
            go_wp2_with fail
            refine (base_calls xr _).mono ?_
            rintro e W9 ⟨rfl, rfl⟩
            clear ec
            go_wp2_with fail
            refine (A12.out.add x11 (wrap64 (10 + ty)) xr K12.out.1 B11.out (by have := HE.out.room; have := K12.out.2; omega)).mono ?_
            rintro e X13 ⟨u13, ks13, rfl, hk13, hkl13, ha, hg⟩
            have A13 := hid ha
            have G13 := hid hg
            clear ha hg
            have K13 := hid (And.intro hk13 hkl13)
            obtain ⟨ad13, cp13, rfl⟩ := hk13.is
            clear hk13 hkl13
            go_wp2_with fail
            refine (A13.out.nodes (HO.out deep ty _ _ _ _ _ _ (by have := HD.out; omega) (by have := HD.out; omega) (A13.out.fit HF.out 10 (by omega)) A13.out.1 ((HE.out.grew (G7.out.trans (G9.out.trans (G10.out.trans (G11.out.trans (G12.out.trans G13.out)))))).with K13.out.1 (by have := K12.out.2; have := K13.out.2; omega)))).mono ?_
            rintro e X14 ⟨v14, n14, s14, t14, rfl, hn14, hl14, ha, hg⟩
            have A14 := hid ha
            have G14 := hid hg
            clear ha hg
            have N14 := hid (And.intro hn14 hl14)
            obtain ⟨ad14, cp14, rfl⟩ := hn14.is
            clear hn14 hl14
            have g0 := A14.out.1.c0
            go_wp2_with fail
            refine (A14.out.pick HF.out (by omega) 3 (by decide)).mono ?_
            rintro e X15 ⟨m15, s15, rfl, hm15, hM15, ha, hg⟩
            have A15 := hid ha
            have G15 := hid hg
            clear ha hg
            clear g0
            by_cases hm3 : 0 < m15
            · have N16 := hid (And.intro (nd_lit_at (d := d) X15 ⟨5, 0, x11, ByteArray.empty, ByteArray.empty, 0⟩ (X15.heap.size) (by simp) A15.out.1.ltB A15.out.1.ltG ⟨B11.out, brief_none, brief_none⟩) (show [(⟨5, 0, x11, ByteArray.empty, ByteArray.empty, 0⟩ : Nd)].length = 1 from rfl))
              have A16 := hid (A15.out.alloc (.cells #[.int .i64 5, .int .i64 0, .string x11, .string ByteArray.empty, .string ByteArray.empty, .int .i64 0] 90))
              have G16 := hid ((Grew.refl d X15).alloc (.cells #[.int .i64 5, .int .i64 0, .string x11, .string ByteArray.empty, .string ByteArray.empty, .int .i64 0] 90))
              have ec := (((G10.out.trans (G11.out.trans (G12.out.trans (G13.out.trans (G14.out.trans (G15.out.trans G16.out))))))).cell (p := ⟨bq, 2, none⟩) ⟨heap_lt EB.out, (show bq ≠ d.B by have := HQ2.out.1; omega), (show bq ≠ d.G by have := HQ2.out.2; omega)⟩).trans (cell_of_heap EB.out 2)
              have ec : (X15.alloc (.cells #[.int .i64 5, .int .i64 0, .string x11, .string ⟨#[]⟩, .string ⟨#[]⟩, .int .i64 0] 90)).cell? ⟨bq, 2, none⟩ = some (.int .i64 xr) := ec
              go_wp2_with fail
              refine (base_calls xr _).mono ?_
              rintro e W9 ⟨rfl, rfl⟩
              clear ec
              go_wp2_with fail
              refine (A16.out.add x11 0 0 (K13.out.1.grew (G14.out.trans (G15.out.trans G16.out))) B11.out (by have := HE.out.room; have := K12.out.2; have := K13.out.2; omega)).mono ?_
              rintro e X17 ⟨u17, ks17, rfl, hk17, hkl17, ha, hg⟩
              have A17 := hid ha
              have G17 := hid hg
              clear ha hg
              have K17 := hid (And.intro hk17 hkl17)
              obtain ⟨ad17, cp17, rfl⟩ := hk17.is
              clear hk17 hkl17
              go_wp2_with fail
              refine (A17.out.nodes (HO.out (deep - 1) xr _ _ _ _ _ _ (by have := HD.out; omega) (by have := HD.out; omega) (A17.out.fit HF.out 10 (by omega)) A17.out.1 ((HE.out.grew (G7.out.trans (G9.out.trans (G10.out.trans (G11.out.trans (G12.out.trans (G13.out.trans (G14.out.trans (G15.out.trans (G16.out.trans G17.out)))))))))).with K17.out.1 (by have := K12.out.2; have := K13.out.2; have := K17.out.2; omega)))).mono ?_
              rintro e X18 ⟨v18, n18, s18, t18, rfl, hn18, hl18, ha, hg⟩
              have A18 := hid ha
              have G18 := hid hg
              clear ha hg
              have N18 := hid (And.intro hn18 hl18)
              obtain ⟨ad18, cp18, rfl⟩ := hn18.is
              clear hn18 hl18
              go_wp2_with fail
              refine (A18.out.put2 7 0 0 ByteArray.empty ByteArray.empty ByteArray.empty (N16.out.1.grew (G17.out.trans G18.out)) N18.out.1 ⟨brief_none, brief_none, brief_none⟩ (by have := A18.out.bound HF.out (by omega) (by decide); have := N16.out.2; have := N18.out.2; omega)).mono ?_
              rintro e X19 ⟨v19, n19, rfl, hn19, hl19, ha, hg⟩
              have A19 := hid ha
              have G19 := hid hg
              clear ha hg
              have N19 := hid (And.intro hn19 hl19)
              obtain ⟨ad19, cp19, rfl⟩ := hn19.is
              clear hn19 hl19
              by_cases hty1 : ty = 1
              · subst hty1
                have g0 := A19.out.1.c0
                go_wp2_with fail
                refine (A19.out.pick HF.out (by omega) 4 (by decide)).mono ?_
                rintro e X20 ⟨m20, s20, rfl, hm20, hM20, ha, hg⟩
                have A20 := hid ha
                have G20 := hid hg
                clear ha hg
                clear g0
                by_cases hm4 : m20 = 0
                · subst hm4
                  have N21 := hid (And.intro (nd_lit_at (d := d) X20 ⟨5, 0, x11, ByteArray.empty, ByteArray.empty, 0⟩ (X20.heap.size) (by simp) A20.out.1.ltB A20.out.1.ltG ⟨B11.out, brief_none, brief_none⟩) (show [(⟨5, 0, x11, ByteArray.empty, ByteArray.empty, 0⟩ : Nd)].length = 1 from rfl))
                  have A21 := hid (A20.out.alloc (.cells #[.int .i64 5, .int .i64 0, .string x11, .string ByteArray.empty, .string ByteArray.empty, .int .i64 0] 90))
                  have G21 := hid ((Grew.refl d X20).alloc (.cells #[.int .i64 5, .int .i64 0, .string x11, .string ByteArray.empty, .string ByteArray.empty, .int .i64 0] 90))
                  have ec := (((G10.out.trans (G11.out.trans (G12.out.trans (G13.out.trans (G14.out.trans (G15.out.trans (G16.out.trans (G17.out.trans (G18.out.trans (G19.out.trans (G20.out.trans G21.out)))))))))))).cell (p := ⟨bq, 2, none⟩) ⟨heap_lt EB.out, (show bq ≠ d.B by have := HQ2.out.1; omega), (show bq ≠ d.G by have := HQ2.out.2; omega)⟩).trans (cell_of_heap EB.out 2)
                  have ec : (X20.alloc (.cells #[.int .i64 5, .int .i64 0, .string x11, .string ⟨#[]⟩, .string ⟨#[]⟩, .int .i64 0] 90)).cell? ⟨bq, 2, none⟩ = some (.int .i64 xr) := ec
                  go_wp2_with fail
                  refine (base_calls xr _).mono ?_
                  rintro e W9 ⟨rfl, rfl⟩
                  clear ec
                  go_wp2_with fail
                  refine (A21.out.add x11 0 0 (K13.out.1.grew (G14.out.trans (G15.out.trans (G16.out.trans (G17.out.trans (G18.out.trans (G19.out.trans (G20.out.trans G21.out)))))))) B11.out (by have := HE.out.room; have := K12.out.2; have := K13.out.2; omega)).mono ?_
                  rintro e X22 ⟨u22, ks22, rfl, hk22, hkl22, ha, hg⟩
                  have A22 := hid ha
                  have G22 := hid hg
                  clear ha hg
                  have K22 := hid (And.intro hk22 hkl22)
                  obtain ⟨ad22, cp22, rfl⟩ := hk22.is
                  clear hk22 hkl22
                  go_wp2_with fail
                  refine (A22.out.nodes (leaf_calls xr A22.out.1 (A22.out.fit HF.out 10 (by omega)) K22.out.1 (by have := HE.out.room; have := K12.out.2; have := K13.out.2; have := K22.out.2; omega))).mono ?_
                  rintro e X23 ⟨v23, n23, s23, t23, rfl, hn23, hl23, ha, hg⟩
                  have A23 := hid ha
                  have G23 := hid hg
                  clear ha hg
                  have N23 := hid (And.intro hn23 hl23)
                  obtain ⟨ad23, cp23, rfl⟩ := hn23.is
                  clear hn23 hl23
                  go_wp2_with fail
                  refine (A23.out.put2 7 0 0 ByteArray.empty ByteArray.empty ByteArray.empty (N21.out.1.grew (G22.out.trans G23.out)) N23.out.1 ⟨brief_none, brief_none, brief_none⟩ (by have := A23.out.bound HF.out (by omega) (by decide); have := N21.out.2; have := N23.out.2; omega)).mono ?_
                  rintro e X24 ⟨v24, n24, rfl, hn24, hl24, ha, hg⟩
                  have A24 := hid ha
                  have G24 := hid hg
                  clear ha hg
                  have N24 := hid (And.intro hn24 hl24)
                  obtain ⟨ad24, cp24, rfl⟩ := hn24.is
                  clear hn24 hl24
                  go_wp2_with fail
                  refine (A24.out.put2 11 0 0 ByteArray.empty ByteArray.empty ByteArray.empty (N19.out.1.grew (G20.out.trans (G21.out.trans (G22.out.trans (G23.out.trans G24.out))))) N24.out.1 ⟨brief_none, brief_none, brief_none⟩ (by have := A24.out.bound HF.out (by omega) (by decide); have := N19.out.2; have := N16.out.2; have := N18.out.2; have := N24.out.2; have := N21.out.2; have := N23.out.2; omega)).mono ?_
                  rintro e X25 ⟨v25, n25, rfl, hn25, hl25, ha, hg⟩
                  have A25 := hid ha
                  have G25 := hid hg
                  clear ha hg
                  have N25 := hid (And.intro hn25 hl25)
                  obtain ⟨ad25, cp25, rfl⟩ := hn25.is
                  clear hn25 hl25
                  have ec := (((G10.out.trans (G11.out.trans (G12.out.trans (G13.out.trans (G14.out.trans (G15.out.trans (G16.out.trans (G17.out.trans (G18.out.trans (G19.out.trans (G20.out.trans (G21.out.trans (G22.out.trans (G23.out.trans (G24.out.trans G25.out)))))))))))))))).cell (p := ⟨bq, 0, none⟩) ⟨heap_lt EB.out, (show bq ≠ d.B by have := HQ2.out.1; omega), (show bq ≠ d.G by have := HQ2.out.2; omega)⟩).trans (cell_of_heap EB.out 0)
                  have ec : X25.cell? ⟨bq, 0, none⟩ = some (.string xn) := ec
                  go_wp2_with fail
                  refine (A25.out.put1 26 0 0 xn x10 x11 N25.out.1 ⟨HQ.out.2.1, B10.out, B11.out⟩ (by have := A25.out.bound HF.out (by omega) (by decide); have := N25.out.2; have := N19.out.2; have := N16.out.2; have := N18.out.2; have := N24.out.2; have := N21.out.2; have := N23.out.2; omega)).mono ?_
                  rintro e X26 ⟨v26, n26, rfl, hn26, hl26, ha, hg⟩
                  have A26 := hid ha
                  have G26 := hid hg
                  clear ha hg
                  have N26 := hid (And.intro hn26 hl26)
                  obtain ⟨ad26, cp26, rfl⟩ := hn26.is
                  clear hn26 hl26
                  clear ec
                  have HFl : Hid ((flatL (kdL (ls ++ [⟨ad26, cp26, n26⟩]))).length = (flatL (kdL ls)).length + n26.length) := by show _ = _; simp [flatL, kdL]
                  have HLL : Hid (ls.length ≤ 1000) := by show _ ≤ _; have := HB.out; have := HOs.out.2; omega
                  go_wp2_with (at_builtin; refine wpList_append_by rfl _ _ 116 rfl _ _ rfl rfl (fun ty_ => HH.out.app H0.out A26.out (G7.out.trans (G9.out.trans (G10.out.trans (G11.out.trans (G12.out.trans (G13.out.trans (G14.out.trans (G15.out.trans (G16.out.trans (G17.out.trans (G18.out.trans (G19.out.trans (G20.out.trans (G21.out.trans (G22.out.trans (G23.out.trans (G24.out.trans (G25.out.trans G26.out)))))))))))))))))) ⟨ad26, cp26, n26⟩ N26.out.1 HLL.out ty_) ?_; intro vq Xq hvq; have HQQ := hid hvq; clear hvq)
                  rw [wrap_succ (by have := HOs.out.2; omega)]
                  exact ⟨⟨i2 + 1, ls ++ [⟨ad26, cp26, n26⟩], _, _, _, rfl, by omega, HQQ, by have := HB.out; omega, by have := HB.out; simp; omega, by have := HB.out; have := HFl.out; have := N26.out.2; have := N25.out.2; have := N19.out.2; have := N16.out.2; have := N18.out.2; have := N24.out.2; have := N21.out.2; have := N23.out.2; omega⟩, hstep⟩
                · have z4 : (m20 == 0) = false := by simp [hm4]
                  have ec := (((G10.out.trans (G11.out.trans (G12.out.trans (G13.out.trans (G14.out.trans (G15.out.trans (G16.out.trans (G17.out.trans (G18.out.trans (G19.out.trans G20.out))))))))))).cell (p := ⟨bq, 0, none⟩) ⟨heap_lt EB.out, (show bq ≠ d.B by have := HQ2.out.1; omega), (show bq ≠ d.G by have := HQ2.out.2; omega)⟩).trans (cell_of_heap EB.out 0)
                  have ec : X20.cell? ⟨bq, 0, none⟩ = some (.string xn) := ec
                  go_wp2_with fail
                  refine (A20.out.put1 26 0 0 xn x10 x11 (N19.out.1.grew G20.out) ⟨HQ.out.2.1, B10.out, B11.out⟩ (by have := A20.out.bound HF.out (by omega) (by decide); have := N19.out.2; have := N16.out.2; have := N18.out.2; omega)).mono ?_
                  rintro e X21 ⟨v21, n21, rfl, hn21, hl21, ha, hg⟩
                  have A21 := hid ha
                  have G21 := hid hg
                  clear ha hg
                  have N21 := hid (And.intro hn21 hl21)
                  obtain ⟨ad21, cp21, rfl⟩ := hn21.is
                  clear hn21 hl21
                  clear ec
                  have HFl : Hid ((flatL (kdL (ls ++ [⟨ad21, cp21, n21⟩]))).length = (flatL (kdL ls)).length + n21.length) := by show _ = _; simp [flatL, kdL]
                  have HLL : Hid (ls.length ≤ 1000) := by show _ ≤ _; have := HB.out; have := HOs.out.2; omega
                  go_wp2_with (at_builtin; refine wpList_append_by rfl _ _ 116 rfl _ _ rfl rfl (fun ty_ => HH.out.app H0.out A21.out (G7.out.trans (G9.out.trans (G10.out.trans (G11.out.trans (G12.out.trans (G13.out.trans (G14.out.trans (G15.out.trans (G16.out.trans (G17.out.trans (G18.out.trans (G19.out.trans (G20.out.trans G21.out))))))))))))) ⟨ad21, cp21, n21⟩ N21.out.1 HLL.out ty_) ?_; intro vq Xq hvq; have HQQ := hid hvq; clear hvq)
                  rw [wrap_succ (by have := HOs.out.2; omega)]
                  exact ⟨⟨i2 + 1, ls ++ [⟨ad21, cp21, n21⟩], _, _, _, rfl, by omega, HQQ, by have := HB.out; omega, by have := HB.out; simp; omega, by have := HB.out; have := HFl.out; have := N21.out.2; have := N19.out.2; have := N16.out.2; have := N18.out.2; omega⟩, hstep⟩
              · have zt : (ty == 1) = false := by simp [hty1]
                have ec := (((G10.out.trans (G11.out.trans (G12.out.trans (G13.out.trans (G14.out.trans (G15.out.trans (G16.out.trans (G17.out.trans (G18.out.trans G19.out)))))))))).cell (p := ⟨bq, 0, none⟩) ⟨heap_lt EB.out, (show bq ≠ d.B by have := HQ2.out.1; omega), (show bq ≠ d.G by have := HQ2.out.2; omega)⟩).trans (cell_of_heap EB.out 0)
                have ec : X19.cell? ⟨bq, 0, none⟩ = some (.string xn) := ec
                go_wp2_with fail
                refine (A19.out.put1 26 0 0 xn x10 x11 N19.out.1 ⟨HQ.out.2.1, B10.out, B11.out⟩ (by have := A19.out.bound HF.out (by omega) (by decide); have := N19.out.2; have := N16.out.2; have := N18.out.2; omega)).mono ?_
                rintro e X20 ⟨v20, n20, rfl, hn20, hl20, ha, hg⟩
                have A20 := hid ha
                have G20 := hid hg
                clear ha hg
                have N20 := hid (And.intro hn20 hl20)
                obtain ⟨ad20, cp20, rfl⟩ := hn20.is
                clear hn20 hl20
                clear ec
                have HFl : Hid ((flatL (kdL (ls ++ [⟨ad20, cp20, n20⟩]))).length = (flatL (kdL ls)).length + n20.length) := by show _ = _; simp [flatL, kdL]
                have HLL : Hid (ls.length ≤ 1000) := by show _ ≤ _; have := HB.out; have := HOs.out.2; omega
                go_wp2_with (at_builtin; refine wpList_append_by rfl _ _ 116 rfl _ _ rfl rfl (fun ty_ => HH.out.app H0.out A20.out (G7.out.trans (G9.out.trans (G10.out.trans (G11.out.trans (G12.out.trans (G13.out.trans (G14.out.trans (G15.out.trans (G16.out.trans (G17.out.trans (G18.out.trans (G19.out.trans G20.out)))))))))))) ⟨ad20, cp20, n20⟩ N20.out.1 HLL.out ty_) ?_; intro vq Xq hvq; have HQQ := hid hvq; clear hvq)
                rw [wrap_succ (by have := HOs.out.2; omega)]
                exact ⟨⟨i2 + 1, ls ++ [⟨ad20, cp20, n20⟩], _, _, _, rfl, by omega, HQQ, by have := HB.out; omega, by have := HB.out; simp; omega, by have := HB.out; have := HFl.out; have := N20.out.2; have := N19.out.2; have := N16.out.2; have := N18.out.2; omega⟩, hstep⟩
            · have hm30 : m15 = 0 := by omega
              subst hm30
              have ec := (((G10.out.trans (G11.out.trans (G12.out.trans (G13.out.trans (G14.out.trans G15.out)))))).cell (p := ⟨bq, 0, none⟩) ⟨heap_lt EB.out, (show bq ≠ d.B by have := HQ2.out.1; omega), (show bq ≠ d.G by have := HQ2.out.2; omega)⟩).trans (cell_of_heap EB.out 0)
              have ec : X15.cell? ⟨bq, 0, none⟩ = some (.string xn) := ec
              go_wp2_with fail
              refine (A15.out.put1 26 0 0 xn x10 x11 (N14.out.1.grew G15.out) ⟨HQ.out.2.1, B10.out, B11.out⟩ (by have := A15.out.bound HF.out (by omega) (by decide); have := N14.out.2; omega)).mono ?_
              rintro e X16 ⟨v16, n16, rfl, hn16, hl16, ha, hg⟩
              have A16 := hid ha
              have G16 := hid hg
              clear ha hg
              have N16 := hid (And.intro hn16 hl16)
              obtain ⟨ad16, cp16, rfl⟩ := hn16.is
              clear hn16 hl16
              clear ec
              have HFl : Hid ((flatL (kdL (ls ++ [⟨ad16, cp16, n16⟩]))).length = (flatL (kdL ls)).length + n16.length) := by show _ = _; simp [flatL, kdL]
              have HLL : Hid (ls.length ≤ 1000) := by show _ ≤ _; have := HB.out; have := HOs.out.2; omega
              go_wp2_with (at_builtin; refine wpList_append_by rfl _ _ 116 rfl _ _ rfl rfl (fun ty_ => HH.out.app H0.out A16.out (G7.out.trans (G9.out.trans (G10.out.trans (G11.out.trans (G12.out.trans (G13.out.trans (G14.out.trans (G15.out.trans G16.out)))))))) ⟨ad16, cp16, n16⟩ N16.out.1 HLL.out ty_) ?_; intro vq Xq hvq; have HQQ := hid hvq; clear hvq)
              rw [wrap_succ (by have := HOs.out.2; omega)]
              exact ⟨⟨i2 + 1, ls ++ [⟨ad16, cp16, n16⟩], _, _, _, rfl, by omega, HQQ, by have := HB.out; omega, by have := HB.out; simp; omega, by have := HB.out; have := HFl.out; have := N16.out.2; have := N14.out.2; omega⟩, hstep⟩
          · have e2 : i2 = os'.length := by omega
            have hb4 := HOs.out.2
            have hcz : c2 ≤ 190 ∧ (flatL (kdL ls)).length ≤ t2 + 35 := by have := HB.out; omega
            have AZ := hid HH.out.at_
            have HKZ := hid (kids_own HH.out.kids H0.out.ltB H0.out.ltG HH.out.nodes)
            go_wp2_with fail
            refine (AZ.out.put_kids 23 0 0 ⟨#[]⟩ ⟨#[]⟩ ⟨#[]⟩ HKZ.out ⟨brief_none, brief_none, brief_none⟩ (by simp [kdL]; have := HB.out; omega) (by have := AZ.out.bound HF.out (by omega) (by decide); omega)).mono ?_
            rintro e XZ ⟨vz, nz, rfl, hnz, hlz, haz, hgz⟩
            have NZ := hid (And.intro haz (And.intro hnz hlz))
            clear haz hnz hlz hgz
            go_wp2_with fail
            go_ret
            exact NZ.out.1.done 36 NZ.out.2.1 (by have := NZ.out.2.2; omega) (by omega)
end Go.Proofs.YtegjdgiegnofhaaDoor
