/- An operation is drawn. -/
import Derived.Test.YtegjdgiegnofhaaDoorGenHML
namespace Go.Proofs.YtegjdgiegnofhaaDoor
open Go.RowKit Go.Deep

set_option maxHeartbeats 8000000 in
set_option maxRecDepth 100000 in
/-- An operation that gives a type, or nothing. -/
theorem perform_calls {d : Dr} {ve v vm : Value} {es : List Ef} {W : World} {s : Cn} {ks : List Kn} {ms : List Bool} {D : Nat} (ty : Int) (deep : Int) (hO : OfC d ve es D) (h1 : deep ≤ D) (h2 : -90 ≤ deep) (h3 : D ≤ 100) (h : Gen d ve W s) (hf : Fit s 30) (hE : Env d ve es W v ks vm ms (D + 1)) :
    Calls Tryd.prog 56 #[.pointer (some ⟨d.G, 0, none⟩), .int .i64 ty, v, vm, .int .i64 deep] W (NodesPost0 d ve W s 30) := by
  have HF := hid hf
  have HO := hid hO
  have A0 := hid (At.start h)
  have HE := hid hE
  have HD := hid (And.intro h1 (And.intro h2 h3))
  have hdu : deep ≤ 1000 := by omega
  obtain ⟨ad, cp, rfl⟩ := hE.know.is
  obtain ⟨adm, cpm, rfl⟩ := hE.may.is
  obtain ⟨ade, cpe, rfl⟩ := hE.effs.is
  clear hO h1 h3 h hf hE
  have HL : Hid (es.length ≤ 4 ∧ ms.length = es.length) := ⟨HE.out.few, HE.out.len⟩
  have hwr : IntKind.i64.wrap ((es.length : Int) + 1) = (es.length : Int) + 1 := by rw [IntKind.wrap_i64]; have := HL.out.1; omega
  go_enter Tryd.func56, Tryd.ntmps56
  go_upto_region 1 with fail
  refine pick_begin (S := fun w' => w'.cell? ⟨d.G, 0, none⟩ = some (.pointer (some ⟨d.B, 0, none⟩)) ∧ w'.cell? ⟨d.G, 1, none⟩ = some (.slice ade es.length cpe)) (by kernel_rfl) rfl rfl ?_
  have A1 := hid A0.out.drew
  have G1 := hid (Grew.refl d W).drew
  generalize W.drew = X1 at *
  refine pick_op (i := 0) (v := .pointer (some ⟨d.G, 0, none⟩)) (by kernel_rfl) rfl (by kernel_rfl) (by kernel_rfl) rfl rfl (fun w' hw => by simp [go_sem]) ⟨A1.out.1.c0, A1.out.1.c1⟩ (by simp [go_sem]; exact rfl) ?_
  refine pick_op (i := 1) (v := .pointer (some ⟨d.G, 0, none⟩)) (by kernel_rfl) rfl (by kernel_rfl) (by kernel_rfl) rfl rfl (fun w' hw => by simp [go_sem]) ⟨A1.out.1.c0, A1.out.1.c1⟩ (by simp [go_sem]; exact rfl) ?_
  refine pick_op (i := 2) (v := .pointer (some ⟨d.G, 0, none⟩)) (by kernel_rfl) rfl (by kernel_rfl) (by kernel_rfl) rfl rfl (fun w' hw => by simp [go_sem]) ⟨A1.out.1.c0, A1.out.1.c1⟩ (by simp [go_sem]; exact rfl) ?_
  refine pick_op (i := 3) (v := .pointer (some ⟨d.B, 0, none⟩)) (by kernel_rfl) rfl (by kernel_rfl) (by kernel_rfl) rfl rfl (fun w' hw => by simp [go_sem, hw.1]) ⟨A1.out.1.c0, A1.out.1.c1⟩ (by simp [go_sem]; exact rfl) ?_
  refine pick_op (i := 4) (v := .pointer (some ⟨d.G, 0, none⟩)) (by kernel_rfl) rfl (by kernel_rfl) (by kernel_rfl) rfl rfl (fun w' hw => by simp [go_sem]) ⟨A1.out.1.c0, A1.out.1.c1⟩ (by simp [go_sem]; exact rfl) ?_
  refine pick_op (i := 5) (v := .pointer (some ⟨d.G, 0, none⟩)) (by kernel_rfl) rfl (by kernel_rfl) (by kernel_rfl) rfl rfl (fun w' hw => by simp [go_sem]) ⟨A1.out.1.c0, A1.out.1.c1⟩ (by simp [go_sem]; exact rfl) ?_
  refine pick_op (i := 6) (v := .pointer (some ⟨d.G, 1, none⟩)) (by kernel_rfl) rfl (by kernel_rfl) (by kernel_rfl) rfl rfl (fun w' hw => by simp [go_sem]) ⟨A1.out.1.c0, A1.out.1.c1⟩ (by simp [go_sem]; exact rfl) ?_
  refine pick_op (i := 7) (v := .slice ade es.length cpe) (by kernel_rfl) rfl (by kernel_rfl) (by kernel_rfl) rfl rfl (fun w' hw => by simp [go_sem, hw.2]) ⟨A1.out.1.c0, A1.out.1.c1⟩ (by simp [go_sem]; exact rfl) ?_
  refine pick_op (i := 8) (v := .int .i64 (es.length : Int)) (by kernel_rfl) rfl (by kernel_rfl) (by kernel_rfl) rfl rfl (fun w' hw => by simp [go_sem]) ⟨A1.out.1.c0, A1.out.1.c1⟩ (by simp [go_sem]; exact rfl) ?_
  refine pick_op (i := 9) (v := .int .i64 ((es.length : Int) + 1)) (by kernel_rfl) rfl (by kernel_rfl) (by kernel_rfl) rfl rfl (fun w' hw => by simp [go_sem, hwr]) ⟨A1.out.1.c0, A1.out.1.c1⟩ (by simp [go_sem]; exact rfl) ?_
  refine pick_enter (i := 10) (f := 22) (args := #[.pointer (some ⟨d.B, 0, none⟩), .int .i64 ((es.length : Int) + 1)]) rfl (by kernel_rfl) rfl rfl (by simp [go_sem]) ?_
  refine (A1.out.pick HF.out (by omega) _ (by omega)).mono ?_
  rintro e X2 ⟨m, s2, rfl, hm0, hm1, ha, hg⟩
  have A2 := hid ha
  have G2 := hid hg
  clear ha hg
  refine ⟨_, rfl, ⟨A2.out.1.c0, A2.out.1.c1⟩, ?_⟩
  refine pick_frame (by simp [go_sem]; exact rfl) ?_
  refine pick_op (i := 11) (v := .int .i64 m) (by kernel_rfl) rfl (by kernel_rfl) (by kernel_rfl) rfl rfl (fun w' hw => by simp [go_sem]) ⟨A2.out.1.c0, A2.out.1.c1⟩ (by simp [go_sem]; exact rfl) ?_
  refine pick_end (by kernel_rfl) ?_
  have AX := A2
  have HEX := hid (HE.out.grew (G1.out.trans G2.out))
  have GX := hid (G1.out.trans G2.out)
  have g0 := AX.out.1.c0
  have g1 := AX.out.1.c1
  have HM := hid (And.intro hm0 hm1)
  generalize X2 = X at *
  clear A0 HE hwr
  go_wp2_with fail
  go_loopw [12, 13] (fun i k wr => ∃ i' : Nat, i = .int .i64 i' ∧ i' ≤ es.length ∧ wr = X) (fun i _ _ => es.length - (intOf i).toNat)
  case atStart => exact ⟨0, rfl, Nat.zero_le _, rfl⟩
  case round =>
    obtain ⟨i', rfl, hle, rfl⟩ := hrel
    by_cases hi : (i' : Int) < (es.length : Int)
    · obtain ⟨kk, hkk⟩ : ∃ kk : Nat, (m + (i' : Int)) % (es.length : Int) = (kk : Int) := ⟨((m + (i' : Int)) % (es.length : Int)).toNat, by have := Int.emod_nonneg (m + (i' : Int)) (show (es.length : Int) ≠ 0 by omega); omega⟩
      have hkl : kk < es.length := by have := Int.emod_lt_of_pos (m + (i' : Int)) (show (0 : Int) < (es.length : Int) by omega); omega
      have hkt : (m + (i' : Int)).tmod (es.length : Int) = (kk : Int) := (Int.tmod_eq_emod_of_nonneg (by have := HM.out.1; omega)).trans hkk
      have hsum : wrap64 (m + (i' : Int)) = m + (i' : Int) := by have := HM.out; have := HL.out; unfold wrap64; omega
      obtain ⟨bm, om, rfl, hqm, cm⟩ := HEX.out.may.at (i := kk) (by have := HL.out.2; omega)
      obtain ⟨be, oe, xn, xa, xr, rfl, -, hbr, hqe, c0, c1, c2⟩ := HEX.out.effs.at (i := kk) hkl
      have HQ := hid (And.intro hqe hbr)
      have hk0 : (0 : Int) ≤ (kk : Int) := by omega
      have hk1 : (kk : Int) < (es.length : Int) := by omega
      have hk2 : (kk : Int) < (ms.length : Int) := by have := HL.out.2; omega
      have hstep : es.length - (intOf (.int .i64 ((i' + 1 : Nat) : Int))).toNat < es.length - (intOf (.int .i64 (i' : Int))).toNat := lt_step hi
      have hi0 : (0 : Int) ≤ (i' : Int) := by omega
      have hne : ((es.length : Int) == 0) = false := beq_eq_false_iff_ne.2 (by omega)
      clear hqm hqe hbr hkk hkl
      generalize ms.getD kk false = bb at *
      cases bb with
      | false =>
        go_wp2_with fail
        rw [wrap_succ (by have := HL.out.1; omega)]
        exact ⟨⟨i' + 1, rfl, by omega, by first | rfl | trivial⟩, hstep⟩
      | true =>
        go_wp2_with fail
        refine (base_calls xr _).mono ?_
        rintro e W9 ⟨rfl, rfl⟩
        by_cases hty : (xr == ty) = true
        · have HE := HEX
          go_upto_region 7 with fail
          refine pick_begin (S := fun w' => w'.cell? ⟨d.G, 1, none⟩ = some (.slice (some ⟨be, oe, none⟩) es.length cpe) ∧ w'.cell? ⟨be, oe + kk * 3, none⟩ = some (.string xn) ∧ w'.cell? ⟨be, oe + kk * 3 + 1, none⟩ = some (.int .i64 xa)) (by kernel_rfl) rfl rfl ?_
          have A1 := hid AX.out.drew
          have G1 := hid (Grew.refl d wr).drew
          generalize wr.drew = X1 at *
          refine pick_op (i := 0) (v := .pointer (some ⟨d.G, 0, none⟩)) (by kernel_rfl) rfl (by kernel_rfl) (by kernel_rfl) rfl rfl (fun w' hw => by simp [go_sem]) ⟨A1.out.1.c1, ((G1.out.cell (p := ⟨be, oe + kk * 3, none⟩) HQ.out.1).trans c0), ((G1.out.cell (p := ⟨be, oe + kk * 3 + 1, none⟩) HQ.out.1).trans c1)⟩ (by simp [go_sem]; exact rfl) ?_
          refine pick_op (i := 1) (v := .pointer (some ⟨d.G, 0, none⟩)) (by kernel_rfl) rfl (by kernel_rfl) (by kernel_rfl) rfl rfl (fun w' hw => by simp [go_sem]) ⟨A1.out.1.c1, ((G1.out.cell (p := ⟨be, oe + kk * 3, none⟩) HQ.out.1).trans c0), ((G1.out.cell (p := ⟨be, oe + kk * 3 + 1, none⟩) HQ.out.1).trans c1)⟩ (by simp [go_sem]; exact rfl) ?_
          refine pick_op (i := 2) (v := .pointer (some ⟨d.G, 1, none⟩)) (by kernel_rfl) rfl (by kernel_rfl) (by kernel_rfl) rfl rfl (fun w' hw => by simp [go_sem]) ⟨A1.out.1.c1, ((G1.out.cell (p := ⟨be, oe + kk * 3, none⟩) HQ.out.1).trans c0), ((G1.out.cell (p := ⟨be, oe + kk * 3 + 1, none⟩) HQ.out.1).trans c1)⟩ (by simp [go_sem]; exact rfl) ?_
          refine pick_op (i := 3) (v := .slice (some ⟨be, oe, none⟩) es.length cpe) (by kernel_rfl) rfl (by kernel_rfl) (by kernel_rfl) rfl rfl (fun w' hw => by simp [go_sem, hw.1]) ⟨A1.out.1.c1, ((G1.out.cell (p := ⟨be, oe + kk * 3, none⟩) HQ.out.1).trans c0), ((G1.out.cell (p := ⟨be, oe + kk * 3 + 1, none⟩) HQ.out.1).trans c1)⟩ (by simp [go_sem]; exact rfl) ?_
          refine pick_op (i := 4) (v := .int .i64 (kk : Int)) (by kernel_rfl) rfl (by kernel_rfl) (by kernel_rfl) rfl rfl (fun w' hw => by simp [go_sem]) ⟨A1.out.1.c1, ((G1.out.cell (p := ⟨be, oe + kk * 3, none⟩) HQ.out.1).trans c0), ((G1.out.cell (p := ⟨be, oe + kk * 3 + 1, none⟩) HQ.out.1).trans c1)⟩ (by simp [go_sem]; exact rfl) ?_
          refine pick_op (i := 5) (v := .pointer (some ⟨be, oe + kk * 3, none⟩)) (by kernel_rfl) rfl (by kernel_rfl) (by kernel_rfl) rfl rfl (fun w' hw => by simp [go_sem, hk0, hk1]) ⟨A1.out.1.c1, ((G1.out.cell (p := ⟨be, oe + kk * 3, none⟩) HQ.out.1).trans c0), ((G1.out.cell (p := ⟨be, oe + kk * 3 + 1, none⟩) HQ.out.1).trans c1)⟩ (by simp [go_sem]; exact rfl) ?_
          refine pick_op (i := 6) (v := .pointer (some ⟨be, oe + kk * 3, none⟩)) (by kernel_rfl) rfl (by kernel_rfl) (by kernel_rfl) rfl rfl (fun w' hw => by simp [go_sem]) ⟨A1.out.1.c1, ((G1.out.cell (p := ⟨be, oe + kk * 3, none⟩) HQ.out.1).trans c0), ((G1.out.cell (p := ⟨be, oe + kk * 3 + 1, none⟩) HQ.out.1).trans c1)⟩ (by simp [go_sem]; exact rfl) ?_
          refine pick_op (i := 7) (v := .string xn) (by kernel_rfl) rfl (by kernel_rfl) (by kernel_rfl) rfl rfl (fun w' hw => by simp [go_sem, hw.2.1]) ⟨A1.out.1.c1, ((G1.out.cell (p := ⟨be, oe + kk * 3, none⟩) HQ.out.1).trans c0), ((G1.out.cell (p := ⟨be, oe + kk * 3 + 1, none⟩) HQ.out.1).trans c1)⟩ (by simp [go_sem]; exact rfl) ?_
          refine pick_op (i := 8) (v := .agg #[.int .i64 22, .int .i64 0, .string xn, .string ⟨#[]⟩, .string ⟨#[]⟩, .int .i64 0]) (by kernel_rfl) rfl (by kernel_rfl) (by kernel_rfl) rfl rfl (fun w' hw => by simp [go_sem]) ⟨A1.out.1.c1, ((G1.out.cell (p := ⟨be, oe + kk * 3, none⟩) HQ.out.1).trans c0), ((G1.out.cell (p := ⟨be, oe + kk * 3 + 1, none⟩) HQ.out.1).trans c1)⟩ (by simp [go_sem]; exact rfl) ?_
          refine pick_op (i := 9) (v := .pointer (some ⟨d.G, 0, none⟩)) (by kernel_rfl) rfl (by kernel_rfl) (by kernel_rfl) rfl rfl (fun w' hw => by simp [go_sem]) ⟨A1.out.1.c1, ((G1.out.cell (p := ⟨be, oe + kk * 3, none⟩) HQ.out.1).trans c0), ((G1.out.cell (p := ⟨be, oe + kk * 3 + 1, none⟩) HQ.out.1).trans c1)⟩ (by simp [go_sem]; exact rfl) ?_
          refine pick_op (i := 10) (v := .pointer (some ⟨d.G, 0, none⟩)) (by kernel_rfl) rfl (by kernel_rfl) (by kernel_rfl) rfl rfl (fun w' hw => by simp [go_sem]) ⟨A1.out.1.c1, ((G1.out.cell (p := ⟨be, oe + kk * 3, none⟩) HQ.out.1).trans c0), ((G1.out.cell (p := ⟨be, oe + kk * 3 + 1, none⟩) HQ.out.1).trans c1)⟩ (by simp [go_sem]; exact rfl) ?_
          refine pick_op (i := 11) (v := .pointer (some ⟨d.G, 0, none⟩)) (by kernel_rfl) rfl (by kernel_rfl) (by kernel_rfl) rfl rfl (fun w' hw => by simp [go_sem]) ⟨A1.out.1.c1, ((G1.out.cell (p := ⟨be, oe + kk * 3, none⟩) HQ.out.1).trans c0), ((G1.out.cell (p := ⟨be, oe + kk * 3 + 1, none⟩) HQ.out.1).trans c1)⟩ (by simp [go_sem]; exact rfl) ?_
          refine pick_op (i := 12) (v := .pointer (some ⟨d.G, 1, none⟩)) (by kernel_rfl) rfl (by kernel_rfl) (by kernel_rfl) rfl rfl (fun w' hw => by simp [go_sem]) ⟨A1.out.1.c1, ((G1.out.cell (p := ⟨be, oe + kk * 3, none⟩) HQ.out.1).trans c0), ((G1.out.cell (p := ⟨be, oe + kk * 3 + 1, none⟩) HQ.out.1).trans c1)⟩ (by simp [go_sem]; exact rfl) ?_
          refine pick_op (i := 13) (v := .slice (some ⟨be, oe, none⟩) es.length cpe) (by kernel_rfl) rfl (by kernel_rfl) (by kernel_rfl) rfl rfl (fun w' hw => by simp [go_sem, hw.1]) ⟨A1.out.1.c1, ((G1.out.cell (p := ⟨be, oe + kk * 3, none⟩) HQ.out.1).trans c0), ((G1.out.cell (p := ⟨be, oe + kk * 3 + 1, none⟩) HQ.out.1).trans c1)⟩ (by simp [go_sem]; exact rfl) ?_
          refine pick_op (i := 14) (v := .int .i64 (kk : Int)) (by kernel_rfl) rfl (by kernel_rfl) (by kernel_rfl) rfl rfl (fun w' hw => by simp [go_sem]) ⟨A1.out.1.c1, ((G1.out.cell (p := ⟨be, oe + kk * 3, none⟩) HQ.out.1).trans c0), ((G1.out.cell (p := ⟨be, oe + kk * 3 + 1, none⟩) HQ.out.1).trans c1)⟩ (by simp [go_sem]; exact rfl) ?_
          refine pick_op (i := 15) (v := .pointer (some ⟨be, oe + kk * 3, none⟩)) (by kernel_rfl) rfl (by kernel_rfl) (by kernel_rfl) rfl rfl (fun w' hw => by simp [go_sem, hk0, hk1]) ⟨A1.out.1.c1, ((G1.out.cell (p := ⟨be, oe + kk * 3, none⟩) HQ.out.1).trans c0), ((G1.out.cell (p := ⟨be, oe + kk * 3 + 1, none⟩) HQ.out.1).trans c1)⟩ (by simp [go_sem]; exact rfl) ?_
          refine pick_op (i := 16) (v := .pointer (some ⟨be, oe + kk * 3 + 1, none⟩)) (by kernel_rfl) rfl (by kernel_rfl) (by kernel_rfl) rfl rfl (fun w' hw => by simp [go_sem]) ⟨A1.out.1.c1, ((G1.out.cell (p := ⟨be, oe + kk * 3, none⟩) HQ.out.1).trans c0), ((G1.out.cell (p := ⟨be, oe + kk * 3 + 1, none⟩) HQ.out.1).trans c1)⟩ (by simp [go_sem]; exact rfl) ?_
          refine pick_op (i := 17) (v := .int .i64 xa) (by kernel_rfl) rfl (by kernel_rfl) (by kernel_rfl) rfl rfl (fun w' hw => by simp [go_sem, hw.2.2]) ⟨A1.out.1.c1, ((G1.out.cell (p := ⟨be, oe + kk * 3, none⟩) HQ.out.1).trans c0), ((G1.out.cell (p := ⟨be, oe + kk * 3 + 1, none⟩) HQ.out.1).trans c1)⟩ (by simp [go_sem]; exact rfl) ?_
          refine pick_op (i := 19) (v := .slice ad ks.length cp) (by kernel_rfl) rfl (by kernel_rfl) (by kernel_rfl) rfl rfl (fun w' hw => by simp [go_sem]) ⟨A1.out.1.c1, ((G1.out.cell (p := ⟨be, oe + kk * 3, none⟩) HQ.out.1).trans c0), ((G1.out.cell (p := ⟨be, oe + kk * 3 + 1, none⟩) HQ.out.1).trans c1)⟩ (by simp [go_sem]; exact rfl) ?_
          refine pick_op (i := 20) (v := .slice (some ⟨bm, om, none⟩) ms.length cpm) (by kernel_rfl) rfl (by kernel_rfl) (by kernel_rfl) rfl rfl (fun w' hw => by simp [go_sem]) ⟨A1.out.1.c1, ((G1.out.cell (p := ⟨be, oe + kk * 3, none⟩) HQ.out.1).trans c0), ((G1.out.cell (p := ⟨be, oe + kk * 3 + 1, none⟩) HQ.out.1).trans c1)⟩ (by simp [go_sem]; exact rfl) ?_
          refine pick_op (i := 21) (v := .int .i64 deep) (by kernel_rfl) rfl (by kernel_rfl) (by kernel_rfl) rfl rfl (fun w' hw => by simp [go_sem]) ⟨A1.out.1.c1, ((G1.out.cell (p := ⟨be, oe + kk * 3, none⟩) HQ.out.1).trans c0), ((G1.out.cell (p := ⟨be, oe + kk * 3 + 1, none⟩) HQ.out.1).trans c1)⟩ (by simp [go_sem]; exact rfl) ?_
          refine pick_enter (i := 18) (f := 74) (args := #[.int .i64 xa]) rfl (by kernel_rfl) rfl rfl (by simp [go_sem]) ?_
          refine (base_calls xa _).mono ?_
          rintro e W8 ⟨rfl, rfl⟩
          refine ⟨_, rfl, ⟨A1.out.1.c1, ((G1.out.cell (p := ⟨be, oe + kk * 3, none⟩) HQ.out.1).trans c0), ((G1.out.cell (p := ⟨be, oe + kk * 3 + 1, none⟩) HQ.out.1).trans c1)⟩, ?_⟩
          refine pick_frame (by simp [go_sem]; exact rfl) ?_
          refine pick_enter (i := 22) (f := 34) (args := #[.pointer (some ⟨d.G, 0, none⟩), .int .i64 xa, .slice ad ks.length cp, .slice (some ⟨bm, om, none⟩) ms.length cpm, .int .i64 deep]) rfl (by kernel_rfl) rfl rfl (by simp [go_sem]) ?_
          refine (A1.out.nodes (HO.out deep xa _ _ _ _ _ _ (by have := HD.out; omega) (by have := HD.out; omega) (A1.out.fit HF.out 10 (by omega)) A1.out.1 (HE.out.grew G1.out).down)).mono ?_
          rintro e X2 ⟨v2, n2, s2, t2, rfl, hn2, hl2, ha, hg⟩
          have A2 := hid ha
          have G2 := hid hg
          clear ha hg
          have N2 := hid (And.intro hn2 hl2)
          obtain ⟨ad2, cp2, rfl⟩ := hn2.is
          clear hn2 hl2
          refine ⟨_, rfl, ⟨A2.out.1.c1, (((G1.out.trans G2.out).cell (p := ⟨be, oe + kk * 3, none⟩) HQ.out.1).trans c0), (((G1.out.trans G2.out).cell (p := ⟨be, oe + kk * 3 + 1, none⟩) HQ.out.1).trans c1)⟩, ?_⟩
          refine pick_frame (by simp [go_sem]; exact rfl) ?_
          have KV : Hid (KidsV d (X2.alloc (.cells #[.slice ad2 n2.length cp2] 55)) (.slice (some ⟨X2.heap.size, 0, none⟩) 1 1) [(.slice ad2 n2.length cp2, n2)]) := (kids_lit [(.slice ad2 n2.length cp2, n2)] _ rfl A2.out.1.ltB A2.out.1.ltG (fun x hx => by simp at hx; rcases hx with rfl; exact N2.out.1))
          have A3 := hid (A2.out.alloc (.cells #[.slice ad2 n2.length cp2] 55))
          have G3 := hid ((Grew.refl d X2).alloc (.cells #[.slice ad2 n2.length cp2] 55))
          refine pick_make (i := 23) (v := .slice (some ⟨X2.heap.size, 0, none⟩) 1 1) (w1 := X2.alloc (.cells #[.slice ad2 n2.length cp2] 55)) rfl (by kernel_rfl) rfl rfl (by simp [go_sem]) ⟨A3.out.1.c1, (((G1.out.trans (G2.out.trans G3.out)).cell (p := ⟨be, oe + kk * 3, none⟩) HQ.out.1).trans c0), (((G1.out.trans (G2.out.trans G3.out)).cell (p := ⟨be, oe + kk * 3 + 1, none⟩) HQ.out.1).trans c1)⟩ (by simp [go_sem]; exact rfl) ?_
          generalize X2.alloc (.cells #[.slice ad2 n2.length cp2] 55) = X3 at *
          refine pick_enter (i := 24) (f := 51) (args := #[.agg #[.int .i64 22, .int .i64 0, .string xn, .string ⟨#[]⟩, .string ⟨#[]⟩, .int .i64 0], .slice (some ⟨X2.heap.size, 0, none⟩) 1 1]) rfl (by kernel_rfl) rfl rfl (by simp [go_sem]) ?_
          refine (A3.out.put_kids 22 0 0 xn ⟨#[]⟩ ⟨#[]⟩ KV.out ⟨HQ.out.2, brief_none, brief_none⟩ (by simp) (by have := A3.out.bound HF.out (by omega) (by decide); have := N2.out.2; simp [flatL]; omega)).mono ?_
          rintro e X4 ⟨v4, n4, rfl, hn4, hl4, ha, hg⟩
          have A4 := hid ha
          have G4 := hid hg
          clear ha hg
          have N4 := hid (And.intro hn4 hl4)
          obtain ⟨ad4, cp4, rfl⟩ := hn4.is
          clear hn4 hl4
          refine ⟨_, rfl, ⟨A4.out.1.c1, (((G1.out.trans (G2.out.trans (G3.out.trans G4.out))).cell (p := ⟨be, oe + kk * 3, none⟩) HQ.out.1).trans c0), (((G1.out.trans (G2.out.trans (G3.out.trans G4.out))).cell (p := ⟨be, oe + kk * 3 + 1, none⟩) HQ.out.1).trans c1)⟩, ?_⟩
          refine pick_frame (by simp [go_sem]; exact rfl) ?_
          refine pick_op (i := 25) (v := .slice ad4 n4.length cp4) (by kernel_rfl) rfl (by kernel_rfl) (by kernel_rfl) rfl rfl (fun w' hw => by simp [go_sem]) ⟨A4.out.1.c1, (((G1.out.trans (G2.out.trans (G3.out.trans G4.out))).cell (p := ⟨be, oe + kk * 3, none⟩) HQ.out.1).trans c0), (((G1.out.trans (G2.out.trans (G3.out.trans G4.out))).cell (p := ⟨be, oe + kk * 3 + 1, none⟩) HQ.out.1).trans c1)⟩ (by simp [go_sem]; exact rfl) ?_
          refine pick_end (by kernel_rfl) ?_
          go_wp2_with fail
          go_ret
          exact A4.out.done0 5 N4.out.1 (by have := N4.out.2; have := N2.out.2; simp [flatL] at *; omega) (by omega)
        · have hty' : (xr == ty) = false := by simpa using hty
          clear hty
          go_wp2_with fail
          rw [wrap_succ (by have := HL.out.1; omega)]
          exact ⟨⟨i' + 1, rfl, by omega, by first | rfl | trivial⟩, hstep⟩
    · go_wp2_with fail
      go_ret
      exact none_post AX.out (by omega)
end Go.Proofs.YtegjdgiegnofhaaDoor
