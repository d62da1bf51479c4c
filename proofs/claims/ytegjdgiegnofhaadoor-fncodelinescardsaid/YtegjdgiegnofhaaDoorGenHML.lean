/- A call of a continuation is drawn; an operation is drawn. -/
import Derived.Test.YtegjdgiegnofhaaDoorGenEML
import Derived.Deep.Cut
namespace Go.Proofs.YtegjdgiegnofhaaDoor
open Go.RowKit Go.Deep

theorem none_post {d : Dr} {ve : Value} {W X : World} {s s1 : Cn} {t c C : Nat} (h : At d ve W s X s1 t c) (hc : c ≤ C) : NodesPost0 d ve W s C (.returned (.slice none 0 0)) X :=
  h.done0 0 (nodes_none _ _) (by simp) (by omega)

set_option maxHeartbeats 8000000 in
set_option maxRecDepth 100000 in
/-- A call of a continuation, or nothing. -/
theorem cont_calls {d : Dr} {ve v vm : Value} {es : List Ef} {W : World} {s : Cn} {ks : List Kn} {ms : List Bool} {D : Nat} (ty : Int) (deep : Int) (hO : OfC d ve es D) (h1 : deep ≤ D) (h2 : -90 ≤ deep) (h3 : D ≤ 100) (h : Gen d ve W s) (hf : Fit s 30) (hE : Env d ve es W v ks vm ms (D + 1)) :
    Calls Tryd.prog 55 #[.pointer (some ⟨d.G, 0, none⟩), .int .i64 ty, v, vm, .int .i64 deep] W (NodesPost0 d ve W s 30) := by
  have HF := hid hf
  have HO := hid hO
  have A0 := hid (At.start h)
  have HE := hid hE
  have HD := hid (And.intro h1 (And.intro h2 h3))
  have hdu : deep ≤ 1000 := by omega
  obtain ⟨ad, cp, rfl⟩ := hE.know.is
  obtain ⟨adm, cpm, rfl⟩ := hE.may.is
  clear hO h1 h3 h hf hE
  obtain ⟨L, hL⟩ : ∃ L, ks.length = L := ⟨_, rfl⟩
  have HL : Hid (ks.length = L ∧ L ≤ 1000) := ⟨hL, by have := HE.out.room; omega⟩
  rw [hL] at HE ⊢
  clear hL
  have hL0 : Hid (wrap64 ((L : Int) - 1) = (L : Int) - 1) := by show _ = _; have := HL.out.2; unfold wrap64; omega
  go_enter Tryd.func55, Tryd.ntmps55
  go_wp2_with fail
  try rw [hL0.out]
  go_loopw [11] (fun i wr => ∃ i' : Nat, i = .int .i64 ((i' : Int) - 1) ∧ i' ≤ L ∧ wr = W) (fun i _ => (intOf i + 1).toNat)
  case atStart => exact ⟨L, rfl, Nat.le_refl _, rfl⟩
  case round =>
    obtain ⟨i', rfl, hle, rfl⟩ := hrel
    by_cases hz : i' = 0
    · subst hz
      go_wp2_with fail
      go_ret
      exact none_post A0.out (by omega)
    · obtain ⟨j, rfl⟩ : ∃ j, i' = j + 1 := ⟨i' - 1, by omega⟩
      have ej : ((j + 1 : Nat) : Int) - 1 = (j : Int) := by omega
      rw [ej]
      obtain ⟨b, off, xn, xt, xr, rfl, -, hbr, hq, c0, c1, c2⟩ := HE.out.know.at (i := j) (by omega)
      have HQ := hid (And.intro hq hbr)
      have hj0 : (0 : Int) ≤ (j : Int) := by omega
      have hjl : (j : Int) < (L : Int) := by omega
      have HW : Hid (wrap64 ((j : Int) - 1) = (j : Int) - 1) := by show _ = _; have := HL.out.2; unfold wrap64; omega
      have hstep : (intOf (.int .i64 ((j : Int) - 1)) + 1).toNat < (intOf (.int .i64 (j : Int)) + 1).toNat := by simp [intOf]
      clear hq hbr hz
      by_cases hty : (xt == wrap64 (10 + ty)) = true
      · go_upto_region 5 with fail
        refine pick_begin (S := fun w' => w'.cell? ⟨b, off + j * 3, none⟩ = some (.string xn) ∧ w'.cell? ⟨b, off + j * 3 + 2, none⟩ = some (.int .i64 xr)) (by kernel_rfl) rfl rfl ?_
        have A1 := hid A0.out.drew
        have G1 := hid (Grew.refl d wr).drew
        generalize wr.drew = X1 at *
        refine pick_op (i := 0) (v := .agg #[.int .i64 7, .int .i64 0, .string ⟨#[]⟩, .string ⟨#[]⟩, .string ⟨#[]⟩, .int .i64 0]) (by kernel_rfl) rfl (by kernel_rfl) (by kernel_rfl) rfl rfl (fun w' hw => by simp [go_sem]) ⟨((G1.out.cell (p := ⟨b, off + j * 3, none⟩) HQ.out.1).trans c0), ((G1.out.cell (p := ⟨b, off + j * 3 + 2, none⟩) HQ.out.1).trans c2)⟩ (by simp [go_sem]; exact rfl) ?_
        refine pick_op (i := 1) (v := .slice (some ⟨b, off, none⟩) L cp) (by kernel_rfl) rfl (by kernel_rfl) (by kernel_rfl) rfl rfl (fun w' hw => by simp [go_sem]) ⟨((G1.out.cell (p := ⟨b, off + j * 3, none⟩) HQ.out.1).trans c0), ((G1.out.cell (p := ⟨b, off + j * 3 + 2, none⟩) HQ.out.1).trans c2)⟩ (by simp [go_sem]; exact rfl) ?_
        refine pick_op (i := 2) (v := .int .i64 (j : Int)) (by kernel_rfl) rfl (by kernel_rfl) (by kernel_rfl) rfl rfl (fun w' hw => by simp [go_sem]) ⟨((G1.out.cell (p := ⟨b, off + j * 3, none⟩) HQ.out.1).trans c0), ((G1.out.cell (p := ⟨b, off + j * 3 + 2, none⟩) HQ.out.1).trans c2)⟩ (by simp [go_sem]; exact rfl) ?_
        refine pick_op (i := 3) (v := .pointer (some ⟨b, off + j * 3, none⟩)) (by kernel_rfl) rfl (by kernel_rfl) (by kernel_rfl) rfl rfl (fun w' hw => by simp [go_sem, hj0, hjl]) ⟨((G1.out.cell (p := ⟨b, off + j * 3, none⟩) HQ.out.1).trans c0), ((G1.out.cell (p := ⟨b, off + j * 3 + 2, none⟩) HQ.out.1).trans c2)⟩ (by simp [go_sem]; exact rfl) ?_
        refine pick_op (i := 4) (v := .pointer (some ⟨b, off + j * 3, none⟩)) (by kernel_rfl) rfl (by kernel_rfl) (by kernel_rfl) rfl rfl (fun w' hw => by simp [go_sem]) ⟨((G1.out.cell (p := ⟨b, off + j * 3, none⟩) HQ.out.1).trans c0), ((G1.out.cell (p := ⟨b, off + j * 3 + 2, none⟩) HQ.out.1).trans c2)⟩ (by simp [go_sem]; exact rfl) ?_
        refine pick_op (i := 5) (v := .string xn) (by kernel_rfl) rfl (by kernel_rfl) (by kernel_rfl) rfl rfl (fun w' hw => by simp [go_sem, hw.1]) ⟨((G1.out.cell (p := ⟨b, off + j * 3, none⟩) HQ.out.1).trans c0), ((G1.out.cell (p := ⟨b, off + j * 3 + 2, none⟩) HQ.out.1).trans c2)⟩ (by simp [go_sem]; exact rfl) ?_
        refine pick_op (i := 6) (v := .agg #[.int .i64 5, .int .i64 0, .string xn, .string ⟨#[]⟩, .string ⟨#[]⟩, .int .i64 0]) (by kernel_rfl) rfl (by kernel_rfl) (by kernel_rfl) rfl rfl (fun w' hw => by simp [go_sem]) ⟨((G1.out.cell (p := ⟨b, off + j * 3, none⟩) HQ.out.1).trans c0), ((G1.out.cell (p := ⟨b, off + j * 3 + 2, none⟩) HQ.out.1).trans c2)⟩ (by simp [go_sem]; exact rfl) ?_
        refine pick_op (i := 8) (v := .pointer (some ⟨d.G, 0, none⟩)) (by kernel_rfl) rfl (by kernel_rfl) (by kernel_rfl) rfl rfl (fun w' hw => by simp [go_sem]) ⟨((G1.out.cell (p := ⟨b, off + j * 3, none⟩) HQ.out.1).trans c0), ((G1.out.cell (p := ⟨b, off + j * 3 + 2, none⟩) HQ.out.1).trans c2)⟩ (by simp [go_sem]; exact rfl) ?_
        refine pick_op (i := 9) (v := .slice (some ⟨b, off, none⟩) L cp) (by kernel_rfl) rfl (by kernel_rfl) (by kernel_rfl) rfl rfl (fun w' hw => by simp [go_sem]) ⟨((G1.out.cell (p := ⟨b, off + j * 3, none⟩) HQ.out.1).trans c0), ((G1.out.cell (p := ⟨b, off + j * 3 + 2, none⟩) HQ.out.1).trans c2)⟩ (by simp [go_sem]; exact rfl) ?_
        refine pick_op (i := 10) (v := .int .i64 (j : Int)) (by kernel_rfl) rfl (by kernel_rfl) (by kernel_rfl) rfl rfl (fun w' hw => by simp [go_sem]) ⟨((G1.out.cell (p := ⟨b, off + j * 3, none⟩) HQ.out.1).trans c0), ((G1.out.cell (p := ⟨b, off + j * 3 + 2, none⟩) HQ.out.1).trans c2)⟩ (by simp [go_sem]; exact rfl) ?_
        refine pick_op (i := 11) (v := .pointer (some ⟨b, off + j * 3, none⟩)) (by kernel_rfl) rfl (by kernel_rfl) (by kernel_rfl) rfl rfl (fun w' hw => by simp [go_sem, hj0, hjl]) ⟨((G1.out.cell (p := ⟨b, off + j * 3, none⟩) HQ.out.1).trans c0), ((G1.out.cell (p := ⟨b, off + j * 3 + 2, none⟩) HQ.out.1).trans c2)⟩ (by simp [go_sem]; exact rfl) ?_
        refine pick_op (i := 12) (v := .pointer (some ⟨b, off + j * 3 + 2, none⟩)) (by kernel_rfl) rfl (by kernel_rfl) (by kernel_rfl) rfl rfl (fun w' hw => by simp [go_sem]) ⟨((G1.out.cell (p := ⟨b, off + j * 3, none⟩) HQ.out.1).trans c0), ((G1.out.cell (p := ⟨b, off + j * 3 + 2, none⟩) HQ.out.1).trans c2)⟩ (by simp [go_sem]; exact rfl) ?_
        refine pick_op (i := 13) (v := .int .i64 xr) (by kernel_rfl) rfl (by kernel_rfl) (by kernel_rfl) rfl rfl (fun w' hw => by simp [go_sem, hw.2]) ⟨((G1.out.cell (p := ⟨b, off + j * 3, none⟩) HQ.out.1).trans c0), ((G1.out.cell (p := ⟨b, off + j * 3 + 2, none⟩) HQ.out.1).trans c2)⟩ (by simp [go_sem]; exact rfl) ?_
        refine pick_op (i := 14) (v := .slice (some ⟨b, off, none⟩) L cp) (by kernel_rfl) rfl (by kernel_rfl) (by kernel_rfl) rfl rfl (fun w' hw => by simp [go_sem]) ⟨((G1.out.cell (p := ⟨b, off + j * 3, none⟩) HQ.out.1).trans c0), ((G1.out.cell (p := ⟨b, off + j * 3 + 2, none⟩) HQ.out.1).trans c2)⟩ (by simp [go_sem]; exact rfl) ?_
        refine pick_op (i := 15) (v := .slice adm ms.length cpm) (by kernel_rfl) rfl (by kernel_rfl) (by kernel_rfl) rfl rfl (fun w' hw => by simp [go_sem]) ⟨((G1.out.cell (p := ⟨b, off + j * 3, none⟩) HQ.out.1).trans c0), ((G1.out.cell (p := ⟨b, off + j * 3 + 2, none⟩) HQ.out.1).trans c2)⟩ (by simp [go_sem]; exact rfl) ?_
        refine pick_op (i := 16) (v := .int .i64 deep) (by kernel_rfl) rfl (by kernel_rfl) (by kernel_rfl) rfl rfl (fun w' hw => by simp [go_sem]) ⟨((G1.out.cell (p := ⟨b, off + j * 3, none⟩) HQ.out.1).trans c0), ((G1.out.cell (p := ⟨b, off + j * 3 + 2, none⟩) HQ.out.1).trans c2)⟩ (by simp [go_sem]; exact rfl) ?_
        refine pick_either (i := 7) (j := 17) (by kernel_rfl) ?_ ?_
        · have NL : Hid (NodesD d (X1.alloc (.cells #[.int .i64 5, .int .i64 0, .string xn, .string ⟨#[]⟩, .string ⟨#[]⟩, .int .i64 0] 90)) (.slice (some ⟨X1.heap.size, 0, none⟩) 1 1) [⟨5, 0, xn, ByteArray.empty, ByteArray.empty, 0⟩] ∧ [(⟨5, 0, xn, ByteArray.empty, ByteArray.empty, 0⟩ : Nd)].length = 1) := ⟨nd_lit (d := d) X1 ⟨5, 0, xn, ByteArray.empty, ByteArray.empty, 0⟩ A1.out.1.ltB A1.out.1.ltG ⟨HQ.out.2, brief_none, brief_none⟩, rfl⟩
          have A2 := hid (A1.out.alloc (.cells #[.int .i64 5, .int .i64 0, .string xn, .string ⟨#[]⟩, .string ⟨#[]⟩, .int .i64 0] 90))
          have G2 := hid ((Grew.refl d X1).alloc (.cells #[.int .i64 5, .int .i64 0, .string xn, .string ⟨#[]⟩, .string ⟨#[]⟩, .int .i64 0] 90))
          refine ⟨_, .slice (some ⟨X1.heap.size, 0, none⟩) 1 1, X1.alloc (.cells #[.int .i64 5, .int .i64 0, .string xn, .string ⟨#[]⟩, .string ⟨#[]⟩, .int .i64 0] 90), rfl, rfl, by simp [go_sem], ⟨(((G1.out.trans G2.out).cell (p := ⟨b, off + j * 3, none⟩) HQ.out.1).trans c0), (((G1.out.trans G2.out).cell (p := ⟨b, off + j * 3 + 2, none⟩) HQ.out.1).trans c2)⟩, ?_⟩
          refine pick_frame (by simp [go_sem]; exact rfl) ?_
          generalize X1.alloc (.cells #[.int .i64 5, .int .i64 0, .string xn, .string ⟨#[]⟩, .string ⟨#[]⟩, .int .i64 0] 90) = X2 at *
          refine pick_enter (i := 17) (f := 34) (args := #[.pointer (some ⟨d.G, 0, none⟩), .int .i64 xr, .slice (some ⟨b, off, none⟩) L cp, .slice adm ms.length cpm, .int .i64 deep]) rfl (by kernel_rfl) rfl rfl (by simp [go_sem]) ?_
          refine (A2.out.nodes (HO.out deep xr _ _ _ _ _ _ (by have := HD.out; omega) (by have := HD.out; omega) (A2.out.fit HF.out 10 (by omega)) A2.out.1 (HE.out.grew (G1.out.trans G2.out)).down)).mono ?_
          rintro e X3 ⟨v3, n3, s3, t3, rfl, hn3, hl3, ha, hg⟩
          have A3 := hid ha
          have G3 := hid hg
          clear ha hg
          have N3 := hid (And.intro hn3 hl3)
          obtain ⟨ad3, cp3, rfl⟩ := hn3.is
          clear hn3 hl3
          refine ⟨_, rfl, ⟨(((G1.out.trans (G2.out.trans G3.out)).cell (p := ⟨b, off + j * 3, none⟩) HQ.out.1).trans c0), (((G1.out.trans (G2.out.trans G3.out)).cell (p := ⟨b, off + j * 3 + 2, none⟩) HQ.out.1).trans c2)⟩, ?_⟩
          refine pick_frame (by simp [go_sem]; exact rfl) ?_
          have KV : Hid (KidsV d (X3.alloc (.cells #[.slice (some ⟨X1.heap.size, 0, none⟩) 1 1, .slice ad3 n3.length cp3] 55)) (.slice (some ⟨X3.heap.size, 0, none⟩) 2 2) [(.slice (some ⟨X1.heap.size, 0, none⟩) 1 1, [(⟨5, 0, xn, ByteArray.empty, ByteArray.empty, 0⟩ : Nd)]), (.slice ad3 n3.length cp3, n3)]) := (kids_lit [(.slice (some ⟨X1.heap.size, 0, none⟩) 1 1, [(⟨5, 0, xn, ByteArray.empty, ByteArray.empty, 0⟩ : Nd)]), (.slice ad3 n3.length cp3, n3)] _ rfl A3.out.1.ltB A3.out.1.ltG (fun x hx => by simp at hx; rcases hx with rfl | rfl; exact (NL.out.1.grew G3.out); exact N3.out.1))
          have A4 := hid (A3.out.alloc (.cells #[.slice (some ⟨X1.heap.size, 0, none⟩) 1 1, .slice ad3 n3.length cp3] 55))
          have G4 := hid ((Grew.refl d X3).alloc (.cells #[.slice (some ⟨X1.heap.size, 0, none⟩) 1 1, .slice ad3 n3.length cp3] 55))
          refine pick_make (i := 18) (v := .slice (some ⟨X3.heap.size, 0, none⟩) 2 2) (w1 := X3.alloc (.cells #[.slice (some ⟨X1.heap.size, 0, none⟩) 1 1, .slice ad3 n3.length cp3] 55)) rfl (by kernel_rfl) rfl rfl (by simp [go_sem]) ⟨(((G1.out.trans (G2.out.trans (G3.out.trans G4.out))).cell (p := ⟨b, off + j * 3, none⟩) HQ.out.1).trans c0), (((G1.out.trans (G2.out.trans (G3.out.trans G4.out))).cell (p := ⟨b, off + j * 3 + 2, none⟩) HQ.out.1).trans c2)⟩ (by simp [go_sem]; exact rfl) ?_
          generalize X3.alloc (.cells #[.slice (some ⟨X1.heap.size, 0, none⟩) 1 1, .slice ad3 n3.length cp3] 55) = X4 at *
          refine pick_enter (i := 19) (f := 51) (args := #[.agg #[.int .i64 7, .int .i64 0, .string ⟨#[]⟩, .string ⟨#[]⟩, .string ⟨#[]⟩, .int .i64 0], .slice (some ⟨X3.heap.size, 0, none⟩) 2 2]) rfl (by kernel_rfl) rfl rfl (by simp [go_sem]) ?_
          refine (A4.out.put_kids 7 0 0 ⟨#[]⟩ ⟨#[]⟩ ⟨#[]⟩ KV.out ⟨brief_none, brief_none, brief_none⟩ (by simp) (by have := A4.out.bound HF.out (by omega) (by decide); have := N3.out.2; simp [flatL]; omega)).mono ?_
          rintro e X5 ⟨v5, n5, rfl, hn5, hl5, ha, hg⟩
          have A5 := hid ha
          have G5 := hid hg
          clear ha hg
          have N5 := hid (And.intro hn5 hl5)
          obtain ⟨ad5, cp5, rfl⟩ := hn5.is
          clear hn5 hl5
          refine ⟨_, rfl, ⟨(((G1.out.trans (G2.out.trans (G3.out.trans (G4.out.trans G5.out)))).cell (p := ⟨b, off + j * 3, none⟩) HQ.out.1).trans c0), (((G1.out.trans (G2.out.trans (G3.out.trans (G4.out.trans G5.out)))).cell (p := ⟨b, off + j * 3 + 2, none⟩) HQ.out.1).trans c2)⟩, ?_⟩
          refine pick_frame (by simp [go_sem]; exact rfl) ?_
          refine pick_op (i := 20) (v := .slice ad5 n5.length cp5) (by kernel_rfl) rfl (by kernel_rfl) (by kernel_rfl) rfl rfl (fun w' hw => by simp [go_sem]) ⟨(((G1.out.trans (G2.out.trans (G3.out.trans (G4.out.trans G5.out)))).cell (p := ⟨b, off + j * 3, none⟩) HQ.out.1).trans c0), (((G1.out.trans (G2.out.trans (G3.out.trans (G4.out.trans G5.out)))).cell (p := ⟨b, off + j * 3 + 2, none⟩) HQ.out.1).trans c2)⟩ (by simp [go_sem]; exact rfl) ?_
          refine pick_end (by kernel_rfl) ?_
          go_wp2_with fail
          go_ret
          exact A5.out.done0 5 N5.out.1 (by have := N5.out.2; have := N3.out.2; simp [flatL] at *; omega) (by omega)
        · refine ⟨_, 34, #[.pointer (some ⟨d.G, 0, none⟩), .int .i64 xr, .slice (some ⟨b, off, none⟩) L cp, .slice adm ms.length cpm, .int .i64 deep], rfl, rfl, by simp [go_sem], ?_⟩
          refine (A1.out.nodes (HO.out deep xr _ _ _ _ _ _ (by have := HD.out; omega) (by have := HD.out; omega) (A1.out.fit HF.out 10 (by omega)) A1.out.1 (HE.out.grew G1.out).down)).mono ?_
          rintro e X2 ⟨v2, n2, s2, t2, rfl, hn2, hl2, ha, hg⟩
          have A2 := hid ha
          have G2 := hid hg
          clear ha hg
          have N2 := hid (And.intro hn2 hl2)
          obtain ⟨ad2, cp2, rfl⟩ := hn2.is
          clear hn2 hl2
          refine ⟨_, rfl, ⟨(((G1.out.trans G2.out).cell (p := ⟨b, off + j * 3, none⟩) HQ.out.1).trans c0), (((G1.out.trans G2.out).cell (p := ⟨b, off + j * 3 + 2, none⟩) HQ.out.1).trans c2)⟩, ?_⟩
          refine pick_frame (by simp [go_sem]; exact rfl) ?_
          have NL : Hid (NodesD d (X2.alloc (.cells #[.int .i64 5, .int .i64 0, .string xn, .string ⟨#[]⟩, .string ⟨#[]⟩, .int .i64 0] 90)) (.slice (some ⟨X2.heap.size, 0, none⟩) 1 1) [⟨5, 0, xn, ByteArray.empty, ByteArray.empty, 0⟩] ∧ [(⟨5, 0, xn, ByteArray.empty, ByteArray.empty, 0⟩ : Nd)].length = 1) := ⟨nd_lit (d := d) X2 ⟨5, 0, xn, ByteArray.empty, ByteArray.empty, 0⟩ A2.out.1.ltB A2.out.1.ltG ⟨HQ.out.2, brief_none, brief_none⟩, rfl⟩
          have A3 := hid (A2.out.alloc (.cells #[.int .i64 5, .int .i64 0, .string xn, .string ⟨#[]⟩, .string ⟨#[]⟩, .int .i64 0] 90))
          have G3 := hid ((Grew.refl d X2).alloc (.cells #[.int .i64 5, .int .i64 0, .string xn, .string ⟨#[]⟩, .string ⟨#[]⟩, .int .i64 0] 90))
          refine pick_make (i := 7) (v := .slice (some ⟨X2.heap.size, 0, none⟩) 1 1) (w1 := X2.alloc (.cells #[.int .i64 5, .int .i64 0, .string xn, .string ⟨#[]⟩, .string ⟨#[]⟩, .int .i64 0] 90)) rfl (by kernel_rfl) rfl rfl (by simp [go_sem]) ⟨(((G1.out.trans (G2.out.trans G3.out)).cell (p := ⟨b, off + j * 3, none⟩) HQ.out.1).trans c0), (((G1.out.trans (G2.out.trans G3.out)).cell (p := ⟨b, off + j * 3 + 2, none⟩) HQ.out.1).trans c2)⟩ (by simp [go_sem]; exact rfl) ?_
          generalize X2.alloc (.cells #[.int .i64 5, .int .i64 0, .string xn, .string ⟨#[]⟩, .string ⟨#[]⟩, .int .i64 0] 90) = X3 at *
          have KV : Hid (KidsV d (X3.alloc (.cells #[.slice (some ⟨X2.heap.size, 0, none⟩) 1 1, .slice ad2 n2.length cp2] 55)) (.slice (some ⟨X3.heap.size, 0, none⟩) 2 2) [(.slice (some ⟨X2.heap.size, 0, none⟩) 1 1, [(⟨5, 0, xn, ByteArray.empty, ByteArray.empty, 0⟩ : Nd)]), (.slice ad2 n2.length cp2, n2)]) := (kids_lit [(.slice (some ⟨X2.heap.size, 0, none⟩) 1 1, [(⟨5, 0, xn, ByteArray.empty, ByteArray.empty, 0⟩ : Nd)]), (.slice ad2 n2.length cp2, n2)] _ rfl A3.out.1.ltB A3.out.1.ltG (fun x hx => by simp at hx; rcases hx with rfl | rfl; exact NL.out.1; exact (N2.out.1.grew G3.out)))
          have A4 := hid (A3.out.alloc (.cells #[.slice (some ⟨X2.heap.size, 0, none⟩) 1 1, .slice ad2 n2.length cp2] 55))
          have G4 := hid ((Grew.refl d X3).alloc (.cells #[.slice (some ⟨X2.heap.size, 0, none⟩) 1 1, .slice ad2 n2.length cp2] 55))
          refine pick_make (i := 18) (v := .slice (some ⟨X3.heap.size, 0, none⟩) 2 2) (w1 := X3.alloc (.cells #[.slice (some ⟨X2.heap.size, 0, none⟩) 1 1, .slice ad2 n2.length cp2] 55)) rfl (by kernel_rfl) rfl rfl (by simp [go_sem]) ⟨(((G1.out.trans (G2.out.trans (G3.out.trans G4.out))).cell (p := ⟨b, off + j * 3, none⟩) HQ.out.1).trans c0), (((G1.out.trans (G2.out.trans (G3.out.trans G4.out))).cell (p := ⟨b, off + j * 3 + 2, none⟩) HQ.out.1).trans c2)⟩ (by simp [go_sem]; exact rfl) ?_
          generalize X3.alloc (.cells #[.slice (some ⟨X2.heap.size, 0, none⟩) 1 1, .slice ad2 n2.length cp2] 55) = X4 at *
          refine pick_enter (i := 19) (f := 51) (args := #[.agg #[.int .i64 7, .int .i64 0, .string ⟨#[]⟩, .string ⟨#[]⟩, .string ⟨#[]⟩, .int .i64 0], .slice (some ⟨X3.heap.size, 0, none⟩) 2 2]) rfl (by kernel_rfl) rfl rfl (by simp [go_sem]) ?_
          refine (A4.out.put_kids 7 0 0 ⟨#[]⟩ ⟨#[]⟩ ⟨#[]⟩ KV.out ⟨brief_none, brief_none, brief_none⟩ (by simp) (by have := A4.out.bound HF.out (by omega) (by decide); have := N2.out.2; simp [flatL]; omega)).mono ?_
          rintro e X5 ⟨v5, n5, rfl, hn5, hl5, ha, hg⟩
          have A5 := hid ha
          have G5 := hid hg
          clear ha hg
          have N5 := hid (And.intro hn5 hl5)
          obtain ⟨ad5, cp5, rfl⟩ := hn5.is
          clear hn5 hl5
          refine ⟨_, rfl, ⟨(((G1.out.trans (G2.out.trans (G3.out.trans (G4.out.trans G5.out)))).cell (p := ⟨b, off + j * 3, none⟩) HQ.out.1).trans c0), (((G1.out.trans (G2.out.trans (G3.out.trans (G4.out.trans G5.out)))).cell (p := ⟨b, off + j * 3 + 2, none⟩) HQ.out.1).trans c2)⟩, ?_⟩
          refine pick_frame (by simp [go_sem]; exact rfl) ?_
          refine pick_op (i := 20) (v := .slice ad5 n5.length cp5) (by kernel_rfl) rfl (by kernel_rfl) (by kernel_rfl) rfl rfl (fun w' hw => by simp [go_sem]) ⟨(((G1.out.trans (G2.out.trans (G3.out.trans (G4.out.trans G5.out)))).cell (p := ⟨b, off + j * 3, none⟩) HQ.out.1).trans c0), (((G1.out.trans (G2.out.trans (G3.out.trans (G4.out.trans G5.out)))).cell (p := ⟨b, off + j * 3 + 2, none⟩) HQ.out.1).trans c2)⟩ (by simp [go_sem]; exact rfl) ?_
          refine pick_end (by kernel_rfl) ?_
          go_wp2_with fail
          go_ret
          exact A5.out.done0 5 N5.out.1 (by have := N5.out.2; have := N2.out.2; simp [flatL] at *; omega) (by omega)
      · have hty' : (xt == wrap64 (10 + ty)) = false := by simpa using hty
        clear hty
        go_wp2_with fail
        rw [HW.out]
        exact ⟨⟨j, rfl, by omega, by first | rfl | trivial⟩, hstep⟩

end Go.Proofs.YtegjdgiegnofhaaDoor
