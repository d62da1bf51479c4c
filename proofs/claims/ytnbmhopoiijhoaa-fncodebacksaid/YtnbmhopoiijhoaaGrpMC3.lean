/- What is drawn by its type. -/
import Derived.Test.YtnbmhopoiijhoaaGrpMC2
import Derived.Deep.Cut
namespace Go.Proofs.Ytnbmhopoiijhoaa
open Go.RowKit Go.Deep

set_option maxHeartbeats 8000000 in
set_option maxRecDepth 100000 in
/-- A bool. -/
theorem own2 {d : Dr} {ve v vm : Value} {es : List Ef} {W : World} {s : Cn} {ks : List Kn} {ms : List Bool} {D : Nat} (ty : Int) (ht : ty = 2) (deep : Int) (hO : OfC d ve es D) (h1 : deep ≤ D) (h2 : -90 ≤ deep) (h3 : D ≤ 100) (h : Gen d ve W s) (hf : Fit s 100) (hE : Env d ve es W v ks vm ms (D + 1)) :
    Calls Try.prog 61 #[.pointer (some ⟨d.G, 0, none⟩), .int .i64 ty, v, vm, .int .i64 deep] W (NodesPost d ve W s 100) := by
  have HF := hid hf
  have HO := hid hO
  have A0 := hid (At.start h)
  have HE := hid hE
  have HD := hid (And.intro h1 (And.intro h2 h3))
  have hdu : deep ≤ 1000 := by omega
  obtain ⟨ad, cp, rfl⟩ := hE.know.is
  obtain ⟨adm, cpm, rfl⟩ := hE.may.is
  clear hO h1 h3 h hf hE
  subst ht
  go_enter Try.func61, Try.ntmps61
  go_upto_region 12 with fail
  refine pick_begin (S := fun w' => w'.cell? ⟨d.G, 0, none⟩ = some (.pointer (some ⟨d.B, 0, none⟩))) (by kernel_rfl) rfl rfl ?_
  have A1 := hid A0.out.drew
  have G1 := hid (Grew.refl d W).drew
  have hXD : W.drew = W.drew := rfl
  generalize W.drew = X1 at *
  clear hXD
  refine pick_op (i := 1) (v := .pointer (some ⟨d.G, 0, none⟩)) (by kernel_rfl) rfl (by kernel_rfl) (by kernel_rfl) rfl rfl (fun w' hw => by simp [go_sem]) (A1.out.1.c0) (by simp [go_sem]; exact rfl) ?_
  refine pick_op (i := 2) (v := .pointer (some ⟨d.G, 0, none⟩)) (by kernel_rfl) rfl (by kernel_rfl) (by kernel_rfl) rfl rfl (fun w' hw => by simp [go_sem]) (A1.out.1.c0) (by simp [go_sem]; exact rfl) ?_
  refine pick_op (i := 3) (v := .pointer (some ⟨d.G, 0, none⟩)) (by kernel_rfl) rfl (by kernel_rfl) (by kernel_rfl) rfl rfl (fun w' hw => by simp [go_sem]) (A1.out.1.c0) (by simp [go_sem]; exact rfl) ?_
  refine pick_op (i := 4) (v := .pointer (some ⟨d.B, 0, none⟩)) (by kernel_rfl) rfl (by kernel_rfl) (by kernel_rfl) rfl rfl (fun w' hw => by simp [go_sem, hw]) (A1.out.1.c0) (by simp [go_sem]; exact rfl) ?_
  refine pick_op (i := 9) (v := .pointer (some ⟨d.G, 0, none⟩)) (by kernel_rfl) rfl (by kernel_rfl) (by kernel_rfl) rfl rfl (fun w' hw => by simp [go_sem]) (A1.out.1.c0) (by simp [go_sem]; exact rfl) ?_
  refine pick_op (i := 10) (v := .slice ad ks.length cp) (by kernel_rfl) rfl (by kernel_rfl) (by kernel_rfl) rfl rfl (fun w' hw => by simp [go_sem]) (A1.out.1.c0) (by simp [go_sem]; exact rfl) ?_
  refine pick_op (i := 11) (v := .slice adm ms.length cpm) (by kernel_rfl) rfl (by kernel_rfl) (by kernel_rfl) rfl rfl (fun w' hw => by simp [go_sem]) (A1.out.1.c0) (by simp [go_sem]; exact rfl) ?_
  refine pick_op (i := 12) (v := .int .i64 deep) (by kernel_rfl) rfl (by kernel_rfl) (by kernel_rfl) rfl rfl (fun w' hw => by simp [go_sem]) (A1.out.1.c0) (by simp [go_sem]; exact rfl) ?_
  refine pick_op (i := 14) (v := .pointer (some ⟨d.G, 0, none⟩)) (by kernel_rfl) rfl (by kernel_rfl) (by kernel_rfl) rfl rfl (fun w' hw => by simp [go_sem]) (A1.out.1.c0) (by simp [go_sem]; exact rfl) ?_
  refine pick_op (i := 15) (v := .slice ad ks.length cp) (by kernel_rfl) rfl (by kernel_rfl) (by kernel_rfl) rfl rfl (fun w' hw => by simp [go_sem]) (A1.out.1.c0) (by simp [go_sem]; exact rfl) ?_
  refine pick_op (i := 16) (v := .slice adm ms.length cpm) (by kernel_rfl) rfl (by kernel_rfl) (by kernel_rfl) rfl rfl (fun w' hw => by simp [go_sem]) (A1.out.1.c0) (by simp [go_sem]; exact rfl) ?_
  refine pick_op (i := 17) (v := .int .i64 deep) (by kernel_rfl) rfl (by kernel_rfl) (by kernel_rfl) rfl rfl (fun w' hw => by simp [go_sem]) (A1.out.1.c0) (by simp [go_sem]; exact rfl) ?_
  refine pick_either (i := 0) (j := 5) (by kernel_rfl) ?_ ?_
  · have RB := hid (MapKept.heap_alloc X1 (.cells #[.int .i64 14, .int .i64 15] 3)).1
    have HQ := hid (And.intro A1.out.1.ltB A1.out.1.ltG)
    have A2 := hid (A1.out.alloc (.cells #[.int .i64 14, .int .i64 15] 3))
    have G2 := hid ((Grew.refl d X1).alloc (.cells #[.int .i64 14, .int .i64 15] 3))
    refine ⟨_, .slice (some ⟨X1.heap.size, 0, none⟩) 2 2, X1.alloc (.cells #[.int .i64 14, .int .i64 15] 3), rfl, rfl, by simp [go_sem], A2.out.1.c0, ?_⟩
    refine pick_frame (by simp [go_sem]; exact rfl) ?_
    generalize X1.alloc (.cells #[.int .i64 14, .int .i64 15] 3) = X2 at *
    obtain ⟨q, hq⟩ : ∃ q, X1.heap.size = q := ⟨_, rfl⟩
    rw [hq] at RB HQ ⊢
    clear hq
    refine pick_enter (i := 5) (f := 13) (args := #[.pointer (some ⟨d.B, 0, none⟩), .int .i64 2]) rfl (by kernel_rfl) rfl rfl (by simp [go_sem]) ?_
    refine (A2.out.pick HF.out (by omega) 2 (by decide)).mono ?_
    rintro e X3 ⟨m3, s3, rfl, hm3, hM3, ha, hg⟩
    have A3 := hid ha
    have G3 := hid hg
    clear ha hg
    refine ⟨_, rfl, (A3.out.1.c0), ?_⟩
    refine pick_frame (by simp [go_sem]; exact rfl) ?_
    obtain ⟨kv, hkv⟩ := two_get 14 15 m3 hm3 hM3
    have cq := (cell_of_heap ((G3.out.block q ⟨heap_lt RB.out, (show q ≠ d.B by have := HQ.out.1; omega), (show q ≠ d.G by have := HQ.out.2; omega)⟩).trans RB.out) m3.toNat).trans hkv
    have RBn := hid ((G3.out.block q ⟨heap_lt RB.out, (show q ≠ d.B by have := HQ.out.1; omega), (show q ≠ d.G by have := HQ.out.2; omega)⟩).trans RB.out)
    clear hkv
    refine pick_op (i := 6) (v := .pointer (some ⟨q, m3.toNat, none⟩)) (by kernel_rfl) rfl (by kernel_rfl) (by kernel_rfl) rfl rfl (fun w' hw => by simp [go_sem, hm3, hM3]) (A3.out.1.c0) (by simp [go_sem]; exact rfl) ?_
    refine pick_more (fun w' => w'.cell? ⟨d.G, 0, none⟩ = some (.pointer (some ⟨d.B, 0, none⟩)) ∧ w'.cell? ⟨q, m3.toNat, none⟩ = some (.int .i64 kv)) (fun w h => h.1) ?_
    refine pick_op (i := 7) (v := .int .i64 kv) (by kernel_rfl) rfl (by kernel_rfl) (by kernel_rfl) rfl rfl (fun w' hw => by simp [go_sem, hw.2]) ⟨A3.out.1.c0, cq⟩ (by simp [go_sem]; exact rfl) ?_
    refine pick_op (i := 8) (v := .agg #[.int .i64 kv, .int .i64 0, .string ⟨#[]⟩, .string ⟨#[]⟩, .string ⟨#[]⟩, .int .i64 0]) (by kernel_rfl) rfl (by kernel_rfl) (by kernel_rfl) rfl rfl (fun w' hw => by simp [go_sem]) ⟨A3.out.1.c0, cq⟩ (by simp [go_sem]; exact rfl) ?_
    refine pick_enter (i := 13) (f := 38) (args := #[.pointer (some ⟨d.G, 0, none⟩), .int .i64 1, .slice ad ks.length cp, .slice adm ms.length cpm, .int .i64 deep]) rfl (by kernel_rfl) rfl rfl (by simp [go_sem]) ?_
    refine (A3.out.nodes (HO.out deep 1 _ _ _ _ _ _ (by have := HD.out; omega) (by have := HD.out; omega) (A3.out.fit HF.out 10 (by omega)) A3.out.1 (HE.out.grew (G1.out.trans (G2.out.trans G3.out))).down)).mono ?_
    rintro e X4 ⟨v4, n4, s4, t4, rfl, hn4, hl4, ha, hg⟩
    have A4 := hid ha
    have G4 := hid hg
    clear ha hg
    have N4 := hid (And.intro hn4 hl4)
    obtain ⟨ad4, cp4, rfl⟩ := hn4.is
    clear hn4 hl4
    have cq5 := (G4.out.cell (p := ⟨q, m3.toNat, none⟩) ⟨heap_lt RBn.out, (show q ≠ d.B by have := HQ.out.1; omega), (show q ≠ d.G by have := HQ.out.2; omega)⟩).trans cq
    refine ⟨_, rfl, ⟨A4.out.1.c0, cq5⟩, ?_⟩
    refine pick_frame (by simp [go_sem]; exact rfl) ?_
    refine pick_enter (i := 18) (f := 38) (args := #[.pointer (some ⟨d.G, 0, none⟩), .int .i64 1, .slice ad ks.length cp, .slice adm ms.length cpm, .int .i64 deep]) rfl (by kernel_rfl) rfl rfl (by simp [go_sem]) ?_
    refine (A4.out.nodes (HO.out deep 1 _ _ _ _ _ _ (by have := HD.out; omega) (by have := HD.out; omega) (A4.out.fit HF.out 10 (by omega)) A4.out.1 (HE.out.grew (G1.out.trans (G2.out.trans (G3.out.trans G4.out)))).down)).mono ?_
    rintro e X6 ⟨v6, n6, s6, t6, rfl, hn6, hl6, ha, hg⟩
    have A6 := hid ha
    have G6 := hid hg
    clear ha hg
    have N6 := hid (And.intro hn6 hl6)
    obtain ⟨ad6, cp6, rfl⟩ := hn6.is
    clear hn6 hl6
    have cq7 := ((G4.out.trans G6.out).cell (p := ⟨q, m3.toNat, none⟩) ⟨heap_lt RBn.out, (show q ≠ d.B by have := HQ.out.1; omega), (show q ≠ d.G by have := HQ.out.2; omega)⟩).trans cq
    refine ⟨_, rfl, ⟨A6.out.1.c0, cq7⟩, ?_⟩
    refine pick_frame (by simp [go_sem]; exact rfl) ?_
    have KV : Hid (KidsV d (X6.alloc (.cells #[.slice ad4 n4.length cp4, .slice ad6 n6.length cp6] 53)) (.slice (some ⟨X6.heap.size, 0, none⟩) 2 2) [(.slice ad4 n4.length cp4, n4), (.slice ad6 n6.length cp6, n6)]) := (kids_lit [(.slice ad4 n4.length cp4, n4), (.slice ad6 n6.length cp6, n6)] _ rfl A6.out.1.ltB A6.out.1.ltG (fun x hx => by simp at hx; rcases hx with rfl | rfl; exact (N4.out.1.grew G6.out); exact N6.out.1))
    have A8 := hid (A6.out.alloc (.cells #[.slice ad4 n4.length cp4, .slice ad6 n6.length cp6] 53))
    have G8 := hid ((Grew.refl d X6).alloc (.cells #[.slice ad4 n4.length cp4, .slice ad6 n6.length cp6] 53))
    have cq9 := ((G4.out.trans (G6.out.trans G8.out)).cell (p := ⟨q, m3.toNat, none⟩) ⟨heap_lt RBn.out, (show q ≠ d.B by have := HQ.out.1; omega), (show q ≠ d.G by have := HQ.out.2; omega)⟩).trans cq
    refine pick_make (i := 19) (v := .slice (some ⟨X6.heap.size, 0, none⟩) 2 2) (w1 := X6.alloc (.cells #[.slice ad4 n4.length cp4, .slice ad6 n6.length cp6] 53)) rfl (by kernel_rfl) rfl rfl (by simp [go_sem]) ⟨A8.out.1.c0, cq9⟩ (by simp [go_sem]; exact rfl) ?_
    generalize X6.alloc (.cells #[.slice ad4 n4.length cp4, .slice ad6 n6.length cp6] 53) = X8 at *
    refine pick_enter (i := 20) (f := 55) (args := #[.agg #[.int .i64 kv, .int .i64 0, .string ⟨#[]⟩, .string ⟨#[]⟩, .string ⟨#[]⟩, .int .i64 0], .slice (some ⟨X6.heap.size, 0, none⟩) 2 2]) rfl (by kernel_rfl) rfl rfl (by simp [go_sem]) ?_
    refine (A8.out.put_kids kv 0 0 ⟨#[]⟩ ⟨#[]⟩ ⟨#[]⟩ KV.out ⟨brief_none, brief_none, brief_none⟩ (by simp) (by have := A8.out.bound HF.out (by omega) (by decide); have := N4.out.2; have := N6.out.2; simp [flatL]; omega)).mono ?_
    rintro e X10 ⟨v10, n10, rfl, hn10, hl10, ha, hg⟩
    have A10 := hid ha
    have G10 := hid hg
    clear ha hg
    have N10 := hid (And.intro hn10 hl10)
    clear hn10 hl10
    have cq11 := ((G4.out.trans (G6.out.trans (G8.out.trans G10.out))).cell (p := ⟨q, m3.toNat, none⟩) ⟨heap_lt RBn.out, (show q ≠ d.B by have := HQ.out.1; omega), (show q ≠ d.G by have := HQ.out.2; omega)⟩).trans cq
    refine ⟨_, rfl, ⟨A10.out.1.c0, cq11⟩, ?_⟩
    refine pick_frame (by simp [go_sem]; exact rfl) ?_
    refine pick_op (i := 21) (v := v10) (by kernel_rfl) rfl (by kernel_rfl) (by kernel_rfl) rfl rfl (fun w' hw => by simp [go_sem]) ⟨A10.out.1.c0, cq11⟩ (by simp [go_sem]; exact rfl) ?_
    refine pick_end (by kernel_rfl) ?_
    go_wp2_with fail
    go_ret
    exact A10.out.done 1 N10.out.1 (by have := N10.out.2; have := N4.out.2; have := N6.out.2; simp [flatL] at *; omega) (by omega)
  · refine ⟨_, 13, #[.pointer (some ⟨d.B, 0, none⟩), .int .i64 2], rfl, rfl, by simp [go_sem], ?_⟩
    refine (A1.out.pick HF.out (by omega) 2 (by decide)).mono ?_
    rintro e X2 ⟨m2, s2, rfl, hm2, hM2, ha, hg⟩
    have A2 := hid ha
    have G2 := hid hg
    clear ha hg
    refine ⟨_, rfl, (A2.out.1.c0), ?_⟩
    refine pick_frame (by simp [go_sem]; exact rfl) ?_
    refine pick_either (i := 0) (j := 13) (by kernel_rfl) ?_ ?_
    · have RB := hid (MapKept.heap_alloc X2 (.cells #[.int .i64 14, .int .i64 15] 3)).1
      have HQ := hid (And.intro A2.out.1.ltB A2.out.1.ltG)
      have A3 := hid (A2.out.alloc (.cells #[.int .i64 14, .int .i64 15] 3))
      have G3 := hid ((Grew.refl d X2).alloc (.cells #[.int .i64 14, .int .i64 15] 3))
      refine ⟨_, .slice (some ⟨X2.heap.size, 0, none⟩) 2 2, X2.alloc (.cells #[.int .i64 14, .int .i64 15] 3), rfl, rfl, by simp [go_sem], A3.out.1.c0, ?_⟩
      refine pick_frame (by simp [go_sem]; exact rfl) ?_
      generalize X2.alloc (.cells #[.int .i64 14, .int .i64 15] 3) = X3 at *
      obtain ⟨q, hq⟩ : ∃ q, X2.heap.size = q := ⟨_, rfl⟩
      rw [hq] at RB HQ ⊢
      clear hq
      obtain ⟨kv, hkv⟩ := two_get 14 15 m2 hm2 hM2
      have cq := (cell_of_heap RB.out m2.toNat).trans hkv
      have RBn := hid RB.out
      clear hkv
      refine pick_op (i := 6) (v := .pointer (some ⟨q, m2.toNat, none⟩)) (by kernel_rfl) rfl (by kernel_rfl) (by kernel_rfl) rfl rfl (fun w' hw => by simp [go_sem, hm2, hM2]) (A3.out.1.c0) (by simp [go_sem]; exact rfl) ?_
      refine pick_more (fun w' => w'.cell? ⟨d.G, 0, none⟩ = some (.pointer (some ⟨d.B, 0, none⟩)) ∧ w'.cell? ⟨q, m2.toNat, none⟩ = some (.int .i64 kv)) (fun w h => h.1) ?_
      refine pick_op (i := 7) (v := .int .i64 kv) (by kernel_rfl) rfl (by kernel_rfl) (by kernel_rfl) rfl rfl (fun w' hw => by simp [go_sem, hw.2]) ⟨A3.out.1.c0, cq⟩ (by simp [go_sem]; exact rfl) ?_
      refine pick_op (i := 8) (v := .agg #[.int .i64 kv, .int .i64 0, .string ⟨#[]⟩, .string ⟨#[]⟩, .string ⟨#[]⟩, .int .i64 0]) (by kernel_rfl) rfl (by kernel_rfl) (by kernel_rfl) rfl rfl (fun w' hw => by simp [go_sem]) ⟨A3.out.1.c0, cq⟩ (by simp [go_sem]; exact rfl) ?_
      refine pick_enter (i := 13) (f := 38) (args := #[.pointer (some ⟨d.G, 0, none⟩), .int .i64 1, .slice ad ks.length cp, .slice adm ms.length cpm, .int .i64 deep]) rfl (by kernel_rfl) rfl rfl (by simp [go_sem]) ?_
      refine (A3.out.nodes (HO.out deep 1 _ _ _ _ _ _ (by have := HD.out; omega) (by have := HD.out; omega) (A3.out.fit HF.out 10 (by omega)) A3.out.1 (HE.out.grew (G1.out.trans (G2.out.trans G3.out))).down)).mono ?_
      rintro e X4 ⟨v4, n4, s4, t4, rfl, hn4, hl4, ha, hg⟩
      have A4 := hid ha
      have G4 := hid hg
      clear ha hg
      have N4 := hid (And.intro hn4 hl4)
      obtain ⟨ad4, cp4, rfl⟩ := hn4.is
      clear hn4 hl4
      have cq5 := (G4.out.cell (p := ⟨q, m2.toNat, none⟩) ⟨heap_lt RBn.out, (show q ≠ d.B by have := HQ.out.1; omega), (show q ≠ d.G by have := HQ.out.2; omega)⟩).trans cq
      refine ⟨_, rfl, ⟨A4.out.1.c0, cq5⟩, ?_⟩
      refine pick_frame (by simp [go_sem]; exact rfl) ?_
      refine pick_enter (i := 18) (f := 38) (args := #[.pointer (some ⟨d.G, 0, none⟩), .int .i64 1, .slice ad ks.length cp, .slice adm ms.length cpm, .int .i64 deep]) rfl (by kernel_rfl) rfl rfl (by simp [go_sem]) ?_
      refine (A4.out.nodes (HO.out deep 1 _ _ _ _ _ _ (by have := HD.out; omega) (by have := HD.out; omega) (A4.out.fit HF.out 10 (by omega)) A4.out.1 (HE.out.grew (G1.out.trans (G2.out.trans (G3.out.trans G4.out)))).down)).mono ?_
      rintro e X6 ⟨v6, n6, s6, t6, rfl, hn6, hl6, ha, hg⟩
      have A6 := hid ha
      have G6 := hid hg
      clear ha hg
      have N6 := hid (And.intro hn6 hl6)
      obtain ⟨ad6, cp6, rfl⟩ := hn6.is
      clear hn6 hl6
      have cq7 := ((G4.out.trans G6.out).cell (p := ⟨q, m2.toNat, none⟩) ⟨heap_lt RBn.out, (show q ≠ d.B by have := HQ.out.1; omega), (show q ≠ d.G by have := HQ.out.2; omega)⟩).trans cq
      refine ⟨_, rfl, ⟨A6.out.1.c0, cq7⟩, ?_⟩
      refine pick_frame (by simp [go_sem]; exact rfl) ?_
      have KV : Hid (KidsV d (X6.alloc (.cells #[.slice ad4 n4.length cp4, .slice ad6 n6.length cp6] 53)) (.slice (some ⟨X6.heap.size, 0, none⟩) 2 2) [(.slice ad4 n4.length cp4, n4), (.slice ad6 n6.length cp6, n6)]) := (kids_lit [(.slice ad4 n4.length cp4, n4), (.slice ad6 n6.length cp6, n6)] _ rfl A6.out.1.ltB A6.out.1.ltG (fun x hx => by simp at hx; rcases hx with rfl | rfl; exact (N4.out.1.grew G6.out); exact N6.out.1))
      have A8 := hid (A6.out.alloc (.cells #[.slice ad4 n4.length cp4, .slice ad6 n6.length cp6] 53))
      have G8 := hid ((Grew.refl d X6).alloc (.cells #[.slice ad4 n4.length cp4, .slice ad6 n6.length cp6] 53))
      have cq9 := ((G4.out.trans (G6.out.trans G8.out)).cell (p := ⟨q, m2.toNat, none⟩) ⟨heap_lt RBn.out, (show q ≠ d.B by have := HQ.out.1; omega), (show q ≠ d.G by have := HQ.out.2; omega)⟩).trans cq
      refine pick_make (i := 19) (v := .slice (some ⟨X6.heap.size, 0, none⟩) 2 2) (w1 := X6.alloc (.cells #[.slice ad4 n4.length cp4, .slice ad6 n6.length cp6] 53)) rfl (by kernel_rfl) rfl rfl (by simp [go_sem]) ⟨A8.out.1.c0, cq9⟩ (by simp [go_sem]; exact rfl) ?_
      generalize X6.alloc (.cells #[.slice ad4 n4.length cp4, .slice ad6 n6.length cp6] 53) = X8 at *
      refine pick_enter (i := 20) (f := 55) (args := #[.agg #[.int .i64 kv, .int .i64 0, .string ⟨#[]⟩, .string ⟨#[]⟩, .string ⟨#[]⟩, .int .i64 0], .slice (some ⟨X6.heap.size, 0, none⟩) 2 2]) rfl (by kernel_rfl) rfl rfl (by simp [go_sem]) ?_
      refine (A8.out.put_kids kv 0 0 ⟨#[]⟩ ⟨#[]⟩ ⟨#[]⟩ KV.out ⟨brief_none, brief_none, brief_none⟩ (by simp) (by have := A8.out.bound HF.out (by omega) (by decide); have := N4.out.2; have := N6.out.2; simp [flatL]; omega)).mono ?_
      rintro e X10 ⟨v10, n10, rfl, hn10, hl10, ha, hg⟩
      have A10 := hid ha
      have G10 := hid hg
      clear ha hg
      have N10 := hid (And.intro hn10 hl10)
      clear hn10 hl10
      have cq11 := ((G4.out.trans (G6.out.trans (G8.out.trans G10.out))).cell (p := ⟨q, m2.toNat, none⟩) ⟨heap_lt RBn.out, (show q ≠ d.B by have := HQ.out.1; omega), (show q ≠ d.G by have := HQ.out.2; omega)⟩).trans cq
      refine ⟨_, rfl, ⟨A10.out.1.c0, cq11⟩, ?_⟩
      refine pick_frame (by simp [go_sem]; exact rfl) ?_
      refine pick_op (i := 21) (v := v10) (by kernel_rfl) rfl (by kernel_rfl) (by kernel_rfl) rfl rfl (fun w' hw => by simp [go_sem]) ⟨A10.out.1.c0, cq11⟩ (by simp [go_sem]; exact rfl) ?_
      refine pick_end (by kernel_rfl) ?_
      go_wp2_with fail
      go_ret
      exact A10.out.done 1 N10.out.1 (by have := N10.out.2; have := N4.out.2; have := N6.out.2; simp [flatL] at *; omega) (by omega)
    · refine ⟨_, 38, #[.pointer (some ⟨d.G, 0, none⟩), .int .i64 1, .slice ad ks.length cp, .slice adm ms.length cpm, .int .i64 deep], rfl, rfl, by simp [go_sem], ?_⟩
      refine (A2.out.nodes (HO.out deep 1 _ _ _ _ _ _ (by have := HD.out; omega) (by have := HD.out; omega) (A2.out.fit HF.out 10 (by omega)) A2.out.1 (HE.out.grew (G1.out.trans G2.out)).down)).mono ?_
      rintro e X3 ⟨v3, n3, s3, t3, rfl, hn3, hl3, ha, hg⟩
      have A3 := hid ha
      have G3 := hid hg
      clear ha hg
      have N3 := hid (And.intro hn3 hl3)
      obtain ⟨ad3, cp3, rfl⟩ := hn3.is
      clear hn3 hl3
      refine ⟨_, rfl, (A3.out.1.c0), ?_⟩
      refine pick_frame (by simp [go_sem]; exact rfl) ?_
      refine pick_either (i := 0) (j := 18) (by kernel_rfl) ?_ ?_
      · have RB := hid (MapKept.heap_alloc X3 (.cells #[.int .i64 14, .int .i64 15] 3)).1
        have HQ := hid (And.intro A3.out.1.ltB A3.out.1.ltG)
        have A4 := hid (A3.out.alloc (.cells #[.int .i64 14, .int .i64 15] 3))
        have G4 := hid ((Grew.refl d X3).alloc (.cells #[.int .i64 14, .int .i64 15] 3))
        refine ⟨_, .slice (some ⟨X3.heap.size, 0, none⟩) 2 2, X3.alloc (.cells #[.int .i64 14, .int .i64 15] 3), rfl, rfl, by simp [go_sem], A4.out.1.c0, ?_⟩
        refine pick_frame (by simp [go_sem]; exact rfl) ?_
        generalize X3.alloc (.cells #[.int .i64 14, .int .i64 15] 3) = X4 at *
        obtain ⟨q, hq⟩ : ∃ q, X3.heap.size = q := ⟨_, rfl⟩
        rw [hq] at RB HQ ⊢
        clear hq
        obtain ⟨kv, hkv⟩ := two_get 14 15 m2 hm2 hM2
        have cq := (cell_of_heap RB.out m2.toNat).trans hkv
        have RBn := hid RB.out
        clear hkv
        refine pick_op (i := 6) (v := .pointer (some ⟨q, m2.toNat, none⟩)) (by kernel_rfl) rfl (by kernel_rfl) (by kernel_rfl) rfl rfl (fun w' hw => by simp [go_sem, hm2, hM2]) (A4.out.1.c0) (by simp [go_sem]; exact rfl) ?_
        refine pick_more (fun w' => w'.cell? ⟨d.G, 0, none⟩ = some (.pointer (some ⟨d.B, 0, none⟩)) ∧ w'.cell? ⟨q, m2.toNat, none⟩ = some (.int .i64 kv)) (fun w h => h.1) ?_
        refine pick_op (i := 7) (v := .int .i64 kv) (by kernel_rfl) rfl (by kernel_rfl) (by kernel_rfl) rfl rfl (fun w' hw => by simp [go_sem, hw.2]) ⟨A4.out.1.c0, cq⟩ (by simp [go_sem]; exact rfl) ?_
        refine pick_op (i := 8) (v := .agg #[.int .i64 kv, .int .i64 0, .string ⟨#[]⟩, .string ⟨#[]⟩, .string ⟨#[]⟩, .int .i64 0]) (by kernel_rfl) rfl (by kernel_rfl) (by kernel_rfl) rfl rfl (fun w' hw => by simp [go_sem]) ⟨A4.out.1.c0, cq⟩ (by simp [go_sem]; exact rfl) ?_
        refine pick_enter (i := 18) (f := 38) (args := #[.pointer (some ⟨d.G, 0, none⟩), .int .i64 1, .slice ad ks.length cp, .slice adm ms.length cpm, .int .i64 deep]) rfl (by kernel_rfl) rfl rfl (by simp [go_sem]) ?_
        refine (A4.out.nodes (HO.out deep 1 _ _ _ _ _ _ (by have := HD.out; omega) (by have := HD.out; omega) (A4.out.fit HF.out 10 (by omega)) A4.out.1 (HE.out.grew (G1.out.trans (G2.out.trans (G3.out.trans G4.out)))).down)).mono ?_
        rintro e X5 ⟨v5, n5, s5, t5, rfl, hn5, hl5, ha, hg⟩
        have A5 := hid ha
        have G5 := hid hg
        clear ha hg
        have N5 := hid (And.intro hn5 hl5)
        obtain ⟨ad5, cp5, rfl⟩ := hn5.is
        clear hn5 hl5
        have cq6 := (G5.out.cell (p := ⟨q, m2.toNat, none⟩) ⟨heap_lt RBn.out, (show q ≠ d.B by have := HQ.out.1; omega), (show q ≠ d.G by have := HQ.out.2; omega)⟩).trans cq
        refine ⟨_, rfl, ⟨A5.out.1.c0, cq6⟩, ?_⟩
        refine pick_frame (by simp [go_sem]; exact rfl) ?_
        have KV : Hid (KidsV d (X5.alloc (.cells #[.slice ad3 n3.length cp3, .slice ad5 n5.length cp5] 53)) (.slice (some ⟨X5.heap.size, 0, none⟩) 2 2) [(.slice ad3 n3.length cp3, n3), (.slice ad5 n5.length cp5, n5)]) := (kids_lit [(.slice ad3 n3.length cp3, n3), (.slice ad5 n5.length cp5, n5)] _ rfl A5.out.1.ltB A5.out.1.ltG (fun x hx => by simp at hx; rcases hx with rfl | rfl; exact (N3.out.1.grew (G4.out.trans G5.out)); exact N5.out.1))
        have A7 := hid (A5.out.alloc (.cells #[.slice ad3 n3.length cp3, .slice ad5 n5.length cp5] 53))
        have G7 := hid ((Grew.refl d X5).alloc (.cells #[.slice ad3 n3.length cp3, .slice ad5 n5.length cp5] 53))
        have cq8 := ((G5.out.trans G7.out).cell (p := ⟨q, m2.toNat, none⟩) ⟨heap_lt RBn.out, (show q ≠ d.B by have := HQ.out.1; omega), (show q ≠ d.G by have := HQ.out.2; omega)⟩).trans cq
        refine pick_make (i := 19) (v := .slice (some ⟨X5.heap.size, 0, none⟩) 2 2) (w1 := X5.alloc (.cells #[.slice ad3 n3.length cp3, .slice ad5 n5.length cp5] 53)) rfl (by kernel_rfl) rfl rfl (by simp [go_sem]) ⟨A7.out.1.c0, cq8⟩ (by simp [go_sem]; exact rfl) ?_
        generalize X5.alloc (.cells #[.slice ad3 n3.length cp3, .slice ad5 n5.length cp5] 53) = X7 at *
        refine pick_enter (i := 20) (f := 55) (args := #[.agg #[.int .i64 kv, .int .i64 0, .string ⟨#[]⟩, .string ⟨#[]⟩, .string ⟨#[]⟩, .int .i64 0], .slice (some ⟨X5.heap.size, 0, none⟩) 2 2]) rfl (by kernel_rfl) rfl rfl (by simp [go_sem]) ?_
        refine (A7.out.put_kids kv 0 0 ⟨#[]⟩ ⟨#[]⟩ ⟨#[]⟩ KV.out ⟨brief_none, brief_none, brief_none⟩ (by simp) (by have := A7.out.bound HF.out (by omega) (by decide); have := N3.out.2; have := N5.out.2; simp [flatL]; omega)).mono ?_
        rintro e X9 ⟨v9, n9, rfl, hn9, hl9, ha, hg⟩
        have A9 := hid ha
        have G9 := hid hg
        clear ha hg
        have N9 := hid (And.intro hn9 hl9)
        clear hn9 hl9
        have cq10 := ((G5.out.trans (G7.out.trans G9.out)).cell (p := ⟨q, m2.toNat, none⟩) ⟨heap_lt RBn.out, (show q ≠ d.B by have := HQ.out.1; omega), (show q ≠ d.G by have := HQ.out.2; omega)⟩).trans cq
        refine ⟨_, rfl, ⟨A9.out.1.c0, cq10⟩, ?_⟩
        refine pick_frame (by simp [go_sem]; exact rfl) ?_
        refine pick_op (i := 21) (v := v9) (by kernel_rfl) rfl (by kernel_rfl) (by kernel_rfl) rfl rfl (fun w' hw => by simp [go_sem]) ⟨A9.out.1.c0, cq10⟩ (by simp [go_sem]; exact rfl) ?_
        refine pick_end (by kernel_rfl) ?_
        go_wp2_with fail
        go_ret
        exact A9.out.done 1 N9.out.1 (by have := N9.out.2; have := N3.out.2; have := N5.out.2; simp [flatL] at *; omega) (by omega)
      · refine ⟨_, 38, #[.pointer (some ⟨d.G, 0, none⟩), .int .i64 1, .slice ad ks.length cp, .slice adm ms.length cpm, .int .i64 deep], rfl, rfl, by simp [go_sem], ?_⟩
        refine (A3.out.nodes (HO.out deep 1 _ _ _ _ _ _ (by have := HD.out; omega) (by have := HD.out; omega) (A3.out.fit HF.out 10 (by omega)) A3.out.1 (HE.out.grew (G1.out.trans (G2.out.trans G3.out))).down)).mono ?_
        rintro e X4 ⟨v4, n4, s4, t4, rfl, hn4, hl4, ha, hg⟩
        have A4 := hid ha
        have G4 := hid hg
        clear ha hg
        have N4 := hid (And.intro hn4 hl4)
        obtain ⟨ad4, cp4, rfl⟩ := hn4.is
        clear hn4 hl4
        refine ⟨_, rfl, (A4.out.1.c0), ?_⟩
        refine pick_frame (by simp [go_sem]; exact rfl) ?_
        refine pick_fork (i := 0) (j := 19) (by kernel_rfl) ?_ ?_
        · have RB := hid (MapKept.heap_alloc X4 (.cells #[.int .i64 14, .int .i64 15] 3)).1
          have HQ := hid (And.intro A4.out.1.ltB A4.out.1.ltG)
          have A5 := hid (A4.out.alloc (.cells #[.int .i64 14, .int .i64 15] 3))
          have G5 := hid ((Grew.refl d X4).alloc (.cells #[.int .i64 14, .int .i64 15] 3))
          refine ⟨_, .slice (some ⟨X4.heap.size, 0, none⟩) 2 2, X4.alloc (.cells #[.int .i64 14, .int .i64 15] 3), rfl, rfl, by simp [go_sem], A5.out.1.c0, ?_⟩
          refine pick_frame (by simp [go_sem]; exact rfl) ?_
          generalize X4.alloc (.cells #[.int .i64 14, .int .i64 15] 3) = X5 at *
          obtain ⟨q, hq⟩ : ∃ q, X4.heap.size = q := ⟨_, rfl⟩
          rw [hq] at RB HQ ⊢
          clear hq
          obtain ⟨kv, hkv⟩ := two_get 14 15 m2 hm2 hM2
          have cq := (cell_of_heap RB.out m2.toNat).trans hkv
          have RBn := hid RB.out
          clear hkv
          refine pick_op (i := 6) (v := .pointer (some ⟨q, m2.toNat, none⟩)) (by kernel_rfl) rfl (by kernel_rfl) (by kernel_rfl) rfl rfl (fun w' hw => by simp [go_sem, hm2, hM2]) (A5.out.1.c0) (by simp [go_sem]; exact rfl) ?_
          refine pick_more (fun w' => w'.cell? ⟨d.G, 0, none⟩ = some (.pointer (some ⟨d.B, 0, none⟩)) ∧ w'.cell? ⟨q, m2.toNat, none⟩ = some (.int .i64 kv)) (fun w h => h.1) ?_
          refine pick_op (i := 7) (v := .int .i64 kv) (by kernel_rfl) rfl (by kernel_rfl) (by kernel_rfl) rfl rfl (fun w' hw => by simp [go_sem, hw.2]) ⟨A5.out.1.c0, cq⟩ (by simp [go_sem]; exact rfl) ?_
          refine pick_op (i := 8) (v := .agg #[.int .i64 kv, .int .i64 0, .string ⟨#[]⟩, .string ⟨#[]⟩, .string ⟨#[]⟩, .int .i64 0]) (by kernel_rfl) rfl (by kernel_rfl) (by kernel_rfl) rfl rfl (fun w' hw => by simp [go_sem]) ⟨A5.out.1.c0, cq⟩ (by simp [go_sem]; exact rfl) ?_
          have KV : Hid (KidsV d (X5.alloc (.cells #[.slice ad3 n3.length cp3, .slice ad4 n4.length cp4] 53)) (.slice (some ⟨X5.heap.size, 0, none⟩) 2 2) [(.slice ad3 n3.length cp3, n3), (.slice ad4 n4.length cp4, n4)]) := (kids_lit [(.slice ad3 n3.length cp3, n3), (.slice ad4 n4.length cp4, n4)] _ rfl A5.out.1.ltB A5.out.1.ltG (fun x hx => by simp at hx; rcases hx with rfl | rfl; exact (N3.out.1.grew (G4.out.trans G5.out)); exact (N4.out.1.grew G5.out)))
          have A6 := hid (A5.out.alloc (.cells #[.slice ad3 n3.length cp3, .slice ad4 n4.length cp4] 53))
          have G6 := hid ((Grew.refl d X5).alloc (.cells #[.slice ad3 n3.length cp3, .slice ad4 n4.length cp4] 53))
          have cq7 := (G6.out.cell (p := ⟨q, m2.toNat, none⟩) ⟨heap_lt RBn.out, (show q ≠ d.B by have := HQ.out.1; omega), (show q ≠ d.G by have := HQ.out.2; omega)⟩).trans cq
          refine pick_make (i := 19) (v := .slice (some ⟨X5.heap.size, 0, none⟩) 2 2) (w1 := X5.alloc (.cells #[.slice ad3 n3.length cp3, .slice ad4 n4.length cp4] 53)) rfl (by kernel_rfl) rfl rfl (by simp [go_sem]) ⟨A6.out.1.c0, cq7⟩ (by simp [go_sem]; exact rfl) ?_
          generalize X5.alloc (.cells #[.slice ad3 n3.length cp3, .slice ad4 n4.length cp4] 53) = X6 at *
          refine pick_enter (i := 20) (f := 55) (args := #[.agg #[.int .i64 kv, .int .i64 0, .string ⟨#[]⟩, .string ⟨#[]⟩, .string ⟨#[]⟩, .int .i64 0], .slice (some ⟨X5.heap.size, 0, none⟩) 2 2]) rfl (by kernel_rfl) rfl rfl (by simp [go_sem]) ?_
          refine (A6.out.put_kids kv 0 0 ⟨#[]⟩ ⟨#[]⟩ ⟨#[]⟩ KV.out ⟨brief_none, brief_none, brief_none⟩ (by simp) (by have := A6.out.bound HF.out (by omega) (by decide); have := N3.out.2; have := N4.out.2; simp [flatL]; omega)).mono ?_
          rintro e X8 ⟨v8, n8, rfl, hn8, hl8, ha, hg⟩
          have A8 := hid ha
          have G8 := hid hg
          clear ha hg
          have N8 := hid (And.intro hn8 hl8)
          clear hn8 hl8
          have cq9 := ((G6.out.trans G8.out).cell (p := ⟨q, m2.toNat, none⟩) ⟨heap_lt RBn.out, (show q ≠ d.B by have := HQ.out.1; omega), (show q ≠ d.G by have := HQ.out.2; omega)⟩).trans cq
          refine ⟨_, rfl, ⟨A8.out.1.c0, cq9⟩, ?_⟩
          refine pick_frame (by simp [go_sem]; exact rfl) ?_
          refine pick_op (i := 21) (v := v8) (by kernel_rfl) rfl (by kernel_rfl) (by kernel_rfl) rfl rfl (fun w' hw => by simp [go_sem]) ⟨A8.out.1.c0, cq9⟩ (by simp [go_sem]; exact rfl) ?_
          refine pick_end (by kernel_rfl) ?_
          go_wp2_with fail
          go_ret
          exact A8.out.done 1 N8.out.1 (by have := N8.out.2; have := N3.out.2; have := N4.out.2; simp [flatL] at *; omega) (by omega)
        · have KV : Hid (KidsV d (X4.alloc (.cells #[.slice ad3 n3.length cp3, .slice ad4 n4.length cp4] 53)) (.slice (some ⟨X4.heap.size, 0, none⟩) 2 2) [(.slice ad3 n3.length cp3, n3), (.slice ad4 n4.length cp4, n4)]) := (kids_lit [(.slice ad3 n3.length cp3, n3), (.slice ad4 n4.length cp4, n4)] _ rfl A4.out.1.ltB A4.out.1.ltG (fun x hx => by simp at hx; rcases hx with rfl | rfl; exact (N3.out.1.grew G4.out); exact N4.out.1))
          have A5 := hid (A4.out.alloc (.cells #[.slice ad3 n3.length cp3, .slice ad4 n4.length cp4] 53))
          have G5 := hid ((Grew.refl d X4).alloc (.cells #[.slice ad3 n3.length cp3, .slice ad4 n4.length cp4] 53))
          refine ⟨_, .slice (some ⟨X4.heap.size, 0, none⟩) 2 2, X4.alloc (.cells #[.slice ad3 n3.length cp3, .slice ad4 n4.length cp4] 53), rfl, rfl, by simp [go_sem], (A5.out.1.c0), ?_⟩
          refine pick_frame (by simp [go_sem]; exact rfl) ?_
          generalize X4.alloc (.cells #[.slice ad3 n3.length cp3, .slice ad4 n4.length cp4] 53) = X5 at *
          have RB := hid (MapKept.heap_alloc X5 (.cells #[.int .i64 14, .int .i64 15] 3)).1
          have HQ := hid (And.intro A5.out.1.ltB A5.out.1.ltG)
          have A6 := hid (A5.out.alloc (.cells #[.int .i64 14, .int .i64 15] 3))
          have G6 := hid ((Grew.refl d X5).alloc (.cells #[.int .i64 14, .int .i64 15] 3))
          refine pick_make (i := 0) (v := .slice (some ⟨X5.heap.size, 0, none⟩) 2 2) (w1 := X5.alloc (.cells #[.int .i64 14, .int .i64 15] 3)) rfl (by kernel_rfl) rfl rfl (by simp [go_sem]) A6.out.1.c0 (by simp [go_sem]; exact rfl) ?_
          generalize X5.alloc (.cells #[.int .i64 14, .int .i64 15] 3) = X6 at *
          obtain ⟨q, hq⟩ : ∃ q, X5.heap.size = q := ⟨_, rfl⟩
          rw [hq] at RB HQ ⊢
          clear hq
          obtain ⟨kv, hkv⟩ := two_get 14 15 m2 hm2 hM2
          have cq := (cell_of_heap RB.out m2.toNat).trans hkv
          have RBn := hid RB.out
          clear hkv
          refine pick_op (i := 6) (v := .pointer (some ⟨q, m2.toNat, none⟩)) (by kernel_rfl) rfl (by kernel_rfl) (by kernel_rfl) rfl rfl (fun w' hw => by simp [go_sem, hm2, hM2]) (A6.out.1.c0) (by simp [go_sem]; exact rfl) ?_
          refine pick_more (fun w' => w'.cell? ⟨d.G, 0, none⟩ = some (.pointer (some ⟨d.B, 0, none⟩)) ∧ w'.cell? ⟨q, m2.toNat, none⟩ = some (.int .i64 kv)) (fun w h => h.1) ?_
          refine pick_op (i := 7) (v := .int .i64 kv) (by kernel_rfl) rfl (by kernel_rfl) (by kernel_rfl) rfl rfl (fun w' hw => by simp [go_sem, hw.2]) ⟨A6.out.1.c0, cq⟩ (by simp [go_sem]; exact rfl) ?_
          refine pick_op (i := 8) (v := .agg #[.int .i64 kv, .int .i64 0, .string ⟨#[]⟩, .string ⟨#[]⟩, .string ⟨#[]⟩, .int .i64 0]) (by kernel_rfl) rfl (by kernel_rfl) (by kernel_rfl) rfl rfl (fun w' hw => by simp [go_sem]) ⟨A6.out.1.c0, cq⟩ (by simp [go_sem]; exact rfl) ?_
          refine pick_enter (i := 20) (f := 55) (args := #[.agg #[.int .i64 kv, .int .i64 0, .string ⟨#[]⟩, .string ⟨#[]⟩, .string ⟨#[]⟩, .int .i64 0], .slice (some ⟨X4.heap.size, 0, none⟩) 2 2]) rfl (by kernel_rfl) rfl rfl (by simp [go_sem]) ?_
          refine (A6.out.put_kids kv 0 0 ⟨#[]⟩ ⟨#[]⟩ ⟨#[]⟩ (KV.out.grew G6.out) ⟨brief_none, brief_none, brief_none⟩ (by simp) (by have := A6.out.bound HF.out (by omega) (by decide); have := N3.out.2; have := N4.out.2; simp [flatL]; omega)).mono ?_
          rintro e X7 ⟨v7, n7, rfl, hn7, hl7, ha, hg⟩
          have A7 := hid ha
          have G7 := hid hg
          clear ha hg
          have N7 := hid (And.intro hn7 hl7)
          clear hn7 hl7
          have cq8 := (G7.out.cell (p := ⟨q, m2.toNat, none⟩) ⟨heap_lt RBn.out, (show q ≠ d.B by have := HQ.out.1; omega), (show q ≠ d.G by have := HQ.out.2; omega)⟩).trans cq
          refine ⟨_, rfl, ⟨A7.out.1.c0, cq8⟩, ?_⟩
          refine pick_frame (by simp [go_sem]; exact rfl) ?_
          refine pick_op (i := 21) (v := v7) (by kernel_rfl) rfl (by kernel_rfl) (by kernel_rfl) rfl rfl (fun w' hw => by simp [go_sem]) ⟨A7.out.1.c0, cq8⟩ (by simp [go_sem]; exact rfl) ?_
          refine pick_end (by kernel_rfl) ?_
          go_wp2_with fail
          go_ret
          exact A7.out.done 1 N7.out.1 (by have := N7.out.2; have := N3.out.2; have := N4.out.2; simp [flatL] at *; omega) (by omega)

set_option maxHeartbeats 8000000 in
set_option maxRecDepth 100000 in
/-- A unit. -/
theorem own3 {d : Dr} {ve v vm : Value} {es : List Ef} {W : World} {s : Cn} {ks : List Kn} {ms : List Bool} {D : Nat} (ty : Int) (ht : ty = 3) (deep : Int) (hO : OfC d ve es D) (h1 : deep ≤ D) (h2 : -90 ≤ deep) (h3 : D ≤ 100) (h : Gen d ve W s) (hf : Fit s 100) (hE : Env d ve es W v ks vm ms (D + 1)) :
    Calls Try.prog 61 #[.pointer (some ⟨d.G, 0, none⟩), .int .i64 ty, v, vm, .int .i64 deep] W (NodesPost d ve W s 100) := by
  have HF := hid hf
  have HO := hid hO
  have A0 := hid (At.start h)
  have HE := hid hE
  have HD := hid (And.intro h1 (And.intro h2 h3))
  have hdu : deep ≤ 1000 := by omega
  obtain ⟨ad, cp, rfl⟩ := hE.know.is
  obtain ⟨adm, cpm, rfl⟩ := hE.may.is
  clear hO h1 h3 h hf hE
  subst ht
  go_enter Try.func61, Try.ntmps61
  go_wp2_with fail
  refine (A0.out.nodes (HO.out deep 1 _ _ _ _ _ _ (by have := HD.out; omega) (by have := HD.out; omega) (A0.out.fit HF.out 10 (by omega)) A0.out.1 HE.out.down)).mono ?_
  rintro e X1 ⟨v1, n1, s1, t1, rfl, hn1, hl1, ha, hg⟩
  have A1 := hid ha
  have G1 := hid hg
  clear ha hg
  have N1 := hid (And.intro hn1 hl1)
  obtain ⟨ad1, cp1, rfl⟩ := hn1.is
  clear hn1 hl1
  go_wp2_with fail
  refine (A1.out.put1 21 0 0 ByteArray.empty ByteArray.empty ByteArray.empty N1.out.1 ⟨brief_none, brief_none, brief_none⟩ (by have := A1.out.bound HF.out (by omega) (by decide); have := N1.out.2; omega)).mono ?_
  rintro e X2 ⟨v2, n2, rfl, hn2, hl2, ha, hg⟩
  have A2 := hid ha
  have G2 := hid hg
  clear ha hg
  have N2 := hid (And.intro hn2 hl2)
  obtain ⟨ad2, cp2, rfl⟩ := hn2.is
  clear hn2 hl2
  go_wp2_with fail
  go_ret
  exact A2.out.done 1 N2.out.1 (by have := N2.out.2; have := N1.out.2; omega) (by omega)

set_option maxHeartbeats 8000000 in
set_option maxRecDepth 100000 in
/-- A list. -/
theorem own4 {d : Dr} {ve v vm : Value} {es : List Ef} {W : World} {s : Cn} {ks : List Kn} {ms : List Bool} {D : Nat} (ty : Int) (ht : ty = 4) (deep : Int) (hO : OfC d ve es D) (h1 : deep ≤ D) (h2 : -90 ≤ deep) (h3 : D ≤ 100) (h : Gen d ve W s) (hf : Fit s 100) (hE : Env d ve es W v ks vm ms (D + 1)) :
    Calls Try.prog 61 #[.pointer (some ⟨d.G, 0, none⟩), .int .i64 ty, v, vm, .int .i64 deep] W (NodesPost d ve W s 100) := by
  have HF := hid hf
  have HO := hid hO
  have A0 := hid (At.start h)
  have HE := hid hE
  have HD := hid (And.intro h1 (And.intro h2 h3))
  have hdu : deep ≤ 1000 := by omega
  obtain ⟨ad, cp, rfl⟩ := hE.know.is
  obtain ⟨adm, cpm, rfl⟩ := hE.may.is
  clear hO h1 h3 h hf hE
  subst ht
  go_enter Try.func61, Try.ntmps61
  go_wp2_with fail
  refine (A0.out.nodes (HO.out deep 1 _ _ _ _ _ _ (by have := HD.out; omega) (by have := HD.out; omega) (A0.out.fit HF.out 10 (by omega)) A0.out.1 HE.out.down)).mono ?_
  rintro e X1 ⟨v1, n1, s1, t1, rfl, hn1, hl1, ha, hg⟩
  have A1 := hid ha
  have G1 := hid hg
  clear ha hg
  have N1 := hid (And.intro hn1 hl1)
  obtain ⟨ad1, cp1, rfl⟩ := hn1.is
  clear hn1 hl1
  go_wp2_with fail
  refine (A1.out.nodes (HO.out deep 4 _ _ _ _ _ _ (by have := HD.out; omega) (by have := HD.out; omega) (A1.out.fit HF.out 10 (by omega)) A1.out.1 (HE.out.grew G1.out).down)).mono ?_
  rintro e X2 ⟨v2, n2, s2, t2, rfl, hn2, hl2, ha, hg⟩
  have A2 := hid ha
  have G2 := hid hg
  clear ha hg
  have N2 := hid (And.intro hn2 hl2)
  obtain ⟨ad2, cp2, rfl⟩ := hn2.is
  clear hn2 hl2
  go_wp2_with fail
  refine (A2.out.put2 19 0 0 ByteArray.empty ByteArray.empty ByteArray.empty (N1.out.1.grew G2.out) N2.out.1 ⟨brief_none, brief_none, brief_none⟩ (by have := A2.out.bound HF.out (by omega) (by decide); have := N1.out.2; have := N2.out.2; omega)).mono ?_
  rintro e X3 ⟨v3, n3, rfl, hn3, hl3, ha, hg⟩
  have A3 := hid ha
  have G3 := hid hg
  clear ha hg
  have N3 := hid (And.intro hn3 hl3)
  obtain ⟨ad3, cp3, rfl⟩ := hn3.is
  clear hn3 hl3
  go_wp2_with fail
  go_ret
  exact A3.out.done 1 N3.out.1 (by have := N3.out.2; have := N1.out.2; have := N2.out.2; omega) (by omega)

set_option maxHeartbeats 8000000 in
set_option maxRecDepth 100000 in
/-- A function. -/
theorem own5 {d : Dr} {ve v vm : Value} {es : List Ef} {W : World} {s : Cn} {ks : List Kn} {ms : List Bool} {D : Nat} (ty : Int) (hn1 : ty ≠ 1) (hn2 : ty ≠ 2) (hn3 : ty ≠ 3) (hn4 : ty ≠ 4) (deep : Int) (hO : OfC d ve es D) (h1 : deep ≤ D) (h2 : -90 ≤ deep) (h3 : D ≤ 100) (h : Gen d ve W s) (hf : Fit s 100) (hE : Env d ve es W v ks vm ms (D + 1)) :
    Calls Try.prog 61 #[.pointer (some ⟨d.G, 0, none⟩), .int .i64 ty, v, vm, .int .i64 deep] W (NodesPost d ve W s 100) := by
  have HF := hid hf
  have HO := hid hO
  have A0 := hid (At.start h)
  have HE := hid hE
  have HD := hid (And.intro h1 (And.intro h2 h3))
  have hdu : deep ≤ 1000 := by omega
  obtain ⟨ad, cp, rfl⟩ := hE.know.is
  obtain ⟨adm, cpm, rfl⟩ := hE.may.is
  clear hO h1 h3 h hf hE
  have e1 : (ty == 1) = false := by simp [hn1]
  have e2 : (ty == 2) = false := by simp [hn2]
  have e3 : (ty == 3) = false := by simp [hn3]
  have e4 : (ty == 4) = false := by simp [hn4]
  clear hn1 hn2 hn3 hn4
  go_enter Try.func61, Try.ntmps61
  go_wp2_with fail
  refine (A0.out.name HF.out (by omega)).mono ?_
  rintro e X1 ⟨x1, s1, rfl, hb1, ha, hg⟩
  have A1 := hid ha
  have G1 := hid hg
  clear ha hg
  have B1 := hid hb1
  clear hb1
  go_wp2_with fail
  refine (A1.out.add x1 1 0 (HE.out.grew G1.out).know B1.out (by have := HE.out.room; omega)).mono ?_
  rintro e X2 ⟨u2, ks2, rfl, hk2, hkl2, ha, hg⟩
  have A2 := hid ha
  have G2 := hid hg
  clear ha hg
  have K2 := hid (And.intro hk2 hkl2)
  obtain ⟨ad2, cp2, rfl⟩ := hk2.is
  clear hk2 hkl2
  go_wp2_with fail
  refine (A2.out.nodes (HO.out deep 1 _ _ _ _ _ _ (by have := HD.out; omega) (by have := HD.out; omega) (A2.out.fit HF.out 10 (by omega)) A2.out.1 ((HE.out.grew (G1.out.trans G2.out)).with K2.out.1 (by have := K2.out.2; omega)))).mono ?_
  rintro e X3 ⟨v3, n3, s3, t3, rfl, hn3, hl3, ha, hg⟩
  have A3 := hid ha
  have G3 := hid hg
  clear ha hg
  have N3 := hid (And.intro hn3 hl3)
  obtain ⟨ad3, cp3, rfl⟩ := hn3.is
  clear hn3 hl3
  go_wp2_with fail
  refine (A3.out.put1 6 0 0 x1 ByteArray.empty ByteArray.empty N3.out.1 ⟨B1.out, brief_none, brief_none⟩ (by have := A3.out.bound HF.out (by omega) (by decide); have := N3.out.2; omega)).mono ?_
  rintro e X4 ⟨v4, n4, rfl, hn4, hl4, ha, hg⟩
  have A4 := hid ha
  have G4 := hid hg
  clear ha hg
  have N4 := hid (And.intro hn4 hl4)
  obtain ⟨ad4, cp4, rfl⟩ := hn4.is
  clear hn4 hl4
  go_wp2_with fail
  go_ret
  exact A4.out.done 1 N4.out.1 (by have := N4.out.2; have := N3.out.2; omega) (by omega)

set_option maxHeartbeats 8000000 in
set_option maxRecDepth 100000 in
/-- A number. -/
theorem own1 {d : Dr} {ve v vm : Value} {es : List Ef} {W : World} {s : Cn} {ks : List Kn} {ms : List Bool} {D : Nat} (ty : Int) (ht : ty = 1) (deep : Int) (hO : OfC d ve es D) (h1 : deep ≤ D) (h2 : -90 ≤ deep) (h3 : D ≤ 100) (h : Gen d ve W s) (hf : Fit s 100) (hE : Env d ve es W v ks vm ms (D + 1)) :
    Calls Try.prog 61 #[.pointer (some ⟨d.G, 0, none⟩), .int .i64 ty, v, vm, .int .i64 deep] W (NodesPost d ve W s 100) := by
  have HF := hid hf
  have HO := hid hO
  have A0 := hid (At.start h)
  have HE := hid hE
  have HD := hid (And.intro h1 (And.intro h2 h3))
  have hdu : deep ≤ 1000 := by omega
  obtain ⟨ad, cp, rfl⟩ := hE.know.is
  obtain ⟨adm, cpm, rfl⟩ := hE.may.is
  clear hO h1 h3 h hf hE
  subst ht
  go_enter Try.func61, Try.ntmps61
  have g0 := A0.out.1.c0
  go_wp2_with fail
  refine (A0.out.pick HF.out (by omega) 6 (by decide)).mono ?_
  rintro e X1 ⟨m1, s1, rfl, hm1, hM1, ha, hg⟩
  have A1 := hid ha
  have G1 := hid hg
  clear ha hg
  clear g0
  have hcs : m1 = 0 ∨ m1 = 1 ∨ m1 = 2 ∨ 3 ≤ m1 := by omega
  rcases hcs with rfl | rfl | rfl | h3
  · go_wp2_with fail
    refine (A1.out.nodes (HO.out deep 5 _ _ _ _ _ _ (by have := HD.out; omega) (by have := HD.out; omega) (A1.out.fit HF.out 10 (by omega)) A1.out.1 (HE.out.grew G1.out).down)).mono ?_
    rintro e X2 ⟨v2, n2, s2, t2, rfl, hn2, hl2, ha, hg⟩
    have A2 := hid ha
    have G2 := hid hg
    clear ha hg
    have N2 := hid (And.intro hn2 hl2)
    obtain ⟨ad2, cp2, rfl⟩ := hn2.is
    clear hn2 hl2
    go_wp2_with fail
    refine (A2.out.nodes (HO.out deep 1 _ _ _ _ _ _ (by have := HD.out; omega) (by have := HD.out; omega) (A2.out.fit HF.out 10 (by omega)) A2.out.1 (HE.out.grew (G1.out.trans G2.out)).down)).mono ?_
    rintro e X3 ⟨v3, n3, s3, t3, rfl, hn3, hl3, ha, hg⟩
    have A3 := hid ha
    have G3 := hid hg
    clear ha hg
    have N3 := hid (And.intro hn3 hl3)
    obtain ⟨ad3, cp3, rfl⟩ := hn3.is
    clear hn3 hl3
    go_wp2_with fail
    refine (A3.out.put2 7 0 0 ByteArray.empty ByteArray.empty ByteArray.empty (N2.out.1.grew G3.out) N3.out.1 ⟨brief_none, brief_none, brief_none⟩ (by have := A3.out.bound HF.out (by omega) (by decide); have := N2.out.2; have := N3.out.2; omega)).mono ?_
    rintro e X4 ⟨v4, n4, rfl, hn4, hl4, ha, hg⟩
    have A4 := hid ha
    have G4 := hid hg
    clear ha hg
    have N4 := hid (And.intro hn4 hl4)
    obtain ⟨ad4, cp4, rfl⟩ := hn4.is
    clear hn4 hl4
    go_wp2_with fail
    go_ret
    exact A4.out.done 1 N4.out.1 (by have := N4.out.2; have := N2.out.2; have := N3.out.2; omega) (by omega)
  · go_wp2_with fail
    refine (A1.out.nodes (loop_calls deep HO.out (by have := HD.out; omega) (by have := HD.out; omega) (by have := HD.out; omega) A1.out.1 (A1.out.fit HF.out 60 (by omega)) (HE.out.grew G1.out))).mono ?_
    rintro e X2 ⟨v2, n2, s2, t2, rfl, hn2, hl2, ha, hg⟩
    have A2 := hid ha
    have G2 := hid hg
    clear ha hg
    have N2 := hid (And.intro hn2 hl2)
    obtain ⟨ad2, cp2, rfl⟩ := hn2.is
    clear hn2 hl2
    go_wp2_with fail
    go_ret
    exact A2.out.done 0 N2.out.1 (by have := N2.out.2; omega) (by omega)
  · go_wp2_with fail
    refine (A1.out.nodes (HO.out deep 1 _ _ _ _ _ _ (by have := HD.out; omega) (by have := HD.out; omega) (A1.out.fit HF.out 10 (by omega)) A1.out.1 (HE.out.grew G1.out).down)).mono ?_
    rintro e X2 ⟨v2, n2, s2, t2, rfl, hn2, hl2, ha, hg⟩
    have A2 := hid ha
    have G2 := hid hg
    clear ha hg
    have N2 := hid (And.intro hn2 hl2)
    obtain ⟨ad2, cp2, rfl⟩ := hn2.is
    clear hn2 hl2
    go_wp2_with fail
    refine (A2.out.nodes (HO.out deep 1 _ _ _ _ _ _ (by have := HD.out; omega) (by have := HD.out; omega) (A2.out.fit HF.out 10 (by omega)) A2.out.1 (HE.out.grew (G1.out.trans G2.out)).down)).mono ?_
    rintro e X3 ⟨v3, n3, s3, t3, rfl, hn3, hl3, ha, hg⟩
    have A3 := hid ha
    have G3 := hid hg
    clear ha hg
    have N3 := hid (And.intro hn3 hl3)
    obtain ⟨ad3, cp3, rfl⟩ := hn3.is
    clear hn3 hl3
    go_wp2_with fail
    refine (A3.out.put2 13 0 0 ByteArray.empty ByteArray.empty ByteArray.empty (N2.out.1.grew G3.out) N3.out.1 ⟨brief_none, brief_none, brief_none⟩ (by have := A3.out.bound HF.out (by omega) (by decide); have := N2.out.2; have := N3.out.2; omega)).mono ?_
    rintro e X4 ⟨v4, n4, rfl, hn4, hl4, ha, hg⟩
    have A4 := hid ha
    have G4 := hid hg
    clear ha hg
    have N4 := hid (And.intro hn4 hl4)
    obtain ⟨ad4, cp4, rfl⟩ := hn4.is
    clear hn4 hl4
    go_wp2_with fail
    go_ret
    exact A4.out.done 1 N4.out.1 (by have := N4.out.2; have := N2.out.2; have := N3.out.2; omega) (by omega)
  · have z0 : (m1 == 0) = false := by simp; omega
    have z1 : (m1 == 1) = false := by simp; omega
    have z2 : (m1 == 2) = false := by simp; omega
    go_upto_region 10 with fail
    refine pick_begin (S := fun w' => w'.cell? ⟨d.G, 0, none⟩ = some (.pointer (some ⟨d.B, 0, none⟩))) (by kernel_rfl) rfl rfl ?_
    have A2 := hid A1.out.drew
    have G2 := hid (Grew.refl d X1).drew
    have hXD : X1.drew = X1.drew := rfl
    generalize X1.drew = X2 at *
    clear hXD
    refine pick_op (i := 1) (v := .pointer (some ⟨d.G, 0, none⟩)) (by kernel_rfl) rfl (by kernel_rfl) (by kernel_rfl) rfl rfl (fun w' hw => by simp [go_sem]) (A2.out.1.c0) (by simp [go_sem]; exact rfl) ?_
    refine pick_op (i := 2) (v := .pointer (some ⟨d.G, 0, none⟩)) (by kernel_rfl) rfl (by kernel_rfl) (by kernel_rfl) rfl rfl (fun w' hw => by simp [go_sem]) (A2.out.1.c0) (by simp [go_sem]; exact rfl) ?_
    refine pick_op (i := 3) (v := .pointer (some ⟨d.G, 0, none⟩)) (by kernel_rfl) rfl (by kernel_rfl) (by kernel_rfl) rfl rfl (fun w' hw => by simp [go_sem]) (A2.out.1.c0) (by simp [go_sem]; exact rfl) ?_
    refine pick_op (i := 4) (v := .pointer (some ⟨d.B, 0, none⟩)) (by kernel_rfl) rfl (by kernel_rfl) (by kernel_rfl) rfl rfl (fun w' hw => by simp [go_sem, hw]) (A2.out.1.c0) (by simp [go_sem]; exact rfl) ?_
    refine pick_op (i := 9) (v := .pointer (some ⟨d.G, 0, none⟩)) (by kernel_rfl) rfl (by kernel_rfl) (by kernel_rfl) rfl rfl (fun w' hw => by simp [go_sem]) (A2.out.1.c0) (by simp [go_sem]; exact rfl) ?_
    refine pick_op (i := 10) (v := .int .i64 1) (by kernel_rfl) rfl (by kernel_rfl) (by kernel_rfl) rfl rfl (fun w' hw => by simp [go_sem]) (A2.out.1.c0) (by simp [go_sem]; exact rfl) ?_
    refine pick_op (i := 11) (v := .slice ad ks.length cp) (by kernel_rfl) rfl (by kernel_rfl) (by kernel_rfl) rfl rfl (fun w' hw => by simp [go_sem]) (A2.out.1.c0) (by simp [go_sem]; exact rfl) ?_
    refine pick_op (i := 12) (v := .slice adm ms.length cpm) (by kernel_rfl) rfl (by kernel_rfl) (by kernel_rfl) rfl rfl (fun w' hw => by simp [go_sem]) (A2.out.1.c0) (by simp [go_sem]; exact rfl) ?_
    refine pick_op (i := 13) (v := .int .i64 deep) (by kernel_rfl) rfl (by kernel_rfl) (by kernel_rfl) rfl rfl (fun w' hw => by simp [go_sem]) (A2.out.1.c0) (by simp [go_sem]; exact rfl) ?_
    refine pick_op (i := 15) (v := .pointer (some ⟨d.G, 0, none⟩)) (by kernel_rfl) rfl (by kernel_rfl) (by kernel_rfl) rfl rfl (fun w' hw => by simp [go_sem]) (A2.out.1.c0) (by simp [go_sem]; exact rfl) ?_
    refine pick_op (i := 16) (v := .int .i64 1) (by kernel_rfl) rfl (by kernel_rfl) (by kernel_rfl) rfl rfl (fun w' hw => by simp [go_sem]) (A2.out.1.c0) (by simp [go_sem]; exact rfl) ?_
    refine pick_op (i := 17) (v := .slice ad ks.length cp) (by kernel_rfl) rfl (by kernel_rfl) (by kernel_rfl) rfl rfl (fun w' hw => by simp [go_sem]) (A2.out.1.c0) (by simp [go_sem]; exact rfl) ?_
    refine pick_op (i := 18) (v := .slice adm ms.length cpm) (by kernel_rfl) rfl (by kernel_rfl) (by kernel_rfl) rfl rfl (fun w' hw => by simp [go_sem]) (A2.out.1.c0) (by simp [go_sem]; exact rfl) ?_
    refine pick_op (i := 19) (v := .int .i64 deep) (by kernel_rfl) rfl (by kernel_rfl) (by kernel_rfl) rfl rfl (fun w' hw => by simp [go_sem]) (A2.out.1.c0) (by simp [go_sem]; exact rfl) ?_
    refine pick_either (i := 0) (j := 5) (by kernel_rfl) ?_ ?_
    · have RB := hid (MapKept.heap_alloc X2 (.cells #[.int .i64 11, .int .i64 12] 3)).1
      have HQ := hid (And.intro A2.out.1.ltB A2.out.1.ltG)
      have A3 := hid (A2.out.alloc (.cells #[.int .i64 11, .int .i64 12] 3))
      have G3 := hid ((Grew.refl d X2).alloc (.cells #[.int .i64 11, .int .i64 12] 3))
      refine ⟨_, .slice (some ⟨X2.heap.size, 0, none⟩) 2 2, X2.alloc (.cells #[.int .i64 11, .int .i64 12] 3), rfl, rfl, by simp [go_sem], A3.out.1.c0, ?_⟩
      refine pick_frame (by simp [go_sem]; exact rfl) ?_
      generalize X2.alloc (.cells #[.int .i64 11, .int .i64 12] 3) = X3 at *
      obtain ⟨q, hq⟩ : ∃ q, X2.heap.size = q := ⟨_, rfl⟩
      rw [hq] at RB HQ ⊢
      clear hq
      refine pick_enter (i := 5) (f := 13) (args := #[.pointer (some ⟨d.B, 0, none⟩), .int .i64 2]) rfl (by kernel_rfl) rfl rfl (by simp [go_sem]) ?_
      refine (A3.out.pick HF.out (by omega) 2 (by decide)).mono ?_
      rintro e X4 ⟨m4, s4, rfl, hm4, hM4, ha, hg⟩
      have A4 := hid ha
      have G4 := hid hg
      clear ha hg
      refine ⟨_, rfl, (A4.out.1.c0), ?_⟩
      refine pick_frame (by simp [go_sem]; exact rfl) ?_
      obtain ⟨kv, hkv⟩ := two_get 11 12 m4 hm4 hM4
      have cq := (cell_of_heap ((G4.out.block q ⟨heap_lt RB.out, (show q ≠ d.B by have := HQ.out.1; omega), (show q ≠ d.G by have := HQ.out.2; omega)⟩).trans RB.out) m4.toNat).trans hkv
      have RBn := hid ((G4.out.block q ⟨heap_lt RB.out, (show q ≠ d.B by have := HQ.out.1; omega), (show q ≠ d.G by have := HQ.out.2; omega)⟩).trans RB.out)
      clear hkv
      refine pick_op (i := 6) (v := .pointer (some ⟨q, m4.toNat, none⟩)) (by kernel_rfl) rfl (by kernel_rfl) (by kernel_rfl) rfl rfl (fun w' hw => by simp [go_sem, hm4, hM4]) (A4.out.1.c0) (by simp [go_sem]; exact rfl) ?_
      refine pick_more (fun w' => w'.cell? ⟨d.G, 0, none⟩ = some (.pointer (some ⟨d.B, 0, none⟩)) ∧ w'.cell? ⟨q, m4.toNat, none⟩ = some (.int .i64 kv)) (fun w h => h.1) ?_
      refine pick_op (i := 7) (v := .int .i64 kv) (by kernel_rfl) rfl (by kernel_rfl) (by kernel_rfl) rfl rfl (fun w' hw => by simp [go_sem, hw.2]) ⟨A4.out.1.c0, cq⟩ (by simp [go_sem]; exact rfl) ?_
      refine pick_op (i := 8) (v := .agg #[.int .i64 kv, .int .i64 0, .string ⟨#[]⟩, .string ⟨#[]⟩, .string ⟨#[]⟩, .int .i64 0]) (by kernel_rfl) rfl (by kernel_rfl) (by kernel_rfl) rfl rfl (fun w' hw => by simp [go_sem]) ⟨A4.out.1.c0, cq⟩ (by simp [go_sem]; exact rfl) ?_
      refine pick_enter (i := 14) (f := 38) (args := #[.pointer (some ⟨d.G, 0, none⟩), .int .i64 1, .slice ad ks.length cp, .slice adm ms.length cpm, .int .i64 deep]) rfl (by kernel_rfl) rfl rfl (by simp [go_sem]) ?_
      refine (A4.out.nodes (HO.out deep 1 _ _ _ _ _ _ (by have := HD.out; omega) (by have := HD.out; omega) (A4.out.fit HF.out 10 (by omega)) A4.out.1 (HE.out.grew (G1.out.trans (G2.out.trans (G3.out.trans G4.out)))).down)).mono ?_
      rintro e X5 ⟨v5, n5, s5, t5, rfl, hn5, hl5, ha, hg⟩
      have A5 := hid ha
      have G5 := hid hg
      clear ha hg
      have N5 := hid (And.intro hn5 hl5)
      obtain ⟨ad5, cp5, rfl⟩ := hn5.is
      clear hn5 hl5
      have cq6 := (G5.out.cell (p := ⟨q, m4.toNat, none⟩) ⟨heap_lt RBn.out, (show q ≠ d.B by have := HQ.out.1; omega), (show q ≠ d.G by have := HQ.out.2; omega)⟩).trans cq
      refine ⟨_, rfl, ⟨A5.out.1.c0, cq6⟩, ?_⟩
      refine pick_frame (by simp [go_sem]; exact rfl) ?_
      refine pick_enter (i := 20) (f := 38) (args := #[.pointer (some ⟨d.G, 0, none⟩), .int .i64 1, .slice ad ks.length cp, .slice adm ms.length cpm, .int .i64 deep]) rfl (by kernel_rfl) rfl rfl (by simp [go_sem]) ?_
      refine (A5.out.nodes (HO.out deep 1 _ _ _ _ _ _ (by have := HD.out; omega) (by have := HD.out; omega) (A5.out.fit HF.out 10 (by omega)) A5.out.1 (HE.out.grew (G1.out.trans (G2.out.trans (G3.out.trans (G4.out.trans G5.out))))).down)).mono ?_
      rintro e X7 ⟨v7, n7, s7, t7, rfl, hn7, hl7, ha, hg⟩
      have A7 := hid ha
      have G7 := hid hg
      clear ha hg
      have N7 := hid (And.intro hn7 hl7)
      obtain ⟨ad7, cp7, rfl⟩ := hn7.is
      clear hn7 hl7
      have cq8 := ((G5.out.trans G7.out).cell (p := ⟨q, m4.toNat, none⟩) ⟨heap_lt RBn.out, (show q ≠ d.B by have := HQ.out.1; omega), (show q ≠ d.G by have := HQ.out.2; omega)⟩).trans cq
      refine ⟨_, rfl, ⟨A7.out.1.c0, cq8⟩, ?_⟩
      refine pick_frame (by simp [go_sem]; exact rfl) ?_
      have KV : Hid (KidsV d (X7.alloc (.cells #[.slice ad5 n5.length cp5, .slice ad7 n7.length cp7] 53)) (.slice (some ⟨X7.heap.size, 0, none⟩) 2 2) [(.slice ad5 n5.length cp5, n5), (.slice ad7 n7.length cp7, n7)]) := (kids_lit [(.slice ad5 n5.length cp5, n5), (.slice ad7 n7.length cp7, n7)] _ rfl A7.out.1.ltB A7.out.1.ltG (fun x hx => by simp at hx; rcases hx with rfl | rfl; exact (N5.out.1.grew G7.out); exact N7.out.1))
      have A9 := hid (A7.out.alloc (.cells #[.slice ad5 n5.length cp5, .slice ad7 n7.length cp7] 53))
      have G9 := hid ((Grew.refl d X7).alloc (.cells #[.slice ad5 n5.length cp5, .slice ad7 n7.length cp7] 53))
      have cq10 := ((G5.out.trans (G7.out.trans G9.out)).cell (p := ⟨q, m4.toNat, none⟩) ⟨heap_lt RBn.out, (show q ≠ d.B by have := HQ.out.1; omega), (show q ≠ d.G by have := HQ.out.2; omega)⟩).trans cq
      refine pick_make (i := 21) (v := .slice (some ⟨X7.heap.size, 0, none⟩) 2 2) (w1 := X7.alloc (.cells #[.slice ad5 n5.length cp5, .slice ad7 n7.length cp7] 53)) rfl (by kernel_rfl) rfl rfl (by simp [go_sem]) ⟨A9.out.1.c0, cq10⟩ (by simp [go_sem]; exact rfl) ?_
      generalize X7.alloc (.cells #[.slice ad5 n5.length cp5, .slice ad7 n7.length cp7] 53) = X9 at *
      refine pick_enter (i := 22) (f := 55) (args := #[.agg #[.int .i64 kv, .int .i64 0, .string ⟨#[]⟩, .string ⟨#[]⟩, .string ⟨#[]⟩, .int .i64 0], .slice (some ⟨X7.heap.size, 0, none⟩) 2 2]) rfl (by kernel_rfl) rfl rfl (by simp [go_sem]) ?_
      refine (A9.out.put_kids kv 0 0 ⟨#[]⟩ ⟨#[]⟩ ⟨#[]⟩ KV.out ⟨brief_none, brief_none, brief_none⟩ (by simp) (by have := A9.out.bound HF.out (by omega) (by decide); have := N5.out.2; have := N7.out.2; simp [flatL]; omega)).mono ?_
      rintro e X11 ⟨v11, n11, rfl, hn11, hl11, ha, hg⟩
      have A11 := hid ha
      have G11 := hid hg
      clear ha hg
      have N11 := hid (And.intro hn11 hl11)
      clear hn11 hl11
      have cq12 := ((G5.out.trans (G7.out.trans (G9.out.trans G11.out))).cell (p := ⟨q, m4.toNat, none⟩) ⟨heap_lt RBn.out, (show q ≠ d.B by have := HQ.out.1; omega), (show q ≠ d.G by have := HQ.out.2; omega)⟩).trans cq
      refine ⟨_, rfl, ⟨A11.out.1.c0, cq12⟩, ?_⟩
      refine pick_frame (by simp [go_sem]; exact rfl) ?_
      refine pick_op (i := 23) (v := v11) (by kernel_rfl) rfl (by kernel_rfl) (by kernel_rfl) rfl rfl (fun w' hw => by simp [go_sem]) ⟨A11.out.1.c0, cq12⟩ (by simp [go_sem]; exact rfl) ?_
      refine pick_end (by kernel_rfl) ?_
      go_wp2_with fail
      go_ret
      exact A11.out.done 1 N11.out.1 (by have := N11.out.2; have := N5.out.2; have := N7.out.2; simp [flatL] at *; omega) (by omega)
    · refine ⟨_, 13, #[.pointer (some ⟨d.B, 0, none⟩), .int .i64 2], rfl, rfl, by simp [go_sem], ?_⟩
      refine (A2.out.pick HF.out (by omega) 2 (by decide)).mono ?_
      rintro e X3 ⟨m3, s3, rfl, hm3, hM3, ha, hg⟩
      have A3 := hid ha
      have G3 := hid hg
      clear ha hg
      refine ⟨_, rfl, (A3.out.1.c0), ?_⟩
      refine pick_frame (by simp [go_sem]; exact rfl) ?_
      refine pick_either (i := 0) (j := 14) (by kernel_rfl) ?_ ?_
      · have RB := hid (MapKept.heap_alloc X3 (.cells #[.int .i64 11, .int .i64 12] 3)).1
        have HQ := hid (And.intro A3.out.1.ltB A3.out.1.ltG)
        have A4 := hid (A3.out.alloc (.cells #[.int .i64 11, .int .i64 12] 3))
        have G4 := hid ((Grew.refl d X3).alloc (.cells #[.int .i64 11, .int .i64 12] 3))
        refine ⟨_, .slice (some ⟨X3.heap.size, 0, none⟩) 2 2, X3.alloc (.cells #[.int .i64 11, .int .i64 12] 3), rfl, rfl, by simp [go_sem], A4.out.1.c0, ?_⟩
        refine pick_frame (by simp [go_sem]; exact rfl) ?_
        generalize X3.alloc (.cells #[.int .i64 11, .int .i64 12] 3) = X4 at *
        obtain ⟨q, hq⟩ : ∃ q, X3.heap.size = q := ⟨_, rfl⟩
        rw [hq] at RB HQ ⊢
        clear hq
        obtain ⟨kv, hkv⟩ := two_get 11 12 m3 hm3 hM3
        have cq := (cell_of_heap RB.out m3.toNat).trans hkv
        have RBn := hid RB.out
        clear hkv
        refine pick_op (i := 6) (v := .pointer (some ⟨q, m3.toNat, none⟩)) (by kernel_rfl) rfl (by kernel_rfl) (by kernel_rfl) rfl rfl (fun w' hw => by simp [go_sem, hm3, hM3]) (A4.out.1.c0) (by simp [go_sem]; exact rfl) ?_
        refine pick_more (fun w' => w'.cell? ⟨d.G, 0, none⟩ = some (.pointer (some ⟨d.B, 0, none⟩)) ∧ w'.cell? ⟨q, m3.toNat, none⟩ = some (.int .i64 kv)) (fun w h => h.1) ?_
        refine pick_op (i := 7) (v := .int .i64 kv) (by kernel_rfl) rfl (by kernel_rfl) (by kernel_rfl) rfl rfl (fun w' hw => by simp [go_sem, hw.2]) ⟨A4.out.1.c0, cq⟩ (by simp [go_sem]; exact rfl) ?_
        refine pick_op (i := 8) (v := .agg #[.int .i64 kv, .int .i64 0, .string ⟨#[]⟩, .string ⟨#[]⟩, .string ⟨#[]⟩, .int .i64 0]) (by kernel_rfl) rfl (by kernel_rfl) (by kernel_rfl) rfl rfl (fun w' hw => by simp [go_sem]) ⟨A4.out.1.c0, cq⟩ (by simp [go_sem]; exact rfl) ?_
        refine pick_enter (i := 14) (f := 38) (args := #[.pointer (some ⟨d.G, 0, none⟩), .int .i64 1, .slice ad ks.length cp, .slice adm ms.length cpm, .int .i64 deep]) rfl (by kernel_rfl) rfl rfl (by simp [go_sem]) ?_
        refine (A4.out.nodes (HO.out deep 1 _ _ _ _ _ _ (by have := HD.out; omega) (by have := HD.out; omega) (A4.out.fit HF.out 10 (by omega)) A4.out.1 (HE.out.grew (G1.out.trans (G2.out.trans (G3.out.trans G4.out)))).down)).mono ?_
        rintro e X5 ⟨v5, n5, s5, t5, rfl, hn5, hl5, ha, hg⟩
        have A5 := hid ha
        have G5 := hid hg
        clear ha hg
        have N5 := hid (And.intro hn5 hl5)
        obtain ⟨ad5, cp5, rfl⟩ := hn5.is
        clear hn5 hl5
        have cq6 := (G5.out.cell (p := ⟨q, m3.toNat, none⟩) ⟨heap_lt RBn.out, (show q ≠ d.B by have := HQ.out.1; omega), (show q ≠ d.G by have := HQ.out.2; omega)⟩).trans cq
        refine ⟨_, rfl, ⟨A5.out.1.c0, cq6⟩, ?_⟩
        refine pick_frame (by simp [go_sem]; exact rfl) ?_
        refine pick_enter (i := 20) (f := 38) (args := #[.pointer (some ⟨d.G, 0, none⟩), .int .i64 1, .slice ad ks.length cp, .slice adm ms.length cpm, .int .i64 deep]) rfl (by kernel_rfl) rfl rfl (by simp [go_sem]) ?_
        refine (A5.out.nodes (HO.out deep 1 _ _ _ _ _ _ (by have := HD.out; omega) (by have := HD.out; omega) (A5.out.fit HF.out 10 (by omega)) A5.out.1 (HE.out.grew (G1.out.trans (G2.out.trans (G3.out.trans (G4.out.trans G5.out))))).down)).mono ?_
        rintro e X7 ⟨v7, n7, s7, t7, rfl, hn7, hl7, ha, hg⟩
        have A7 := hid ha
        have G7 := hid hg
        clear ha hg
        have N7 := hid (And.intro hn7 hl7)
        obtain ⟨ad7, cp7, rfl⟩ := hn7.is
        clear hn7 hl7
        have cq8 := ((G5.out.trans G7.out).cell (p := ⟨q, m3.toNat, none⟩) ⟨heap_lt RBn.out, (show q ≠ d.B by have := HQ.out.1; omega), (show q ≠ d.G by have := HQ.out.2; omega)⟩).trans cq
        refine ⟨_, rfl, ⟨A7.out.1.c0, cq8⟩, ?_⟩
        refine pick_frame (by simp [go_sem]; exact rfl) ?_
        have KV : Hid (KidsV d (X7.alloc (.cells #[.slice ad5 n5.length cp5, .slice ad7 n7.length cp7] 53)) (.slice (some ⟨X7.heap.size, 0, none⟩) 2 2) [(.slice ad5 n5.length cp5, n5), (.slice ad7 n7.length cp7, n7)]) := (kids_lit [(.slice ad5 n5.length cp5, n5), (.slice ad7 n7.length cp7, n7)] _ rfl A7.out.1.ltB A7.out.1.ltG (fun x hx => by simp at hx; rcases hx with rfl | rfl; exact (N5.out.1.grew G7.out); exact N7.out.1))
        have A9 := hid (A7.out.alloc (.cells #[.slice ad5 n5.length cp5, .slice ad7 n7.length cp7] 53))
        have G9 := hid ((Grew.refl d X7).alloc (.cells #[.slice ad5 n5.length cp5, .slice ad7 n7.length cp7] 53))
        have cq10 := ((G5.out.trans (G7.out.trans G9.out)).cell (p := ⟨q, m3.toNat, none⟩) ⟨heap_lt RBn.out, (show q ≠ d.B by have := HQ.out.1; omega), (show q ≠ d.G by have := HQ.out.2; omega)⟩).trans cq
        refine pick_make (i := 21) (v := .slice (some ⟨X7.heap.size, 0, none⟩) 2 2) (w1 := X7.alloc (.cells #[.slice ad5 n5.length cp5, .slice ad7 n7.length cp7] 53)) rfl (by kernel_rfl) rfl rfl (by simp [go_sem]) ⟨A9.out.1.c0, cq10⟩ (by simp [go_sem]; exact rfl) ?_
        generalize X7.alloc (.cells #[.slice ad5 n5.length cp5, .slice ad7 n7.length cp7] 53) = X9 at *
        refine pick_enter (i := 22) (f := 55) (args := #[.agg #[.int .i64 kv, .int .i64 0, .string ⟨#[]⟩, .string ⟨#[]⟩, .string ⟨#[]⟩, .int .i64 0], .slice (some ⟨X7.heap.size, 0, none⟩) 2 2]) rfl (by kernel_rfl) rfl rfl (by simp [go_sem]) ?_
        refine (A9.out.put_kids kv 0 0 ⟨#[]⟩ ⟨#[]⟩ ⟨#[]⟩ KV.out ⟨brief_none, brief_none, brief_none⟩ (by simp) (by have := A9.out.bound HF.out (by omega) (by decide); have := N5.out.2; have := N7.out.2; simp [flatL]; omega)).mono ?_
        rintro e X11 ⟨v11, n11, rfl, hn11, hl11, ha, hg⟩
        have A11 := hid ha
        have G11 := hid hg
        clear ha hg
        have N11 := hid (And.intro hn11 hl11)
        clear hn11 hl11
        have cq12 := ((G5.out.trans (G7.out.trans (G9.out.trans G11.out))).cell (p := ⟨q, m3.toNat, none⟩) ⟨heap_lt RBn.out, (show q ≠ d.B by have := HQ.out.1; omega), (show q ≠ d.G by have := HQ.out.2; omega)⟩).trans cq
        refine ⟨_, rfl, ⟨A11.out.1.c0, cq12⟩, ?_⟩
        refine pick_frame (by simp [go_sem]; exact rfl) ?_
        refine pick_op (i := 23) (v := v11) (by kernel_rfl) rfl (by kernel_rfl) (by kernel_rfl) rfl rfl (fun w' hw => by simp [go_sem]) ⟨A11.out.1.c0, cq12⟩ (by simp [go_sem]; exact rfl) ?_
        refine pick_end (by kernel_rfl) ?_
        go_wp2_with fail
        go_ret
        exact A11.out.done 1 N11.out.1 (by have := N11.out.2; have := N5.out.2; have := N7.out.2; simp [flatL] at *; omega) (by omega)
      · refine ⟨_, 38, #[.pointer (some ⟨d.G, 0, none⟩), .int .i64 1, .slice ad ks.length cp, .slice adm ms.length cpm, .int .i64 deep], rfl, rfl, by simp [go_sem], ?_⟩
        refine (A3.out.nodes (HO.out deep 1 _ _ _ _ _ _ (by have := HD.out; omega) (by have := HD.out; omega) (A3.out.fit HF.out 10 (by omega)) A3.out.1 (HE.out.grew (G1.out.trans (G2.out.trans G3.out))).down)).mono ?_
        rintro e X4 ⟨v4, n4, s4, t4, rfl, hn4, hl4, ha, hg⟩
        have A4 := hid ha
        have G4 := hid hg
        clear ha hg
        have N4 := hid (And.intro hn4 hl4)
        obtain ⟨ad4, cp4, rfl⟩ := hn4.is
        clear hn4 hl4
        refine ⟨_, rfl, (A4.out.1.c0), ?_⟩
        refine pick_frame (by simp [go_sem]; exact rfl) ?_
        refine pick_either (i := 0) (j := 20) (by kernel_rfl) ?_ ?_
        · have RB := hid (MapKept.heap_alloc X4 (.cells #[.int .i64 11, .int .i64 12] 3)).1
          have HQ := hid (And.intro A4.out.1.ltB A4.out.1.ltG)
          have A5 := hid (A4.out.alloc (.cells #[.int .i64 11, .int .i64 12] 3))
          have G5 := hid ((Grew.refl d X4).alloc (.cells #[.int .i64 11, .int .i64 12] 3))
          refine ⟨_, .slice (some ⟨X4.heap.size, 0, none⟩) 2 2, X4.alloc (.cells #[.int .i64 11, .int .i64 12] 3), rfl, rfl, by simp [go_sem], A5.out.1.c0, ?_⟩
          refine pick_frame (by simp [go_sem]; exact rfl) ?_
          generalize X4.alloc (.cells #[.int .i64 11, .int .i64 12] 3) = X5 at *
          obtain ⟨q, hq⟩ : ∃ q, X4.heap.size = q := ⟨_, rfl⟩
          rw [hq] at RB HQ ⊢
          clear hq
          obtain ⟨kv, hkv⟩ := two_get 11 12 m3 hm3 hM3
          have cq := (cell_of_heap RB.out m3.toNat).trans hkv
          have RBn := hid RB.out
          clear hkv
          refine pick_op (i := 6) (v := .pointer (some ⟨q, m3.toNat, none⟩)) (by kernel_rfl) rfl (by kernel_rfl) (by kernel_rfl) rfl rfl (fun w' hw => by simp [go_sem, hm3, hM3]) (A5.out.1.c0) (by simp [go_sem]; exact rfl) ?_
          refine pick_more (fun w' => w'.cell? ⟨d.G, 0, none⟩ = some (.pointer (some ⟨d.B, 0, none⟩)) ∧ w'.cell? ⟨q, m3.toNat, none⟩ = some (.int .i64 kv)) (fun w h => h.1) ?_
          refine pick_op (i := 7) (v := .int .i64 kv) (by kernel_rfl) rfl (by kernel_rfl) (by kernel_rfl) rfl rfl (fun w' hw => by simp [go_sem, hw.2]) ⟨A5.out.1.c0, cq⟩ (by simp [go_sem]; exact rfl) ?_
          refine pick_op (i := 8) (v := .agg #[.int .i64 kv, .int .i64 0, .string ⟨#[]⟩, .string ⟨#[]⟩, .string ⟨#[]⟩, .int .i64 0]) (by kernel_rfl) rfl (by kernel_rfl) (by kernel_rfl) rfl rfl (fun w' hw => by simp [go_sem]) ⟨A5.out.1.c0, cq⟩ (by simp [go_sem]; exact rfl) ?_
          refine pick_enter (i := 20) (f := 38) (args := #[.pointer (some ⟨d.G, 0, none⟩), .int .i64 1, .slice ad ks.length cp, .slice adm ms.length cpm, .int .i64 deep]) rfl (by kernel_rfl) rfl rfl (by simp [go_sem]) ?_
          refine (A5.out.nodes (HO.out deep 1 _ _ _ _ _ _ (by have := HD.out; omega) (by have := HD.out; omega) (A5.out.fit HF.out 10 (by omega)) A5.out.1 (HE.out.grew (G1.out.trans (G2.out.trans (G3.out.trans (G4.out.trans G5.out))))).down)).mono ?_
          rintro e X6 ⟨v6, n6, s6, t6, rfl, hn6, hl6, ha, hg⟩
          have A6 := hid ha
          have G6 := hid hg
          clear ha hg
          have N6 := hid (And.intro hn6 hl6)
          obtain ⟨ad6, cp6, rfl⟩ := hn6.is
          clear hn6 hl6
          have cq7 := (G6.out.cell (p := ⟨q, m3.toNat, none⟩) ⟨heap_lt RBn.out, (show q ≠ d.B by have := HQ.out.1; omega), (show q ≠ d.G by have := HQ.out.2; omega)⟩).trans cq
          refine ⟨_, rfl, ⟨A6.out.1.c0, cq7⟩, ?_⟩
          refine pick_frame (by simp [go_sem]; exact rfl) ?_
          have KV : Hid (KidsV d (X6.alloc (.cells #[.slice ad4 n4.length cp4, .slice ad6 n6.length cp6] 53)) (.slice (some ⟨X6.heap.size, 0, none⟩) 2 2) [(.slice ad4 n4.length cp4, n4), (.slice ad6 n6.length cp6, n6)]) := (kids_lit [(.slice ad4 n4.length cp4, n4), (.slice ad6 n6.length cp6, n6)] _ rfl A6.out.1.ltB A6.out.1.ltG (fun x hx => by simp at hx; rcases hx with rfl | rfl; exact (N4.out.1.grew (G5.out.trans G6.out)); exact N6.out.1))
          have A8 := hid (A6.out.alloc (.cells #[.slice ad4 n4.length cp4, .slice ad6 n6.length cp6] 53))
          have G8 := hid ((Grew.refl d X6).alloc (.cells #[.slice ad4 n4.length cp4, .slice ad6 n6.length cp6] 53))
          have cq9 := ((G6.out.trans G8.out).cell (p := ⟨q, m3.toNat, none⟩) ⟨heap_lt RBn.out, (show q ≠ d.B by have := HQ.out.1; omega), (show q ≠ d.G by have := HQ.out.2; omega)⟩).trans cq
          refine pick_make (i := 21) (v := .slice (some ⟨X6.heap.size, 0, none⟩) 2 2) (w1 := X6.alloc (.cells #[.slice ad4 n4.length cp4, .slice ad6 n6.length cp6] 53)) rfl (by kernel_rfl) rfl rfl (by simp [go_sem]) ⟨A8.out.1.c0, cq9⟩ (by simp [go_sem]; exact rfl) ?_
          generalize X6.alloc (.cells #[.slice ad4 n4.length cp4, .slice ad6 n6.length cp6] 53) = X8 at *
          refine pick_enter (i := 22) (f := 55) (args := #[.agg #[.int .i64 kv, .int .i64 0, .string ⟨#[]⟩, .string ⟨#[]⟩, .string ⟨#[]⟩, .int .i64 0], .slice (some ⟨X6.heap.size, 0, none⟩) 2 2]) rfl (by kernel_rfl) rfl rfl (by simp [go_sem]) ?_
          refine (A8.out.put_kids kv 0 0 ⟨#[]⟩ ⟨#[]⟩ ⟨#[]⟩ KV.out ⟨brief_none, brief_none, brief_none⟩ (by simp) (by have := A8.out.bound HF.out (by omega) (by decide); have := N4.out.2; have := N6.out.2; simp [flatL]; omega)).mono ?_
          rintro e X10 ⟨v10, n10, rfl, hn10, hl10, ha, hg⟩
          have A10 := hid ha
          have G10 := hid hg
          clear ha hg
          have N10 := hid (And.intro hn10 hl10)
          clear hn10 hl10
          have cq11 := ((G6.out.trans (G8.out.trans G10.out)).cell (p := ⟨q, m3.toNat, none⟩) ⟨heap_lt RBn.out, (show q ≠ d.B by have := HQ.out.1; omega), (show q ≠ d.G by have := HQ.out.2; omega)⟩).trans cq
          refine ⟨_, rfl, ⟨A10.out.1.c0, cq11⟩, ?_⟩
          refine pick_frame (by simp [go_sem]; exact rfl) ?_
          refine pick_op (i := 23) (v := v10) (by kernel_rfl) rfl (by kernel_rfl) (by kernel_rfl) rfl rfl (fun w' hw => by simp [go_sem]) ⟨A10.out.1.c0, cq11⟩ (by simp [go_sem]; exact rfl) ?_
          refine pick_end (by kernel_rfl) ?_
          go_wp2_with fail
          go_ret
          exact A10.out.done 1 N10.out.1 (by have := N10.out.2; have := N4.out.2; have := N6.out.2; simp [flatL] at *; omega) (by omega)
        · refine ⟨_, 38, #[.pointer (some ⟨d.G, 0, none⟩), .int .i64 1, .slice ad ks.length cp, .slice adm ms.length cpm, .int .i64 deep], rfl, rfl, by simp [go_sem], ?_⟩
          refine (A4.out.nodes (HO.out deep 1 _ _ _ _ _ _ (by have := HD.out; omega) (by have := HD.out; omega) (A4.out.fit HF.out 10 (by omega)) A4.out.1 (HE.out.grew (G1.out.trans (G2.out.trans (G3.out.trans G4.out)))).down)).mono ?_
          rintro e X5 ⟨v5, n5, s5, t5, rfl, hn5, hl5, ha, hg⟩
          have A5 := hid ha
          have G5 := hid hg
          clear ha hg
          have N5 := hid (And.intro hn5 hl5)
          obtain ⟨ad5, cp5, rfl⟩ := hn5.is
          clear hn5 hl5
          refine ⟨_, rfl, (A5.out.1.c0), ?_⟩
          refine pick_frame (by simp [go_sem]; exact rfl) ?_
          refine pick_fork (i := 0) (j := 21) (by kernel_rfl) ?_ ?_
          · have RB := hid (MapKept.heap_alloc X5 (.cells #[.int .i64 11, .int .i64 12] 3)).1
            have HQ := hid (And.intro A5.out.1.ltB A5.out.1.ltG)
            have A6 := hid (A5.out.alloc (.cells #[.int .i64 11, .int .i64 12] 3))
            have G6 := hid ((Grew.refl d X5).alloc (.cells #[.int .i64 11, .int .i64 12] 3))
            refine ⟨_, .slice (some ⟨X5.heap.size, 0, none⟩) 2 2, X5.alloc (.cells #[.int .i64 11, .int .i64 12] 3), rfl, rfl, by simp [go_sem], A6.out.1.c0, ?_⟩
            refine pick_frame (by simp [go_sem]; exact rfl) ?_
            generalize X5.alloc (.cells #[.int .i64 11, .int .i64 12] 3) = X6 at *
            obtain ⟨q, hq⟩ : ∃ q, X5.heap.size = q := ⟨_, rfl⟩
            rw [hq] at RB HQ ⊢
            clear hq
            obtain ⟨kv, hkv⟩ := two_get 11 12 m3 hm3 hM3
            have cq := (cell_of_heap RB.out m3.toNat).trans hkv
            have RBn := hid RB.out
            clear hkv
            refine pick_op (i := 6) (v := .pointer (some ⟨q, m3.toNat, none⟩)) (by kernel_rfl) rfl (by kernel_rfl) (by kernel_rfl) rfl rfl (fun w' hw => by simp [go_sem, hm3, hM3]) (A6.out.1.c0) (by simp [go_sem]; exact rfl) ?_
            refine pick_more (fun w' => w'.cell? ⟨d.G, 0, none⟩ = some (.pointer (some ⟨d.B, 0, none⟩)) ∧ w'.cell? ⟨q, m3.toNat, none⟩ = some (.int .i64 kv)) (fun w h => h.1) ?_
            refine pick_op (i := 7) (v := .int .i64 kv) (by kernel_rfl) rfl (by kernel_rfl) (by kernel_rfl) rfl rfl (fun w' hw => by simp [go_sem, hw.2]) ⟨A6.out.1.c0, cq⟩ (by simp [go_sem]; exact rfl) ?_
            refine pick_op (i := 8) (v := .agg #[.int .i64 kv, .int .i64 0, .string ⟨#[]⟩, .string ⟨#[]⟩, .string ⟨#[]⟩, .int .i64 0]) (by kernel_rfl) rfl (by kernel_rfl) (by kernel_rfl) rfl rfl (fun w' hw => by simp [go_sem]) ⟨A6.out.1.c0, cq⟩ (by simp [go_sem]; exact rfl) ?_
            have KV : Hid (KidsV d (X6.alloc (.cells #[.slice ad4 n4.length cp4, .slice ad5 n5.length cp5] 53)) (.slice (some ⟨X6.heap.size, 0, none⟩) 2 2) [(.slice ad4 n4.length cp4, n4), (.slice ad5 n5.length cp5, n5)]) := (kids_lit [(.slice ad4 n4.length cp4, n4), (.slice ad5 n5.length cp5, n5)] _ rfl A6.out.1.ltB A6.out.1.ltG (fun x hx => by simp at hx; rcases hx with rfl | rfl; exact (N4.out.1.grew (G5.out.trans G6.out)); exact (N5.out.1.grew G6.out)))
            have A7 := hid (A6.out.alloc (.cells #[.slice ad4 n4.length cp4, .slice ad5 n5.length cp5] 53))
            have G7 := hid ((Grew.refl d X6).alloc (.cells #[.slice ad4 n4.length cp4, .slice ad5 n5.length cp5] 53))
            have cq8 := (G7.out.cell (p := ⟨q, m3.toNat, none⟩) ⟨heap_lt RBn.out, (show q ≠ d.B by have := HQ.out.1; omega), (show q ≠ d.G by have := HQ.out.2; omega)⟩).trans cq
            refine pick_make (i := 21) (v := .slice (some ⟨X6.heap.size, 0, none⟩) 2 2) (w1 := X6.alloc (.cells #[.slice ad4 n4.length cp4, .slice ad5 n5.length cp5] 53)) rfl (by kernel_rfl) rfl rfl (by simp [go_sem]) ⟨A7.out.1.c0, cq8⟩ (by simp [go_sem]; exact rfl) ?_
            generalize X6.alloc (.cells #[.slice ad4 n4.length cp4, .slice ad5 n5.length cp5] 53) = X7 at *
            refine pick_enter (i := 22) (f := 55) (args := #[.agg #[.int .i64 kv, .int .i64 0, .string ⟨#[]⟩, .string ⟨#[]⟩, .string ⟨#[]⟩, .int .i64 0], .slice (some ⟨X6.heap.size, 0, none⟩) 2 2]) rfl (by kernel_rfl) rfl rfl (by simp [go_sem]) ?_
            refine (A7.out.put_kids kv 0 0 ⟨#[]⟩ ⟨#[]⟩ ⟨#[]⟩ KV.out ⟨brief_none, brief_none, brief_none⟩ (by simp) (by have := A7.out.bound HF.out (by omega) (by decide); have := N4.out.2; have := N5.out.2; simp [flatL]; omega)).mono ?_
            rintro e X9 ⟨v9, n9, rfl, hn9, hl9, ha, hg⟩
            have A9 := hid ha
            have G9 := hid hg
            clear ha hg
            have N9 := hid (And.intro hn9 hl9)
            clear hn9 hl9
            have cq10 := ((G7.out.trans G9.out).cell (p := ⟨q, m3.toNat, none⟩) ⟨heap_lt RBn.out, (show q ≠ d.B by have := HQ.out.1; omega), (show q ≠ d.G by have := HQ.out.2; omega)⟩).trans cq
            refine ⟨_, rfl, ⟨A9.out.1.c0, cq10⟩, ?_⟩
            refine pick_frame (by simp [go_sem]; exact rfl) ?_
            refine pick_op (i := 23) (v := v9) (by kernel_rfl) rfl (by kernel_rfl) (by kernel_rfl) rfl rfl (fun w' hw => by simp [go_sem]) ⟨A9.out.1.c0, cq10⟩ (by simp [go_sem]; exact rfl) ?_
            refine pick_end (by kernel_rfl) ?_
            go_wp2_with fail
            go_ret
            exact A9.out.done 1 N9.out.1 (by have := N9.out.2; have := N4.out.2; have := N5.out.2; simp [flatL] at *; omega) (by omega)
          · have KV : Hid (KidsV d (X5.alloc (.cells #[.slice ad4 n4.length cp4, .slice ad5 n5.length cp5] 53)) (.slice (some ⟨X5.heap.size, 0, none⟩) 2 2) [(.slice ad4 n4.length cp4, n4), (.slice ad5 n5.length cp5, n5)]) := (kids_lit [(.slice ad4 n4.length cp4, n4), (.slice ad5 n5.length cp5, n5)] _ rfl A5.out.1.ltB A5.out.1.ltG (fun x hx => by simp at hx; rcases hx with rfl | rfl; exact (N4.out.1.grew G5.out); exact N5.out.1))
            have A6 := hid (A5.out.alloc (.cells #[.slice ad4 n4.length cp4, .slice ad5 n5.length cp5] 53))
            have G6 := hid ((Grew.refl d X5).alloc (.cells #[.slice ad4 n4.length cp4, .slice ad5 n5.length cp5] 53))
            refine ⟨_, .slice (some ⟨X5.heap.size, 0, none⟩) 2 2, X5.alloc (.cells #[.slice ad4 n4.length cp4, .slice ad5 n5.length cp5] 53), rfl, rfl, by simp [go_sem], (A6.out.1.c0), ?_⟩
            refine pick_frame (by simp [go_sem]; exact rfl) ?_
            generalize X5.alloc (.cells #[.slice ad4 n4.length cp4, .slice ad5 n5.length cp5] 53) = X6 at *
            have RB := hid (MapKept.heap_alloc X6 (.cells #[.int .i64 11, .int .i64 12] 3)).1
            have HQ := hid (And.intro A6.out.1.ltB A6.out.1.ltG)
            have A7 := hid (A6.out.alloc (.cells #[.int .i64 11, .int .i64 12] 3))
            have G7 := hid ((Grew.refl d X6).alloc (.cells #[.int .i64 11, .int .i64 12] 3))
            refine pick_make (i := 0) (v := .slice (some ⟨X6.heap.size, 0, none⟩) 2 2) (w1 := X6.alloc (.cells #[.int .i64 11, .int .i64 12] 3)) rfl (by kernel_rfl) rfl rfl (by simp [go_sem]) A7.out.1.c0 (by simp [go_sem]; exact rfl) ?_
            generalize X6.alloc (.cells #[.int .i64 11, .int .i64 12] 3) = X7 at *
            obtain ⟨q, hq⟩ : ∃ q, X6.heap.size = q := ⟨_, rfl⟩
            rw [hq] at RB HQ ⊢
            clear hq
            obtain ⟨kv, hkv⟩ := two_get 11 12 m3 hm3 hM3
            have cq := (cell_of_heap RB.out m3.toNat).trans hkv
            have RBn := hid RB.out
            clear hkv
            refine pick_op (i := 6) (v := .pointer (some ⟨q, m3.toNat, none⟩)) (by kernel_rfl) rfl (by kernel_rfl) (by kernel_rfl) rfl rfl (fun w' hw => by simp [go_sem, hm3, hM3]) (A7.out.1.c0) (by simp [go_sem]; exact rfl) ?_
            refine pick_more (fun w' => w'.cell? ⟨d.G, 0, none⟩ = some (.pointer (some ⟨d.B, 0, none⟩)) ∧ w'.cell? ⟨q, m3.toNat, none⟩ = some (.int .i64 kv)) (fun w h => h.1) ?_
            refine pick_op (i := 7) (v := .int .i64 kv) (by kernel_rfl) rfl (by kernel_rfl) (by kernel_rfl) rfl rfl (fun w' hw => by simp [go_sem, hw.2]) ⟨A7.out.1.c0, cq⟩ (by simp [go_sem]; exact rfl) ?_
            refine pick_op (i := 8) (v := .agg #[.int .i64 kv, .int .i64 0, .string ⟨#[]⟩, .string ⟨#[]⟩, .string ⟨#[]⟩, .int .i64 0]) (by kernel_rfl) rfl (by kernel_rfl) (by kernel_rfl) rfl rfl (fun w' hw => by simp [go_sem]) ⟨A7.out.1.c0, cq⟩ (by simp [go_sem]; exact rfl) ?_
            refine pick_enter (i := 22) (f := 55) (args := #[.agg #[.int .i64 kv, .int .i64 0, .string ⟨#[]⟩, .string ⟨#[]⟩, .string ⟨#[]⟩, .int .i64 0], .slice (some ⟨X5.heap.size, 0, none⟩) 2 2]) rfl (by kernel_rfl) rfl rfl (by simp [go_sem]) ?_
            refine (A7.out.put_kids kv 0 0 ⟨#[]⟩ ⟨#[]⟩ ⟨#[]⟩ (KV.out.grew G7.out) ⟨brief_none, brief_none, brief_none⟩ (by simp) (by have := A7.out.bound HF.out (by omega) (by decide); have := N4.out.2; have := N5.out.2; simp [flatL]; omega)).mono ?_
            rintro e X8 ⟨v8, n8, rfl, hn8, hl8, ha, hg⟩
            have A8 := hid ha
            have G8 := hid hg
            clear ha hg
            have N8 := hid (And.intro hn8 hl8)
            clear hn8 hl8
            have cq9 := (G8.out.cell (p := ⟨q, m3.toNat, none⟩) ⟨heap_lt RBn.out, (show q ≠ d.B by have := HQ.out.1; omega), (show q ≠ d.G by have := HQ.out.2; omega)⟩).trans cq
            refine ⟨_, rfl, ⟨A8.out.1.c0, cq9⟩, ?_⟩
            refine pick_frame (by simp [go_sem]; exact rfl) ?_
            refine pick_op (i := 23) (v := v8) (by kernel_rfl) rfl (by kernel_rfl) (by kernel_rfl) rfl rfl (fun w' hw => by simp [go_sem]) ⟨A8.out.1.c0, cq9⟩ (by simp [go_sem]; exact rfl) ?_
            refine pick_end (by kernel_rfl) ?_
            go_wp2_with fail
            go_ret
            exact A8.out.done 1 N8.out.1 (by have := N8.out.2; have := N4.out.2; have := N5.out.2; simp [flatL] at *; omega) (by omega)

/-- What is drawn by its type. -/
theorem gown_calls {d : Dr} {ve v vm : Value} {es : List Ef} {W : World} {s : Cn} {ks : List Kn} {ms : List Bool} {D : Nat} (ty deep : Int) (hO : OfC d ve es D) (h1 : deep ≤ D) (h2 : -90 ≤ deep) (h3 : D ≤ 100) (h : Gen d ve W s) (hf : Fit s 100) (hE : Env d ve es W v ks vm ms (D + 1)) :
    Calls Try.prog 61 #[.pointer (some ⟨d.G, 0, none⟩), .int .i64 ty, v, vm, .int .i64 deep] W (NodesPost d ve W s 100) := by
  by_cases t1 : ty = 1
  · exact own1 ty t1 deep hO h1 h2 h3 h hf hE
  by_cases t2 : ty = 2
  · exact own2 ty t2 deep hO h1 h2 h3 h hf hE
  by_cases t3 : ty = 3
  · exact own3 ty t3 deep hO h1 h2 h3 h hf hE
  by_cases t4 : ty = 4
  · exact own4 ty t4 deep hO h1 h2 h3 h hf hE
  exact own5 ty t1 t2 t3 t4 deep hO h1 h2 h3 h hf hE
end Go.Proofs.Ytnbmhopoiijhoaa

/- A handler is drawn: the rows of its own that grow meanwhile. -/
namespace Go.Proofs.Ytnbmhopoiijhoaa
open Go.RowKit Go.Deep

theorem g_type {W : World} {B : Nat} {e : TypeId} {sz : Nat} {v : Value} {n : Nat} {xs : List Value} (h : W.ownsRow B e sz v n xs) {g : Nat} (hg : v.ownBlock = some g) : B ≤ g ∧ ∃ cur, W.heap[g]? = some (.cells cur e) := by
  obtain ⟨-, ⟨rfl, h0⟩ | ⟨g', cap, cur, rfl, hB, hc, -⟩⟩ := h
  · simp [Value.ownBlock] at hg
  · simp [Value.ownBlock] at hg
    subst hg
    exact ⟨hB, cur, hc⟩

theorem g_same {W W' : World} {B : Nat} {e : TypeId} {sz : Nat} {v : Value} {n : Nat} {xs : List Value} (h : W.ownsRow B e sz v n xs) (he : ∀ g, v.ownBlock = some g → W'.heap[g]? = W.heap[g]?) : W'.ownsRow B e sz v n xs := by
  obtain ⟨h0, ⟨rfl, h1⟩ | ⟨g, cap, cur, rfl, hB, hc, hr⟩⟩ := h
  · exact ⟨h0, Or.inl ⟨rfl, h1⟩⟩
  · exact ⟨h0, Or.inr ⟨g, cap, cur, rfl, hB, (he g (by simp [Value.ownBlock])).trans hc, hr⟩⟩

theorem g_is {W : World} {B : Nat} {e : TypeId} {sz : Nat} {v : Value} {n : Nat} {xs : List Value} (h : W.ownsRow B e sz v n xs) : ∃ ad c, v = .slice ad n c := by
  obtain ⟨-, ⟨rfl, h0⟩ | ⟨g', cap, cur, rfl, -⟩⟩ := h
  · exact ⟨none, 0, by rw [h0]⟩
  · exact ⟨_, _, rfl⟩

/-- A row of one's own stays while the drawer goes on. -/
theorem g_grew {d : Dr} {W W' : World} {B : Nat} {e : TypeId} {sz : Nat} {v : Value} {n : Nat} {xs : List Value} (h : W.ownsRow B e sz v n xs) (h1 : d.B < B) (h2 : d.G < B) (g : Grew d W W') : W'.ownsRow B e sz v n xs :=
  g_same h fun k hk => g.block k ⟨(h.lt k hk).2, by have := (h.lt k hk).1; omega, by have := (h.lt k hk).1; omega⟩

/-- A row of one's own stays while a row of another type grows. -/
theorem g_other {W W' : World} {B B' : Nat} {e e' : TypeId} {sz sz' : Nat} {v u : Value} {n m : Nat} {xs ys : List Value} (h : W.ownsRow B e sz v n xs) (hu : W.ownsRow B' e' sz' u m ys) (hg : W.grownBy W' u.ownBlock) (hne : e ≠ e') : W'.ownsRow B e sz v n xs :=
  g_same h fun k hk => hg.block k (h.lt k hk).2 fun ek => by
    obtain ⟨-, c1, hc1⟩ := g_type h hk
    obtain ⟨-, c2, hc2⟩ := g_type hu ek.symm
    rw [hc1] at hc2
    cases hc2
    exact hne rfl

theorem At.own {d : Dr} {ve : Value} {W X X' : World} {s s1 : Cn} {t c : Nat} {row : Option Nat} (h : At d ve W s X s1 t c) (h0 : Gen d ve W s) (hg : X.grownBy X' row) (hr : ∀ g, row = some g → W.heap.size ≤ g) : At d ve W s X' s1 t c := by
  have hs := h.2.1.size
  have h1 := h0.ltB
  have h2 := h0.ltG
  have hne : ∀ q, q < W.heap.size → some q ≠ row := fun q hq e => by have := hr q e.symm; omega
  have hgr : Grew d W X' := ⟨hg.os.trans h.2.1.os, hg.tape.trans h.2.1.tape, hg.output.trans h.2.1.output, Nat.le_trans hs hg.size, fun q hq => (hg.block q (by have := hq.1; omega) (hne q hq.1)).trans (h.2.1.block q hq)⟩
  refine ⟨⟨⟨(hg.block _ (by omega) (hne _ h1)).trans h.1.rd.blk, fun hl => ?_⟩, (hg.block _ (by omega) (hne _ h2)).trans h.1.blk, h.1.ne⟩, hgr, h.2.2⟩
  obtain ⟨b, off, ea, hq, hz⟩ := h0.rd.bytes hl
  refine ⟨b, off, ea, hq.grew hgr, fun i hi => ?_⟩
  obtain ⟨z, hz, h3⟩ := hz i hi
  exact ⟨z, (hgr.cell (p := ⟨b, off + i, none⟩) hq).trans hz, h3⟩

theorem Lies.congr {d : Dr} {W : World} {v : Value} {n sz : Nat} {F H : Nat → Value} (h : Lies d W v n sz F) (e : ∀ i, i < n * sz → F i = H i) : Lies d W v n sz H := by
  rcases h with h | ⟨b, off, cap, h1, h2, h3, h4, h5⟩
  · exact Or.inl h
  · exact Or.inr ⟨b, off, cap, h1, h2, h3, h4, fun i hi => by rw [h5 i hi, e i hi]⟩

def boV (b : Bool) (_ : Nat) : Value := .bool b
def gnV (j : Nat) (_ : Nat) : Value := .int .i64 (j : Int)

theorem info_bool : (Try.prog.info? 4).map (fun i => (i.zero, i.size, i.bytes)) = some (some (.bool false), 1, 1) := by kernel_rfl
theorem info_int : (Try.prog.info? 3).map (fun i => (i.zero, i.size, i.bytes)) = some (some (.int .i64 0), 1, 8) := by kernel_rfl
theorem info_list : (Try.prog.info? 53).map (fun i => (i.zero, i.size, i.bytes)) = some (some (.slice none 0 0), 1, 24) := by kernel_rfl

theorem bools_lies {d : Dr} {W : World} {v : Value} {ms : List Bool} (h : BoolsD d W v ms) : Lies d W v ms.length 1 (fun i => boV (ms.getD (i / 1) default) (i % 1)) :=
  Lies.congr h fun i _ => by rw [Nat.div_one]; rfl

theorem bools_own {d : Dr} {W : World} {B : Nat} {v : Value} {ms : List Bool} (h : W.ownsRow B 4 1 v ms.length (rowZ boV 1 ms)) (h1 : d.B < B) (h2 : d.G < B) : BoolsD d W v ms :=
  (lies_owns (f := boV) (by decide) h h1 h2).congr fun i _ => by rw [Nat.div_one]; rfl

theorem rowZ_set (ms : List Bool) (i : Nat) (b : Bool) : (rowZ boV 1 ms).set i (.bool b) = rowZ boV 1 (ms.set i b) := by
  have e : ∀ l : List Bool, rowZ boV 1 l = l.map fun x => .bool x := fun l => by
    unfold rowZ
    induction l with
    | nil => rfl
    | cons x l ih => rw [List.flatMap_cons, ih]; rfl
  rw [e, e, List.map_set]

/-- A cell of a row of bools is set. -/
theorem bools_set {W : World} {B : Nat} {v : Value} {ms : List Bool} (h : W.ownsRow B 4 1 v ms.length (rowZ boV 1 ms)) {i : Nat} (hi : i < ms.length) (b : Bool) :
    ∃ g cap u, v = .slice (some ⟨g, 0, none⟩) ms.length cap ∧ B ≤ g ∧ g < W.heap.size ∧ W.cell? ⟨g, i, none⟩ = some u ∧ W.frozen? ⟨g, i, none⟩ = false ∧ (W.setCell ⟨g, i, none⟩ (.bool b)).ownsRow B 4 1 v (ms.set i b).length (rowZ boV 1 (ms.set i b)) ∧ W.grownBy (W.setCell ⟨g, i, none⟩ (.bool b)) (some g) := by
  have h' := h
  obtain ⟨-, ⟨-, h0⟩ | ⟨g, cap, cur, rfl, hB, hc, hnc, hcm, hsz, htake⟩⟩ := h
  · omega
  · refine ⟨g, cap, _, rfl, hB, heap_lt hc, (h'.cellAt i (by omega)).trans (rowZ_get boV 1 (by decide) ms i (by omega)), frozen_of_heap hc i, ?_, kept_set (kept_refl W (some g)) i _⟩
    refine ⟨rowZ_len _ _ _, Or.inr ⟨g, cap, cur.setIfInBounds i (.bool b), by rw [List.length_set], hB, ?_, by rw [List.length_set]; exact hnc, hcm, by simpa using hsz, ?_⟩⟩
    · rw [setCell_eq_setRow W g i cur 4 (0, 0) (.bool b) hc]
      exact setRow_heap W g _ _ 4 _ hc
    · rw [← rowZ_set, ← htake, List.length_set, Array.toList_setIfInBounds, List.take_set]

/-- A tree that waits in a list. -/
structure Kd where
  ad : Option Addr
  cp : Nat
  ns : List Nd

instance : Inhabited Kd := ⟨⟨none, 0, []⟩⟩

def Kd.val (k : Kd) : Value := .slice k.ad k.ns.length k.cp
def kdV (k : Kd) (_ : Nat) : Value := k.val

theorem kd_one (k : Kd) (i : Nat) : (kdV k i).oneCell' = true := rfl
theorem in_one (j i : Nat) : (gnV j i).oneCell' = true := rfl
theorem bo_one (b : Bool) (i : Nat) : (boV b i).oneCell' = true := rfl

def kdL (ls : List Kd) : List (Value × List Nd) := ls.map fun k => (k.val, k.ns)

theorem kdL_flat (ls : List Kd) : (flatL (kdL ls)).length = (ls.flatMap Kd.ns).length := by
  unfold flatL kdL
  rw [List.flatMap_map]

theorem kids_own {d : Dr} {X : World} {B : Nat} {v : Value} {ls : List Kd} (h : X.ownsRow B 53 1 v ls.length (rowZ kdV 1 ls)) (h1 : d.B < B) (h2 : d.G < B) (hn : ∀ k ∈ ls, NodesD d X k.val k.ns) : KidsV d X v (kdL ls) := by
  refine ⟨?_, fun x hx => ?_⟩
  · have hl : (kdL ls).length = ls.length := by simp [kdL]
    rw [hl]
    refine (lies_owns (f := kdV) (by decide) h h1 h2).congr fun i hi => ?_
    rw [Nat.div_one]
    rw [Nat.mul_one] at hi
    simp [kdL, kdV, List.getD, hi]
  · unfold kdL at hx
    rw [List.mem_map] at hx
    obtain ⟨k, hk, rfl⟩ := hx
    exact hn k hk

/-- Nodes stay while a row of lists grows that holds a list already. -/
theorem NodesD.other {d : Dr} {X X' : World} {v u : Value} {ns : List Nd} {B : Nat} {ls : List Kd} (h : NodesD d X v ns) (hu : X.ownsRow B 53 1 u ls.length (rowZ kdV 1 ls)) (h1 : 1 ≤ ls.length) (hg : X.grownBy X' u.ownBlock) : NodesD d X' v ns := by
  obtain ⟨h, hb⟩ := h
  refine ⟨?_, hb⟩
  rcases h with h | ⟨b, off, cap, rfl, hn, rfl, hq, hc⟩
  · exact Or.inl h
  · refine Or.inr ⟨b, 0, cap, rfl, hn, rfl, ⟨Nat.lt_of_lt_of_le hq.1 hg.size, hq.2⟩, fun i hi => ?_⟩
    have hne : some b ≠ u.ownBlock := fun e => by
      have h' := hu
      obtain ⟨-, ⟨-, h0⟩ | ⟨g, cap', cur, rfl, hB, hcc, -⟩⟩ := hu
      · omega
      · simp [Value.ownBlock] at e
        subst e
        have e1 := h'.cellAt 0 (by omega)
        rw [rowZ_get kdV 1 (by decide) ls 0 (by omega)] at e1
        have e2 := hc 0 (by omega)
        rw [Nat.zero_add, e1] at e2
        cases e2
    exact (World.cell?_of_block (a := ⟨b, 0 + i, none⟩) (hg.block b hq.1 hne)).trans (hc i hi)

/-- Where the drawing of a handler stands. -/
structure Hn (d : Dr) (ve : Value) (W : World) (s : Cn) (X : World) (s1 : Cn) (t c : Nat) (vk : Value) (ls : List Kd) (vo : Value) (os : List Nat) : Prop where
  at_ : At d ve W s X s1 t c
  kids : X.ownsRow W.heap.size 53 1 vk ls.length (rowZ kdV 1 ls)
  ops : X.ownsRow W.heap.size 3 1 vo os.length (rowZ gnV 1 os)
  nodes : ∀ k ∈ ls, NodesD d X k.val k.ns
  some_ : 1 ≤ ls.length

theorem kd_lit {d : Dr} (X : World) (k : Kd) (h1 : d.B < X.heap.size) (h2 : d.G < X.heap.size) : Lies d (X.alloc (.cells #[.slice k.ad k.ns.length k.cp] 53)) (.slice (some ⟨X.heap.size, 0, none⟩) 1 1) [k].length 1 (fun i => kdV ([k].getD (i / 1) default) (i % 1)) :=
  lies_lit (f := kdV) (sz := 1) (by decide) X 53 [k] _ rfl h1 h2

theorem hn_start {d : Dr} {ve : Value} {W X : World} {s s1 : Cn} {t c : Nat} {vo : Value} {os : List Nat} (ha : At d ve W s X s1 t c) (ho : X.ownsRow W.heap.size 3 1 vo os.length (rowZ gnV 1 os)) (k1 k2 : Kd) (h1 : NodesD d X k1.val k1.ns) (h2 : NodesD d X k2.val k2.ns) :
    Hn d ve W s (X.alloc (.cells #[k1.val, k2.val] 53)) s1 t c (.slice (some ⟨X.heap.size, 0, none⟩) 2 2) [k1, k2] vo os := by
  have hg : Grew d X (X.alloc (.cells #[k1.val, k2.val] 53)) := (Grew.refl d X).alloc _
  refine ⟨ha.alloc _, World.ownsRow_lit (base := W.heap.size) (e := 53) (size := 1) X #[k1.val, k2.val] 2 ha.2.1.size (by unfold maxLen; omega) rfl, ho.alloc _, fun k hk => ?_, by simp⟩
  simp at hk
  rcases hk with rfl | rfl
  · exact h1.grew hg
  · exact h2.grew hg

/-- An operation in a block of its own. -/
def boxW (X : World) (nm : ByteArray) (ar re : Int) : World := (((X.alloc (.cells #[.string ⟨#[]⟩, .int .i64 0, .int .i64 0] 88)).setCell ⟨X.heap.size, 0, none⟩ (.string nm)).setCell ⟨X.heap.size, 1, none⟩ (.int .i64 ar)).setCell ⟨X.heap.size, 2, none⟩ (.int .i64 re)

theorem set_heap {W : World} {g i : Nat} {c : Array Value} {t : TypeId} {v : Value} (h : W.heap[g]? = some (.cells c t)) : (W.setCell ⟨g, i, none⟩ v).heap[g]? = some (.cells (c.setIfInBounds i v) t) := by
  rw [setCell_eq_setRow W g i c t (0, 0) v h]
  exact setRow_heap W g _ _ t _ h

theorem boxW_heap (X : World) (nm : ByteArray) (ar re : Int) : (boxW X nm ar re).heap[X.heap.size]? = some (.cells #[.string nm, .int .i64 ar, .int .i64 re] 88) :=
  set_heap (set_heap (set_heap (MapKept.heap_alloc X _).1))

theorem boxW_below (X : World) (nm : ByteArray) (ar re : Int) : Below X.heap.size X (boxW X nm ar re) :=
  (((((Below.refl _ _).alloc (Nat.le_refl _) _).setCell (Nat.le_refl _) _).setCell (Nat.le_refl _) _).setCell (Nat.le_refl _) _)

theorem ops_at {X : World} {B : Nat} {ad : Option Addr} {n cp : Nat} {os : List Nat} (h : X.ownsRow B 3 1 (.slice ad n cp) os.length (rowZ gnV 1 os)) {i : Nat} (hi : i < os.length) : ∃ g j, ad = some ⟨g, 0, none⟩ ∧ j ∈ os ∧ B ≤ g ∧ g < X.heap.size ∧ X.cell? ⟨g, i, none⟩ = some (.int .i64 (j : Int)) := by
  have h' := h
  obtain ⟨-, ⟨-, h0⟩ | ⟨g, cap, cur, e, hB, hc, -⟩⟩ := h
  · omega
  · cases e
    exact ⟨g, os.getD i default, rfl, getD_mem hi, hB, heap_lt hc, (h'.cellAt i (by omega)).trans ((rowZ_get gnV 1 (by decide) os i (by omega)).trans (by rw [Nat.div_one]; rfl))⟩

/-- A tree more. -/
theorem Hn.app {d : Dr} {ve : Value} {W wr X : World} {s s1 s2 : Cn} {t t' c c' : Nat} {vk vo : Value} {ls : List Kd} {os : List Nat} (h : Hn d ve W s wr s1 t c vk ls vo os) (h0 : Gen d ve W s) (ha : At d ve W s X s2 t' c') (hg : Grew d wr X) (k : Kd) (hk : NodesD d X k.val k.ns) (hl : ls.length ≤ 1000) (ty : TypeId) :
    ∃ v' X', (Builtin.append_ #[113, 113] ty #[vk, .slice (some ⟨X.heap.size, 0, none⟩) 1 1]).run Try.prog (X.alloc (.cells #[.slice k.ad k.ns.length k.cp] 53)) = .ok v' X' ∧ Hn d ve W s X' s2 t' c' v' (ls ++ [k]) vo os := by
  obtain ⟨i0, hinf, hz0, hz1, hz2⟩ := info_parts info_list
  have hkX := (g_grew h.kids h0.ltB h0.ltG hg).alloc (.cells #[.slice k.ad k.ns.length k.cp] 53)
  have hoX := (g_grew h.ops h0.ltB h0.ltG hg).alloc (.cells #[.slice k.ad k.ns.length k.cp] 53)
  have haX := ha.alloc (.cells #[.slice k.ad k.ns.length k.cp] 53)
  have hgX : Grew d X (X.alloc (.cells #[.slice k.ad k.ns.length k.cp] 53)) := (Grew.refl d X).alloc _
  have hli := kd_lit X k ha.1.ltB ha.1.ltG
  obtain ⟨v', X', hr, ho, hgr⟩ := app_row (d := d) kd_one Try.underlying113 hinf hz0 hz1 hz2 rfl (by decide) (by decide) hkX hli (by simp; omega) haX.2.1.size ty
  refine ⟨v', X', hr, haX.own h0 hgr (fun g hg => (hkX.lt g hg).1), ho, g_other hoX hkX hgr (by decide), fun x hx => ?_, by simp⟩
  rw [List.mem_append, List.mem_singleton] at hx
  rcases hx with hx | rfl
  · exact (((h.nodes x hx).grew hg).grew hgX).other hkX h.some_ hgr
  · exact (hk.grew hgX).other hkX h.some_ hgr
end Go.Proofs.Ytnbmhopoiijhoaa

/- A handler is drawn. -/
namespace Go.Proofs.Ytnbmhopoiijhoaa
open Go.RowKit Go.Deep

theorem bo_start {W X : World} (hs : W.heap.size ≤ X.heap.size) : (X.alloc (.cells #[] 4)).ownsRow W.heap.size 4 1 (.slice (some ⟨X.heap.size, 0, none⟩) 0 0) ([] : List Bool).length (rowZ boV 1 []) := World.ownsRow_made X #[] 0 hs (Nat.zero_le _) rfl

/-- What the first loop bears: which operations are handled. -/
structure Pk (d : Dr) (ve : Value) (W : World) (s : Cn) (X : World) (s1 : Cn) (t c : Nat) (vi : Value) (ms : List Bool) (vo : Value) (os : List Nat) (E : Nat) : Prop where
  at_ : At d ve W s X s1 t c
  may : X.ownsRow W.heap.size 4 1 vi ms.length (rowZ boV 1 ms)
  ops : X.ownsRow W.heap.size 3 1 vo os.length (rowZ gnV 1 os)
  len : ms.length = E
  lt : ∀ j ∈ os, j < E
  few : os.length ≤ 4

theorem Pk.grew {d : Dr} {ve : Value} {W X X' : World} {s s1 s2 : Cn} {t t' c c' : Nat} {vi vo : Value} {ms : List Bool} {os : List Nat} {E : Nat} (h : Pk d ve W s X s1 t c vi ms vo os E) (h0 : Gen d ve W s) (ha : At d ve W s X' s2 t' c') (hg : Grew d X X') : Pk d ve W s X' s2 t' c' vi ms vo os E :=
  ⟨ha, g_grew h.may h0.ltB h0.ltG hg, g_grew h.ops h0.ltB h0.ltG hg, h.len, h.lt, h.few⟩

theorem in_lit {d : Dr} (X : World) (j : Nat) (h1 : d.B < X.heap.size) (h2 : d.G < X.heap.size) : Lies d (X.alloc (.cells #[.int .i64 (j : Int)] 3)) (.slice (some ⟨X.heap.size, 0, none⟩) 1 1) [j].length 1 (fun i => gnV ([j].getD (i / 1) default) (i % 1)) :=
  lies_lit (f := gnV) (sz := 1) (by decide) X 3 [j] _ rfl h1 h2

/-- An operation more is handled. -/
theorem Pk.app {d : Dr} {ve : Value} {W X : World} {s s1 : Cn} {t c : Nat} {vi vo : Value} {ms : List Bool} {os : List Nat} {E : Nat} (h : Pk d ve W s X s1 t c vi ms vo os E) (h0 : Gen d ve W s) (j : Nat) (hj : j < E) (hf : os.length < 4) (ty : TypeId) :
    ∃ v' X', (Builtin.append_ #[40, 40] ty #[vo, .slice (some ⟨X.heap.size, 0, none⟩) 1 1]).run Try.prog (X.alloc (.cells #[.int .i64 (j : Int)] 3)) = .ok v' X' ∧ Pk d ve W s X' s1 t c vi ms v' (os ++ [j]) E := by
  obtain ⟨i0, hinf, hz0, hz1, hz2⟩ := info_parts info_int
  have hmX := h.may.alloc (.cells #[.int .i64 (j : Int)] 3)
  have hoX := h.ops.alloc (.cells #[.int .i64 (j : Int)] 3)
  have haX := h.at_.alloc (.cells #[.int .i64 (j : Int)] 3)
  obtain ⟨v', X', hr, ho, hgr⟩ := app_row (d := d) in_one Try.underlying40 hinf hz0 hz1 hz2 rfl (by decide) (by decide) hoX (in_lit X j h.at_.1.ltB h.at_.1.ltG) (by simp; omega) haX.2.1.size ty
  refine ⟨v', X', hr, haX.own h0 hgr (fun g hg => (hoX.lt g hg).1), g_other hmX hoX hgr (by decide), ho, h.len, fun x hx => ?_, by simp; omega⟩
  rw [List.mem_append, List.mem_singleton] at hx
  rcases hx with hx | rfl
  · exact h.lt x hx
  · exact hj

/-- It may be performed inside. -/
theorem Pk.set {d : Dr} {ve : Value} {W X : World} {s s1 : Cn} {t c : Nat} {vi vo : Value} {ms : List Bool} {os : List Nat} {E : Nat} (h : Pk d ve W s X s1 t c vi ms vo os E) (h0 : Gen d ve W s) (j : Nat) (hj : j < E) :
    ∃ g cap u, vi = .slice (some ⟨g, 0, none⟩) E cap ∧ X.cell? ⟨g, j, none⟩ = some u ∧ X.frozen? ⟨g, j, none⟩ = false ∧ Pk d ve W s (X.setCell ⟨g, j, none⟩ (.bool true)) s1 t c vi (ms.set j true) vo os E := by
  obtain ⟨g, cap, u, rfl, hB, hlt, hc, hf, hown, hgr⟩ := bools_set h.may (i := j) (by rw [h.len]; exact hj) true
  refine ⟨g, cap, u, by rw [h.len], hc, hf, h.at_.own h0 hgr (fun k hk => by cases hk; exact hB), hown, g_same h.ops (fun k hk => hgr.block k (h.ops.lt k hk).2 (fun e => ?_)), by rw [List.length_set]; exact h.len, h.lt, h.few⟩
  cases e
  obtain ⟨-, c1, hc1⟩ := g_type h.ops hk
  obtain ⟨-, c2, hc2⟩ := g_type h.may (g := g) rfl
  rw [hc1] at hc2
  cases hc2

set_option maxHeartbeats 8000000 in
set_option maxRecDepth 100000 in
/-- A handler. -/
theorem handler_calls {d : Dr} {ve v vm : Value} {es : List Ef} {W : World} {s : Cn} {ks : List Kn} {ms : List Bool} {D : Nat} (ty : Int) (deep : Int) (hO : OfC d ve es D) (h1 : deep ≤ D) (h2 : -90 ≤ deep) (h3 : D ≤ 100) (h : Gen d ve W s) (hf : Fit s 250) (hE : Env d ve es W v ks vm ms (D + 1)) :
    Calls Try.prog 58 #[.pointer (some ⟨d.G, 0, none⟩), .int .i64 ty, v, vm, .int .i64 deep] W (NodesPost d ve W s 250) := by
  have HF := hid hf
  have HO := hid hO
  have A0 := hid (At.start h)
  have HE := hid hE
  have HD := hid (And.intro h1 (And.intro h2 h3))
  have hdu : deep ≤ 1000 := by omega
  obtain ⟨ad, cp, rfl⟩ := hE.know.is
  obtain ⟨adm, cpm, rfl⟩ := hE.may.is
  have H0 := hid h
  obtain ⟨ade, cpe, rfl⟩ := hE.effs.is
  clear hO h1 h3 h hf hE
  have HL : Hid (es.length ≤ 4 ∧ ms.length = es.length) := ⟨HE.out.few, HE.out.len⟩
  obtain ⟨ib, hbi, hb0, hb1, hb2⟩ := info_parts info_bool
  go_enter Try.func58, Try.ntmps58
  have HEW := HE
  have g0 := A0.out.1.c0
  go_wp2_with fail
  refine (A0.out.pick HF.out (by omega) 4 (by decide)).mono ?_
  rintro e X1 ⟨m1, s1, rfl, hm1, hM1, ha, hg⟩
  have A1 := hid ha
  have G1 := hid hg
  clear ha hg
  clear g0
  have hcs : m1 = 0 ∨ 1 ≤ m1 := by omega
  rcases hcs with rfl | h1
  · clear hm1
    have bs := hid (bo_start (W := W) (X := X1) A1.out.2.1.size)
    go_wp2_with (at_builtin; refine wpList_append_by rfl _ _ 80 rfl _ _ rfl rfl (fun ty => app_row (d := d) bo_one Try.underlying80 hbi hb0 hb1 hb2 rfl (by decide) (by decide) bs.out (bools_lies ((HE.out.grew G1.out).may.grew ((Grew.refl d X1).alloc _))) (by have := HL.out; simp; omega) (by have := A1.out.2.1.size; simp; omega) ty) ?_; intro vi Xi hvi; have AI := hid (And.intro ((A1.out.alloc _).own H0.out hvi.2 (fun g hg => (bs.out.lt g hg).1)) hvi.1); clear hvi)
    rw [List.nil_append] at AI
    obtain ⟨adi, cpi, rfl⟩ := g_is AI.out.2
    have P0 : Hid (Pk d (.slice ade es.length cpe) W s Xi _ _ _ (.slice adi ms.length cpi) ms (.slice none 0 0) [] es.length) := ⟨AI.out.1, AI.out.2, World.ownsRow_nil _ _ _ _, HL.out.2, fun j hj => by simp at hj, by simp⟩
    clear bs AI
    go_loopw [13, 14] (fun o i wr => ∃ (i' : Nat) (ms' : List Bool) (os' : List Nat) (s' : Cn) (t' c' : Nat), i = .int .i64 i' ∧ i' ≤ es.length ∧ Hid (Pk d (.slice ade es.length cpe) W s wr s' t' c' (.slice adi ms.length cpi) ms' o os' es.length) ∧ Hid (c' ≤ 1 + i')) (fun _ i _ => es.length - (intOf i).toNat)
    case atStart => exact ⟨0, ms, [], _, _, _, rfl, Nat.zero_le _, P0, by show _ ≤ _; omega⟩
    case round =>
      obtain ⟨i', ms', os', s', t', c', rfl, hle, HP, HC⟩ := hrel
      obtain ⟨ado, cpo, rfl⟩ := g_is HP.out.ops
      have g0 := HP.out.at_.1.c0
      have g1 := HP.out.at_.1.c1
      by_cases hi : (i' : Int) < (es.length : Int)
      · obtain ⟨g, cap, u, hv, -, -, -⟩ := HP.out.set H0.out i' (by omega)
        simp only [Value.slice.injEq] at hv
        obtain ⟨rfl, -, rfl⟩ := hv
        have hi0 : (0 : Int) ≤ (i' : Int) := by omega
        have hi2 : (i' : Int) < (ms.length : Int) := by have := HL.out.2; omega
        have hstep : es.length - (intOf (.int .i64 ((i' + 1 : Nat) : Int))).toNat < es.length - (intOf (.int .i64 (i' : Int))).toNat := lt_step hi
        go_wp2_with fail
        refine (HP.out.at_.pick HF.out (by have := HC.out; have := HL.out.1; omega) 2 (by decide)).mono ?_
        rintro e X2 ⟨m, s2, rfl, hm0, hm1, ha, hg⟩
        have HP2 := hid (HP.out.grew H0.out ha hg)
        clear ha hg g0 g1 HP P0
        by_cases hm : m = 0
        · subst hm
          by_cases hf : (os'.length : Int) < 4
          · go_wp2_with (at_builtin; refine wpList_append_by rfl _ _ 40 rfl _ _ rfl rfl (fun ty => HP2.out.app H0.out i' (by omega) (by omega) ty) ?_; intro v3 X3 hv3; obtain ⟨ad3, cp3, hv9⟩ := g_is hv3.ops; rw [show (os' ++ [i']).length = os'.length + 1 by simp] at hv9; subst hv9; obtain ⟨g', cap', u', hv', hcu, hfu, hset⟩ := hv3.set H0.out i' (by omega); have HP4 := hid hset; simp only [Value.slice.injEq, Option.some.injEq, Addr.mk.injEq] at hv'; obtain ⟨⟨rfl, -⟩, -, rfl⟩ := hv'; clear hv3 hset)
            rw [wrap_succ (by have := HL.out.1; omega)]
            exact ⟨⟨i' + 1, _, _, s2, t' + 1, c' + 1, rfl, by omega, HP4, by show _ ≤ _; have := HC.out; omega⟩, hstep⟩
          · go_wp2_with fail
            rw [wrap_succ (by have := HL.out.1; omega)]
            exact ⟨⟨i' + 1, _, _, s2, t' + 1, c' + 1, rfl, by omega, HP2, by show _ ≤ _; have := HC.out; omega⟩, hstep⟩
        · have hz : (m == 0) = false := by simp [hm]
          go_wp2_with fail
          rw [wrap_succ (by have := HL.out.1; omega)]
          exact ⟨⟨i' + 1, _, _, s2, t' + 1, c' + 1, rfl, by omega, HP2, by show _ ≤ _; have := HC.out; omega⟩, hstep⟩
      · have ei : i' = es.length := by omega
        have hc5 : c' ≤ 5 := by have := HC.out; have := HL.out.1; omega
        have AH := hid HP.out.at_
        have HE2 := hid (HE.out.grew AH.out.2.1)
        have MI := hid (And.intro (bools_own (d := d) HP.out.may H0.out.ltB H0.out.ltG) HP.out.len)
        have HOs := hid (And.intro HP.out.lt HP.out.few)
        have OR := hid HP.out.ops
        clear HE HP P0 HC ei
        have HE := HE2
        clear HE2
        rename World => Y0
        go_wp2_with fail
        refine (AH.out.name HF.out (by omega)).mono ?_
        rintro e X2 ⟨x2, s2, rfl, hb2, ha, hg⟩
        have A2 := hid ha
        have G2 := hid hg
        clear ha hg
        have B2 := hid hb2
        clear hb2
        clear g0 g1
        go_wp2_with fail
        refine (A2.out.nodes (HO.out deep ty _ _ _ _ _ _ (by have := HD.out; omega) (by have := HD.out; omega) (A2.out.fit HF.out 10 (by omega)) A2.out.1 ((HE.out.grew G2.out).let (MI.out.1.grew G2.out) MI.out.2))).mono ?_
        rintro e X3 ⟨v3, n3, s3, t3, rfl, hn3, hl3, ha, hg⟩
        have A3 := hid ha
        have G3 := hid hg
        clear ha hg
        have N3 := hid (And.intro hn3 hl3)
        obtain ⟨ad3, cp3, rfl⟩ := hn3.is
        clear hn3 hl3
        go_wp2_with fail
        refine (A3.out.add x2 ty 0 (HE.out.grew (G2.out.trans G3.out)).know B2.out (by have := HE.out.room; omega)).mono ?_
        rintro e X4 ⟨u4, ks4, rfl, hk4, hkl4, ha, hg⟩
        have A4 := hid ha
        have G4 := hid hg
        clear ha hg
        have K4 := hid (And.intro hk4 hkl4)
        obtain ⟨ad4, cp4, rfl⟩ := hk4.is
        clear hk4 hkl4
        go_wp2_with fail
        refine (A4.out.nodes (HO.out deep ty _ _ _ _ _ _ (by have := HD.out; omega) (by have := HD.out; omega) (A4.out.fit HF.out 10 (by omega)) A4.out.1 ((HE.out.grew (G2.out.trans (G3.out.trans G4.out))).with K4.out.1 (by have := K4.out.2; omega)))).mono ?_
        rintro e X5 ⟨v5, n5, s5, t5, rfl, hn5, hl5, ha, hg⟩
        have A5 := hid ha
        have G5 := hid hg
        clear ha hg
        have N5 := hid (And.intro hn5 hl5)
        obtain ⟨ad5, cp5, rfl⟩ := hn5.is
        clear hn5 hl5
        go_wp2_with fail
        refine (A5.out.put1 25 0 0 x2 ByteArray.empty ByteArray.empty N5.out.1 ⟨B2.out, brief_none, brief_none⟩ (by have := A5.out.bound HF.out (by omega) (by decide); have := N5.out.2; omega)).mono ?_
        rintro e X6 ⟨v6, n6, rfl, hn6, hl6, ha, hg⟩
        have A6 := hid ha
        have G6 := hid hg
        clear ha hg
        have N6 := hid (And.intro hn6 hl6)
        obtain ⟨ad6, cp6, rfl⟩ := hn6.is
        clear hn6 hl6
        have HS : Hid (Hn d (.slice ade es.length cpe) W s (X6.alloc (.cells #[.slice ad3 n3.length cp3, .slice ad6 n6.length cp6] 53)) _ _ _ (.slice (some ⟨X6.heap.size, 0, none⟩) 2 2) [⟨ad3, cp3, n3⟩, ⟨ad6, cp6, n6⟩] (.slice ado os'.length cpo) os') := hn_start A6.out (g_grew OR.out H0.out.ltB H0.out.ltG (G2.out.trans (G3.out.trans (G4.out.trans (G5.out.trans G6.out))))) ⟨ad3, cp3, n3⟩ ⟨ad6, cp6, n6⟩ (N3.out.1.grew (G4.out.trans (G5.out.trans G6.out))) N6.out.1
        have hfl : (flatL (kdL [⟨ad3, cp3, n3⟩, ⟨ad6, cp6, n6⟩])).length ≤ n3.length + n6.length := by simp [flatL, kdL]
        go_wp2_with fail
        go_loopw [16, 17] (fun kv i wr => ∃ (i2 : Nat) (ls : List Kd) (s2 : Cn) (t2 c2 : Nat), i = .int .i64 i2 ∧ i2 ≤ os'.length ∧ Hid (Hn d (.slice ade es.length cpe) W s wr s2 t2 c2 kv ls (.slice ado os'.length cpo) os') ∧ Hid (c2 ≤ 30 + 40 * i2 ∧ ls.length = 2 + i2 ∧ (flatL (kdL ls)).length ≤ t2 + 3 + 8 * i2)) (fun _ i _ => os'.length - (intOf i).toNat)
        case atStart => exact ⟨0, [⟨ad3, cp3, n3⟩, ⟨ad6, cp6, n6⟩], _, _, _, rfl, Nat.zero_le _, HS, by omega, rfl, by have := N3.out.2; have := N6.out.2; have := N5.out.2; omega⟩
        case round =>
          obtain ⟨i2, ls, s2, t2, c2, rfl, hle2, HH, HB⟩ := hrel
          obtain ⟨adk, cpk, rfl⟩ := g_is HH.out.kids
          by_cases hj : (i2 : Int) < (os'.length : Int)
          · rename World => Y1
            have hc2 : c2 + 40 ≤ 190 := by have := HB.out; have := HOs.out.2; omega
            have AR := hid HH.out.at_
            obtain ⟨go, j, rfl, hjo, hgB, hgl, cj⟩ := ops_at HH.out.ops (i := i2) (by omega)
            have hjE : j < es.length := HOs.out.1 j hjo
            have HEr := hid (HEW.out.grew AR.out.2.1)
            obtain ⟨be, oe, xn, xa, xr, rfl, -, hbr, hqe, c0, c1, c2'⟩ := HEr.out.effs.at (i := j) hjE
            have HQ := hid (And.intro hqe (And.intro hbr (And.intro hgl (And.intro (show go ≠ d.B by have := H0.out.ltB; omega) (show go ≠ d.G by have := H0.out.ltG; omega)))))
            have HE := HEr
            have hj0 : (0 : Int) ≤ (j : Int) := by omega
            have hj1 : (j : Int) < (es.length : Int) := by omega
            have hi20 : (0 : Int) ≤ (i2 : Int) := by omega
            have hstep : os'.length - (intOf (.int .i64 ((i2 + 1 : Nat) : Int))).toNat < os'.length - (intOf (.int .i64 (i2 : Int))).toNat := lt_step hj
            clear hqe hbr hgl hgB hjE hjo
            go_upto_region 17 with fail
            refine pick_begin (S := fun w' => w'.cell? ⟨d.G, 1, none⟩ = some (.slice (some ⟨be, oe, none⟩) es.length cpe) ∧ w'.cell? ⟨go, i2, none⟩ = some (.int .i64 (j : Int)) ∧ w'.cell? ⟨be, oe + j * 3, none⟩ = some (.string xn) ∧ w'.cell? ⟨be, oe + j * 3 + 1, none⟩ = some (.int .i64 xa) ∧ w'.cell? ⟨be, oe + j * 3 + 2, none⟩ = some (.int .i64 xr)) (by kernel_rfl) rfl rfl ?_
            have A7 := hid AR.out.drew
            have G7 := hid (Grew.refl d Y1).drew
            generalize Y1.drew = X7 at *
            refine pick_op (i := 0) (v := .pointer (some ⟨d.G, 0, none⟩)) (by kernel_rfl) rfl (by kernel_rfl) (by kernel_rfl) rfl rfl (fun w' hw => by simp [go_sem]) ⟨A7.out.1.c1, ((G7.out.cell (p := ⟨go, i2, none⟩) ⟨HQ.out.2.2.1, HQ.out.2.2.2.1, HQ.out.2.2.2.2⟩).trans cj), ((G7.out.cell (p := ⟨be, oe + j * 3, none⟩) HQ.out.1).trans c0), ((G7.out.cell (p := ⟨be, oe + j * 3 + 1, none⟩) HQ.out.1).trans c1), ((G7.out.cell (p := ⟨be, oe + j * 3 + 2, none⟩) HQ.out.1).trans c2')⟩ (by simp [go_sem]; exact rfl) ?_
            refine pick_op (i := 1) (v := .pointer (some ⟨d.G, 0, none⟩)) (by kernel_rfl) rfl (by kernel_rfl) (by kernel_rfl) rfl rfl (fun w' hw => by simp [go_sem]) ⟨A7.out.1.c1, ((G7.out.cell (p := ⟨go, i2, none⟩) ⟨HQ.out.2.2.1, HQ.out.2.2.2.1, HQ.out.2.2.2.2⟩).trans cj), ((G7.out.cell (p := ⟨be, oe + j * 3, none⟩) HQ.out.1).trans c0), ((G7.out.cell (p := ⟨be, oe + j * 3 + 1, none⟩) HQ.out.1).trans c1), ((G7.out.cell (p := ⟨be, oe + j * 3 + 2, none⟩) HQ.out.1).trans c2')⟩ (by simp [go_sem]; exact rfl) ?_
            refine pick_op (i := 2) (v := .pointer (some ⟨d.G, 1, none⟩)) (by kernel_rfl) rfl (by kernel_rfl) (by kernel_rfl) rfl rfl (fun w' hw => by simp [go_sem]) ⟨A7.out.1.c1, ((G7.out.cell (p := ⟨go, i2, none⟩) ⟨HQ.out.2.2.1, HQ.out.2.2.2.1, HQ.out.2.2.2.2⟩).trans cj), ((G7.out.cell (p := ⟨be, oe + j * 3, none⟩) HQ.out.1).trans c0), ((G7.out.cell (p := ⟨be, oe + j * 3 + 1, none⟩) HQ.out.1).trans c1), ((G7.out.cell (p := ⟨be, oe + j * 3 + 2, none⟩) HQ.out.1).trans c2')⟩ (by simp [go_sem]; exact rfl) ?_
            refine pick_op (i := 3) (v := .slice (some ⟨be, oe, none⟩) es.length cpe) (by kernel_rfl) rfl (by kernel_rfl) (by kernel_rfl) rfl rfl (fun w' hw => by simp [go_sem, hw.1]) ⟨A7.out.1.c1, ((G7.out.cell (p := ⟨go, i2, none⟩) ⟨HQ.out.2.2.1, HQ.out.2.2.2.1, HQ.out.2.2.2.2⟩).trans cj), ((G7.out.cell (p := ⟨be, oe + j * 3, none⟩) HQ.out.1).trans c0), ((G7.out.cell (p := ⟨be, oe + j * 3 + 1, none⟩) HQ.out.1).trans c1), ((G7.out.cell (p := ⟨be, oe + j * 3 + 2, none⟩) HQ.out.1).trans c2')⟩ (by simp [go_sem]; exact rfl) ?_
            refine pick_op (i := 4) (v := (.slice (some ⟨go, 0, none⟩) os'.length cpo)) (by kernel_rfl) rfl (by kernel_rfl) (by kernel_rfl) rfl rfl (fun w' hw => by simp [go_sem]) ⟨A7.out.1.c1, ((G7.out.cell (p := ⟨go, i2, none⟩) ⟨HQ.out.2.2.1, HQ.out.2.2.2.1, HQ.out.2.2.2.2⟩).trans cj), ((G7.out.cell (p := ⟨be, oe + j * 3, none⟩) HQ.out.1).trans c0), ((G7.out.cell (p := ⟨be, oe + j * 3 + 1, none⟩) HQ.out.1).trans c1), ((G7.out.cell (p := ⟨be, oe + j * 3 + 2, none⟩) HQ.out.1).trans c2')⟩ (by simp [go_sem]; exact rfl) ?_
            refine pick_op (i := 5) (v := .int .i64 (i2 : Int)) (by kernel_rfl) rfl (by kernel_rfl) (by kernel_rfl) rfl rfl (fun w' hw => by simp [go_sem]) ⟨A7.out.1.c1, ((G7.out.cell (p := ⟨go, i2, none⟩) ⟨HQ.out.2.2.1, HQ.out.2.2.2.1, HQ.out.2.2.2.2⟩).trans cj), ((G7.out.cell (p := ⟨be, oe + j * 3, none⟩) HQ.out.1).trans c0), ((G7.out.cell (p := ⟨be, oe + j * 3 + 1, none⟩) HQ.out.1).trans c1), ((G7.out.cell (p := ⟨be, oe + j * 3 + 2, none⟩) HQ.out.1).trans c2')⟩ (by simp [go_sem]; exact rfl) ?_
            refine pick_op (i := 6) (v := .pointer (some ⟨go, i2, none⟩)) (by kernel_rfl) rfl (by kernel_rfl) (by kernel_rfl) rfl rfl (fun w' hw => by simp [go_sem, hi20, hj]) ⟨A7.out.1.c1, ((G7.out.cell (p := ⟨go, i2, none⟩) ⟨HQ.out.2.2.1, HQ.out.2.2.2.1, HQ.out.2.2.2.2⟩).trans cj), ((G7.out.cell (p := ⟨be, oe + j * 3, none⟩) HQ.out.1).trans c0), ((G7.out.cell (p := ⟨be, oe + j * 3 + 1, none⟩) HQ.out.1).trans c1), ((G7.out.cell (p := ⟨be, oe + j * 3 + 2, none⟩) HQ.out.1).trans c2')⟩ (by simp [go_sem]; exact rfl) ?_
            refine pick_op (i := 7) (v := .int .i64 (j : Int)) (by kernel_rfl) rfl (by kernel_rfl) (by kernel_rfl) rfl rfl (fun w' hw => by simp [go_sem, hw.2.1]) ⟨A7.out.1.c1, ((G7.out.cell (p := ⟨go, i2, none⟩) ⟨HQ.out.2.2.1, HQ.out.2.2.2.1, HQ.out.2.2.2.2⟩).trans cj), ((G7.out.cell (p := ⟨be, oe + j * 3, none⟩) HQ.out.1).trans c0), ((G7.out.cell (p := ⟨be, oe + j * 3 + 1, none⟩) HQ.out.1).trans c1), ((G7.out.cell (p := ⟨be, oe + j * 3 + 2, none⟩) HQ.out.1).trans c2')⟩ (by simp [go_sem]; exact rfl) ?_
            refine pick_op (i := 8) (v := .pointer (some ⟨be, oe + j * 3, none⟩)) (by kernel_rfl) rfl (by kernel_rfl) (by kernel_rfl) rfl rfl (fun w' hw => by simp [go_sem, hj0, hj1]) ⟨A7.out.1.c1, ((G7.out.cell (p := ⟨go, i2, none⟩) ⟨HQ.out.2.2.1, HQ.out.2.2.2.1, HQ.out.2.2.2.2⟩).trans cj), ((G7.out.cell (p := ⟨be, oe + j * 3, none⟩) HQ.out.1).trans c0), ((G7.out.cell (p := ⟨be, oe + j * 3 + 1, none⟩) HQ.out.1).trans c1), ((G7.out.cell (p := ⟨be, oe + j * 3 + 2, none⟩) HQ.out.1).trans c2')⟩ (by simp [go_sem]; exact rfl) ?_
            refine pick_op (i := 9) (v := .agg #[.string xn, .int .i64 xa, .int .i64 xr]) (by kernel_rfl) rfl (by kernel_rfl) (by kernel_rfl) rfl rfl (fun w' hw => by simp [go_sem, hw.2.2.1, hw.2.2.2.1, hw.2.2.2.2]) ⟨A7.out.1.c1, ((G7.out.cell (p := ⟨go, i2, none⟩) ⟨HQ.out.2.2.1, HQ.out.2.2.2.1, HQ.out.2.2.2.2⟩).trans cj), ((G7.out.cell (p := ⟨be, oe + j * 3, none⟩) HQ.out.1).trans c0), ((G7.out.cell (p := ⟨be, oe + j * 3 + 1, none⟩) HQ.out.1).trans c1), ((G7.out.cell (p := ⟨be, oe + j * 3 + 2, none⟩) HQ.out.1).trans c2')⟩ (by simp [go_sem]; exact rfl) ?_
            have A8 := hid (A7.out.alloc (.cells #[.string ⟨#[]⟩, .int .i64 0, .int .i64 0] 88))
            have G8 := hid ((Grew.refl d X7).alloc (.cells #[.string ⟨#[]⟩, .int .i64 0, .int .i64 0] 88))
            refine pick_make (i := 10) (v := .pointer (some ⟨X7.heap.size, 0, none⟩)) (w1 := X7.alloc (.cells #[.string ⟨#[]⟩, .int .i64 0, .int .i64 0] 88)) rfl (by kernel_rfl) rfl rfl (by simp [go_sem]) ⟨A8.out.1.c1, (((G7.out.trans G8.out).cell (p := ⟨go, i2, none⟩) ⟨HQ.out.2.2.1, HQ.out.2.2.2.1, HQ.out.2.2.2.2⟩).trans cj), (((G7.out.trans G8.out).cell (p := ⟨be, oe + j * 3, none⟩) HQ.out.1).trans c0), (((G7.out.trans G8.out).cell (p := ⟨be, oe + j * 3 + 1, none⟩) HQ.out.1).trans c1), (((G7.out.trans G8.out).cell (p := ⟨be, oe + j * 3 + 2, none⟩) HQ.out.1).trans c2')⟩ (by simp [go_sem]; exact rfl) ?_
            have EB := hid (boxW_heap X7 xn xa xr)
            have A9 := hid (A7.out.below (boxW_below X7 xn xa xr))
            have G9 : Hid (Grew d X7 (boxW X7 xn xa xr)) := Grew.of_below (boxW_below X7 xn xa xr)
            have HQ2 := hid (And.intro A7.out.1.ltB A7.out.1.ltG)
            refine pick_skip (i := 11) (w1 := boxW X7 xn xa xr) rfl rfl (by kernel_rfl) rfl rfl (by simp [go_sem, boxW]) ⟨A9.out.1.c1, (((G7.out.trans G9.out).cell (p := ⟨go, i2, none⟩) ⟨HQ.out.2.2.1, HQ.out.2.2.2.1, HQ.out.2.2.2.2⟩).trans cj), (((G7.out.trans G9.out).cell (p := ⟨be, oe + j * 3, none⟩) HQ.out.1).trans c0), (((G7.out.trans G9.out).cell (p := ⟨be, oe + j * 3 + 1, none⟩) HQ.out.1).trans c1), (((G7.out.trans G9.out).cell (p := ⟨be, oe + j * 3 + 2, none⟩) HQ.out.1).trans c2')⟩ ?_
            refine pick_end (by kernel_rfl) ?_
            obtain ⟨bq, hbq⟩ : ∃ q, X7.heap.size = q := ⟨_, rfl⟩
            generalize boxW X7 xn xa xr = X9 at *
            rw [hbq] at EB HQ2 ⊢
            clear hbq cj c0 c1 c2' A8 G8
            go_wp2_with fail
            refine (A9.out.name HF.out (by omega)).mono ?_
            rintro e X10 ⟨x10, s10, rfl, hb10, ha, hg⟩
            have A10 := hid ha
            have G10 := hid hg
            clear ha hg
            have B10 := hid hb10
            clear hb10
            go_wp2_with fail
            refine (A10.out.name HF.out (by omega)).mono ?_
            rintro e X11 ⟨x11, s11, rfl, hb11, ha, hg⟩
            have A11 := hid ha
            have G11 := hid hg
            clear ha hg
            have B11 := hid hb11
            clear hb11
            have ec := (((G10.out.trans G11.out)).cell (p := ⟨bq, 1, none⟩) ⟨heap_lt EB.out, (show bq ≠ d.B by have := HQ2.out.1; omega), (show bq ≠ d.G by have := HQ2.out.2; omega)⟩).trans (cell_of_heap EB.out 1)
            have ec : X11.cell? ⟨bq, 1, none⟩ = some (.int .i64 xa) := ec
            go_wp2_with fail
            refine (base_calls xa _).mono ?_
            rintro e W9 ⟨rfl, rfl⟩
            clear ec
            go_wp2_with fail
            refine (A11.out.add x10 xa 0 (HE.out.grew (G7.out.trans (G9.out.trans (G10.out.trans G11.out)))).know B10.out (by have := HE.out.room; omega)).mono ?_
            rintro e X12 ⟨u12, ks12, rfl, hk12, hkl12, ha, hg⟩
            have A12 := hid ha
            have G12 := hid hg
            clear ha hg
            have K12 := hid (And.intro hk12 hkl12)
            obtain ⟨ad12, cp12, rfl⟩ := hk12.is
            clear hk12 hkl12
            have g0 := A12.out.1.c0
            go_wp2_with fail
            refine (A12.out.pick HF.out (by omega) 6 (by decide)).mono ?_
            rintro e X13 ⟨m13, s13, rfl, hm13, hM13, ha, hg⟩
            have A13 := hid ha
            have G13 := hid hg
            clear ha hg
            clear g0
            by_cases hm6 : m13 = 0
            · subst hm6
              have ec := (((G10.out.trans (G11.out.trans (G12.out.trans G13.out)))).cell (p := ⟨bq, 2, none⟩) ⟨heap_lt EB.out, (show bq ≠ d.B by have := HQ2.out.1; omega), (show bq ≠ d.G by have := HQ2.out.2; omega)⟩).trans (cell_of_heap EB.out 2)
              have ec : X13.cell? ⟨bq, 2, none⟩ = some (.int .i64 xr) := ec
              go_wp2_with fail
              refine (base_calls xr _).mono ?_
              rintro e W9 ⟨rfl, rfl⟩
              clear ec
              go_wp2_with fail
              refine (A13.out.add x11 (wrap64 (10 + ty)) xr (K12.out.1.grew G13.out) B11.out (by have := HE.out.room; have := K12.out.2; omega)).mono ?_
              rintro e X14 ⟨u14, ks14, rfl, hk14, hkl14, ha, hg⟩
              have A14 := hid ha
              have G14 := hid hg
              clear ha hg
              have K14 := hid (And.intro hk14 hkl14)
              obtain ⟨ad14, cp14, rfl⟩ := hk14.is
              clear hk14 hkl14
              go_wp2_with fail
              refine (A14.out.nodes (HO.out deep ty _ _ _ _ _ _ (by have := HD.out; omega) (by have := HD.out; omega) (A14.out.fit HF.out 10 (by omega)) A14.out.1 ((HE.out.grew (G7.out.trans (G9.out.trans (G10.out.trans (G11.out.trans (G12.out.trans (G13.out.trans G14.out))))))).with K14.out.1 (by have := K12.out.2; have := K14.out.2; omega)))).mono ?_
              rintro e X15 ⟨v15, n15, s15, t15, rfl, hn15, hl15, ha, hg⟩
              have A15 := hid ha
              have G15 := hid hg
              clear ha hg
              have N15 := hid (And.intro hn15 hl15)
              obtain ⟨ad15, cp15, rfl⟩ := hn15.is
              clear hn15 hl15
              have ec := (((G10.out.trans (G11.out.trans (G12.out.trans (G13.out.trans (G14.out.trans G15.out)))))).cell (p := ⟨bq, 0, none⟩) ⟨heap_lt EB.out, (show bq ≠ d.B by have := HQ2.out.1; omega), (show bq ≠ d.G by have := HQ2.out.2; omega)⟩).trans (cell_of_heap EB.out 0)
              have ec : X15.cell? ⟨bq, 0, none⟩ = some (.string xn) := ec
              go_wp2_with fail
              refine (A15.out.put1 26 0 0 xn x10 x11 N15.out.1 ⟨HQ.out.2.1, B10.out, B11.out⟩ (by have := A15.out.bound HF.out (by omega) (by decide); have := N15.out.2; omega)).mono ?_
              rintro e X16 ⟨v16, n16, rfl, hn16, hl16, ha, hg⟩
              have A16 := hid ha
              have G16 := hid hg
              clear ha hg
              have N16 := hid (And.intro hn16 hl16)
              obtain ⟨ad16, cp16, rfl⟩ := hn16.is
              clear hn16 hl16
              clear ec
              have HFl : Hid ((flatL (kdL (ls ++ [⟨ad16, cp16, n16⟩]))).length = (flatL (kdL ls)).length + n16.length) := by show _ = _; simp [flatL, kdL]
              have HLL : Hid (ls.length ≤ 1000) := by show _ ≤ _; have := HB.out; have := HOs.out.2; omega
              go_wp2_with (at_builtin; refine wpList_append_by rfl _ _ 113 rfl _ _ rfl rfl (fun ty_ => HH.out.app H0.out A16.out (G7.out.trans (G9.out.trans (G10.out.trans (G11.out.trans (G12.out.trans (G13.out.trans (G14.out.trans (G15.out.trans G16.out)))))))) ⟨ad16, cp16, n16⟩ N16.out.1 HLL.out ty_) ?_; intro vq Xq hvq; have HQQ := hid hvq; clear hvq)
              rw [wrap_succ (by have := HOs.out.2; omega)]
              exact ⟨⟨i2 + 1, ls ++ [⟨ad16, cp16, n16⟩], _, _, _, rfl, by omega, HQQ, by have := HB.out; omega, by have := HB.out; simp; omega, by have := HB.out; have := HFl.out; have := N16.out.2; have := N15.out.2; omega⟩, hstep⟩
            · have z6 : (m13 == 0) = false := by simp [hm6]
              go_wp2_with fail
              refine (A13.out.nodes (HO.out deep ty _ _ _ _ _ _ (by have := HD.out; omega) (by have := HD.out; omega) (A13.out.fit HF.out 10 (by omega)) A13.out.1 ((HE.out.grew (G7.out.trans (G9.out.trans (G10.out.trans (G11.out.trans (G12.out.trans G13.out)))))).with (K12.out.1.grew G13.out) (by have := K12.out.2; omega)))).mono ?_
              rintro e X14 ⟨v14, n14, s14, t14, rfl, hn14, hl14, ha, hg⟩
              have A14 := hid ha
              have G14 := hid hg
              clear ha hg
              have N14 := hid (And.intro hn14 hl14)
              obtain ⟨ad14, cp14, rfl⟩ := hn14.is
              clear hn14 hl14
              have ec := (((G10.out.trans (G11.out.trans (G12.out.trans (G13.out.trans G14.out))))).cell (p := ⟨bq, 0, none⟩) ⟨heap_lt EB.out, (show bq ≠ d.B by have := HQ2.out.1; omega), (show bq ≠ d.G by have := HQ2.out.2; omega)⟩).trans (cell_of_heap EB.out 0)
              have ec : X14.cell? ⟨bq, 0, none⟩ = some (.string xn) := ec
              go_wp2_with fail
              refine (A14.out.put1 26 0 0 xn x10 x11 N14.out.1 ⟨HQ.out.2.1, B10.out, B11.out⟩ (by have := A14.out.bound HF.out (by omega) (by decide); have := N14.out.2; omega)).mono ?_
              rintro e X15 ⟨v15, n15, rfl, hn15, hl15, ha, hg⟩
              have A15 := hid ha
              have G15 := hid hg
              clear ha hg
              have N15 := hid (And.intro hn15 hl15)
              obtain ⟨ad15, cp15, rfl⟩ := hn15.is
              clear hn15 hl15
              clear ec
              have HFl : Hid ((flatL (kdL (ls ++ [⟨ad15, cp15, n15⟩]))).length = (flatL (kdL ls)).length + n15.length) := by show _ = _; simp [flatL, kdL]
              have HLL : Hid (ls.length ≤ 1000) := by show _ ≤ _; have := HB.out; have := HOs.out.2; omega
              go_wp2_with (at_builtin; refine wpList_append_by rfl _ _ 113 rfl _ _ rfl rfl (fun ty_ => HH.out.app H0.out A15.out (G7.out.trans (G9.out.trans (G10.out.trans (G11.out.trans (G12.out.trans (G13.out.trans (G14.out.trans G15.out))))))) ⟨ad15, cp15, n15⟩ N15.out.1 HLL.out ty_) ?_; intro vq Xq hvq; have HQQ := hid hvq; clear hvq)
              rw [wrap_succ (by have := HOs.out.2; omega)]
              exact ⟨⟨i2 + 1, ls ++ [⟨ad15, cp15, n15⟩], _, _, _, rfl, by omega, HQQ, by have := HB.out; omega, by have := HB.out; simp; omega, by have := HB.out; have := HFl.out; have := N15.out.2; have := N14.out.2; omega⟩, hstep⟩
          · have e2 : i2 = os'.length := by omega
            have hb4 := HOs.out.2
            have hcz : c2 ≤ 190 ∧ (flatL (kdL ls)).length ≤ t2 + 35 := by have := HB.out; omega
            have AZ := hid HH.out.at_
            have HKZ := hid (kids_own HH.out.kids H0.out.ltB H0.out.ltG HH.out.nodes)
            go_wp2_with fail
            refine (AZ.out.put_kids 24 0 0 ⟨#[]⟩ ⟨#[]⟩ ⟨#[]⟩ HKZ.out ⟨brief_none, brief_none, brief_none⟩ (by simp [kdL]; have := HB.out; omega) (by have := AZ.out.bound HF.out (by omega) (by decide); omega)).mono ?_
            rintro e XZ ⟨vz, nz, rfl, hnz, hlz, haz, hgz⟩
            have NZ := hid (And.intro haz (And.intro hnz hlz))
            clear haz hnz hlz hgz
            go_wp2_with fail
            go_ret
            exact NZ.out.1.done 36 NZ.out.2.1 (by have := NZ.out.2.2; omega) (by omega)
  · have z0 : (m1 == 0) = false := by simp; omega
    have bs := hid (bo_start (W := W) (X := X1) A1.out.2.1.size)
    go_wp2_with (at_builtin; refine wpList_append_by rfl _ _ 80 rfl _ _ rfl rfl (fun ty => app_row (d := d) bo_one Try.underlying80 hbi hb0 hb1 hb2 rfl (by decide) (by decide) bs.out (bools_lies ((HE.out.grew G1.out).may.grew ((Grew.refl d X1).alloc _))) (by have := HL.out; simp; omega) (by have := A1.out.2.1.size; simp; omega) ty) ?_; intro vi Xi hvi; have AI := hid (And.intro ((A1.out.alloc _).own H0.out hvi.2 (fun g hg => (bs.out.lt g hg).1)) hvi.1); clear hvi)
    rw [List.nil_append] at AI
    obtain ⟨adi, cpi, rfl⟩ := g_is AI.out.2
    have P0 : Hid (Pk d (.slice ade es.length cpe) W s Xi _ _ _ (.slice adi ms.length cpi) ms (.slice none 0 0) [] es.length) := ⟨AI.out.1, AI.out.2, World.ownsRow_nil _ _ _ _, HL.out.2, fun j hj => by simp at hj, by simp⟩
    clear bs AI
    go_loopw [13, 14] (fun o i wr => ∃ (i' : Nat) (ms' : List Bool) (os' : List Nat) (s' : Cn) (t' c' : Nat), i = .int .i64 i' ∧ i' ≤ es.length ∧ Hid (Pk d (.slice ade es.length cpe) W s wr s' t' c' (.slice adi ms.length cpi) ms' o os' es.length) ∧ Hid (c' ≤ 1 + i')) (fun _ i _ => es.length - (intOf i).toNat)
    case atStart => exact ⟨0, ms, [], _, _, _, rfl, Nat.zero_le _, P0, by show _ ≤ _; omega⟩
    case round =>
      obtain ⟨i', ms', os', s', t', c', rfl, hle, HP, HC⟩ := hrel
      obtain ⟨ado, cpo, rfl⟩ := g_is HP.out.ops
      have g0 := HP.out.at_.1.c0
      have g1 := HP.out.at_.1.c1
      by_cases hi : (i' : Int) < (es.length : Int)
      · obtain ⟨g, cap, u, hv, -, -, -⟩ := HP.out.set H0.out i' (by omega)
        simp only [Value.slice.injEq] at hv
        obtain ⟨rfl, -, rfl⟩ := hv
        have hi0 : (0 : Int) ≤ (i' : Int) := by omega
        have hi2 : (i' : Int) < (ms.length : Int) := by have := HL.out.2; omega
        have hstep : es.length - (intOf (.int .i64 ((i' + 1 : Nat) : Int))).toNat < es.length - (intOf (.int .i64 (i' : Int))).toNat := lt_step hi
        go_wp2_with fail
        refine (HP.out.at_.pick HF.out (by have := HC.out; have := HL.out.1; omega) 2 (by decide)).mono ?_
        rintro e X2 ⟨m, s2, rfl, hm0, hm1, ha, hg⟩
        have HP2 := hid (HP.out.grew H0.out ha hg)
        clear ha hg g0 g1 HP P0
        by_cases hm : m = 0
        · subst hm
          by_cases hf : (os'.length : Int) < 4
          · go_wp2_with (at_builtin; refine wpList_append_by rfl _ _ 40 rfl _ _ rfl rfl (fun ty => HP2.out.app H0.out i' (by omega) (by omega) ty) ?_; intro v3 X3 hv3; obtain ⟨ad3, cp3, hv9⟩ := g_is hv3.ops; rw [show (os' ++ [i']).length = os'.length + 1 by simp] at hv9; subst hv9; obtain ⟨g', cap', u', hv', hcu, hfu, hset⟩ := hv3.set H0.out i' (by omega); have HP4 := hid hset; simp only [Value.slice.injEq, Option.some.injEq, Addr.mk.injEq] at hv'; obtain ⟨⟨rfl, -⟩, -, rfl⟩ := hv'; clear hv3 hset)
            rw [wrap_succ (by have := HL.out.1; omega)]
            exact ⟨⟨i' + 1, _, _, s2, t' + 1, c' + 1, rfl, by omega, HP4, by show _ ≤ _; have := HC.out; omega⟩, hstep⟩
          · go_wp2_with fail
            rw [wrap_succ (by have := HL.out.1; omega)]
            exact ⟨⟨i' + 1, _, _, s2, t' + 1, c' + 1, rfl, by omega, HP2, by show _ ≤ _; have := HC.out; omega⟩, hstep⟩
        · have hz : (m == 0) = false := by simp [hm]
          go_wp2_with fail
          rw [wrap_succ (by have := HL.out.1; omega)]
          exact ⟨⟨i' + 1, _, _, s2, t' + 1, c' + 1, rfl, by omega, HP2, by show _ ≤ _; have := HC.out; omega⟩, hstep⟩
      · have ei : i' = es.length := by omega
        have hc5 : c' ≤ 5 := by have := HC.out; have := HL.out.1; omega
        have AH := hid HP.out.at_
        have HE2 := hid (HE.out.grew AH.out.2.1)
        have MI := hid (And.intro (bools_own (d := d) HP.out.may H0.out.ltB H0.out.ltG) HP.out.len)
        have HOs := hid (And.intro HP.out.lt HP.out.few)
        have OR := hid HP.out.ops
        clear HE HP P0 HC ei
        have HE := HE2
        clear HE2
        rename World => Y0
        go_wp2_with fail
        refine (AH.out.name HF.out (by omega)).mono ?_
        rintro e X2 ⟨x2, s2, rfl, hb2, ha, hg⟩
        have A2 := hid ha
        have G2 := hid hg
        clear ha hg
        have B2 := hid hb2
        clear hb2
        clear g0 g1
        go_wp2_with fail
        refine (A2.out.nodes (HO.out deep ty _ _ _ _ _ _ (by have := HD.out; omega) (by have := HD.out; omega) (A2.out.fit HF.out 10 (by omega)) A2.out.1 ((HE.out.grew G2.out).let (MI.out.1.grew G2.out) MI.out.2))).mono ?_
        rintro e X3 ⟨v3, n3, s3, t3, rfl, hn3, hl3, ha, hg⟩
        have A3 := hid ha
        have G3 := hid hg
        clear ha hg
        have N3 := hid (And.intro hn3 hl3)
        obtain ⟨ad3, cp3, rfl⟩ := hn3.is
        clear hn3 hl3
        go_wp2_with fail
        refine (A3.out.add x2 ty 0 (HE.out.grew (G2.out.trans G3.out)).know B2.out (by have := HE.out.room; omega)).mono ?_
        rintro e X4 ⟨u4, ks4, rfl, hk4, hkl4, ha, hg⟩
        have A4 := hid ha
        have G4 := hid hg
        clear ha hg
        have K4 := hid (And.intro hk4 hkl4)
        obtain ⟨ad4, cp4, rfl⟩ := hk4.is
        clear hk4 hkl4
        go_wp2_with fail
        refine (A4.out.nodes (HO.out deep ty _ _ _ _ _ _ (by have := HD.out; omega) (by have := HD.out; omega) (A4.out.fit HF.out 10 (by omega)) A4.out.1 ((HE.out.grew (G2.out.trans (G3.out.trans G4.out))).with K4.out.1 (by have := K4.out.2; omega)))).mono ?_
        rintro e X5 ⟨v5, n5, s5, t5, rfl, hn5, hl5, ha, hg⟩
        have A5 := hid ha
        have G5 := hid hg
        clear ha hg
        have N5 := hid (And.intro hn5 hl5)
        obtain ⟨ad5, cp5, rfl⟩ := hn5.is
        clear hn5 hl5
        go_wp2_with fail
        refine (A5.out.put1 25 0 0 x2 ByteArray.empty ByteArray.empty N5.out.1 ⟨B2.out, brief_none, brief_none⟩ (by have := A5.out.bound HF.out (by omega) (by decide); have := N5.out.2; omega)).mono ?_
        rintro e X6 ⟨v6, n6, rfl, hn6, hl6, ha, hg⟩
        have A6 := hid ha
        have G6 := hid hg
        clear ha hg
        have N6 := hid (And.intro hn6 hl6)
        obtain ⟨ad6, cp6, rfl⟩ := hn6.is
        clear hn6 hl6
        have HS : Hid (Hn d (.slice ade es.length cpe) W s (X6.alloc (.cells #[.slice ad3 n3.length cp3, .slice ad6 n6.length cp6] 53)) _ _ _ (.slice (some ⟨X6.heap.size, 0, none⟩) 2 2) [⟨ad3, cp3, n3⟩, ⟨ad6, cp6, n6⟩] (.slice ado os'.length cpo) os') := hn_start A6.out (g_grew OR.out H0.out.ltB H0.out.ltG (G2.out.trans (G3.out.trans (G4.out.trans (G5.out.trans G6.out))))) ⟨ad3, cp3, n3⟩ ⟨ad6, cp6, n6⟩ (N3.out.1.grew (G4.out.trans (G5.out.trans G6.out))) N6.out.1
        have hfl : (flatL (kdL [⟨ad3, cp3, n3⟩, ⟨ad6, cp6, n6⟩])).length ≤ n3.length + n6.length := by simp [flatL, kdL]
        go_wp2_with fail
        go_loopw [16, 17] (fun kv i wr => ∃ (i2 : Nat) (ls : List Kd) (s2 : Cn) (t2 c2 : Nat), i = .int .i64 i2 ∧ i2 ≤ os'.length ∧ Hid (Hn d (.slice ade es.length cpe) W s wr s2 t2 c2 kv ls (.slice ado os'.length cpo) os') ∧ Hid (c2 ≤ 30 + 40 * i2 ∧ ls.length = 2 + i2 ∧ (flatL (kdL ls)).length ≤ t2 + 3 + 8 * i2)) (fun _ i _ => os'.length - (intOf i).toNat)
        case atStart => exact ⟨0, [⟨ad3, cp3, n3⟩, ⟨ad6, cp6, n6⟩], _, _, _, rfl, Nat.zero_le _, HS, by omega, rfl, by have := N3.out.2; have := N6.out.2; have := N5.out.2; omega⟩
        case round =>
          obtain ⟨i2, ls, s2, t2, c2, rfl, hle2, HH, HB⟩ := hrel
          obtain ⟨adk, cpk, rfl⟩ := g_is HH.out.kids
          by_cases hj : (i2 : Int) < (os'.length : Int)
          · rename World => Y1
            have hc2 : c2 + 40 ≤ 190 := by have := HB.out; have := HOs.out.2; omega
            have AR := hid HH.out.at_
            obtain ⟨go, j, rfl, hjo, hgB, hgl, cj⟩ := ops_at HH.out.ops (i := i2) (by omega)
            have hjE : j < es.length := HOs.out.1 j hjo
            have HEr := hid (HEW.out.grew AR.out.2.1)
            obtain ⟨be, oe, xn, xa, xr, rfl, -, hbr, hqe, c0, c1, c2'⟩ := HEr.out.effs.at (i := j) hjE
            have HQ := hid (And.intro hqe (And.intro hbr (And.intro hgl (And.intro (show go ≠ d.B by have := H0.out.ltB; omega) (show go ≠ d.G by have := H0.out.ltG; omega)))))
            have HE := HEr
            have hj0 : (0 : Int) ≤ (j : Int) := by omega
            have hj1 : (j : Int) < (es.length : Int) := by omega
            have hi20 : (0 : Int) ≤ (i2 : Int) := by omega
            have hstep : os'.length - (intOf (.int .i64 ((i2 + 1 : Nat) : Int))).toNat < os'.length - (intOf (.int .i64 (i2 : Int))).toNat := lt_step hj
            clear hqe hbr hgl hgB hjE hjo
            go_upto_region 17 with fail
            refine pick_begin (S := fun w' => w'.cell? ⟨d.G, 1, none⟩ = some (.slice (some ⟨be, oe, none⟩) es.length cpe) ∧ w'.cell? ⟨go, i2, none⟩ = some (.int .i64 (j : Int)) ∧ w'.cell? ⟨be, oe + j * 3, none⟩ = some (.string xn) ∧ w'.cell? ⟨be, oe + j * 3 + 1, none⟩ = some (.int .i64 xa) ∧ w'.cell? ⟨be, oe + j * 3 + 2, none⟩ = some (.int .i64 xr)) (by kernel_rfl) rfl rfl ?_
            have A7 := hid AR.out.drew
            have G7 := hid (Grew.refl d Y1).drew
            generalize Y1.drew = X7 at *
            refine pick_op (i := 0) (v := .pointer (some ⟨d.G, 0, none⟩)) (by kernel_rfl) rfl (by kernel_rfl) (by kernel_rfl) rfl rfl (fun w' hw => by simp [go_sem]) ⟨A7.out.1.c1, ((G7.out.cell (p := ⟨go, i2, none⟩) ⟨HQ.out.2.2.1, HQ.out.2.2.2.1, HQ.out.2.2.2.2⟩).trans cj), ((G7.out.cell (p := ⟨be, oe + j * 3, none⟩) HQ.out.1).trans c0), ((G7.out.cell (p := ⟨be, oe + j * 3 + 1, none⟩) HQ.out.1).trans c1), ((G7.out.cell (p := ⟨be, oe + j * 3 + 2, none⟩) HQ.out.1).trans c2')⟩ (by simp [go_sem]; exact rfl) ?_
            refine pick_op (i := 1) (v := .pointer (some ⟨d.G, 0, none⟩)) (by kernel_rfl) rfl (by kernel_rfl) (by kernel_rfl) rfl rfl (fun w' hw => by simp [go_sem]) ⟨A7.out.1.c1, ((G7.out.cell (p := ⟨go, i2, none⟩) ⟨HQ.out.2.2.1, HQ.out.2.2.2.1, HQ.out.2.2.2.2⟩).trans cj), ((G7.out.cell (p := ⟨be, oe + j * 3, none⟩) HQ.out.1).trans c0), ((G7.out.cell (p := ⟨be, oe + j * 3 + 1, none⟩) HQ.out.1).trans c1), ((G7.out.cell (p := ⟨be, oe + j * 3 + 2, none⟩) HQ.out.1).trans c2')⟩ (by simp [go_sem]; exact rfl) ?_
            refine pick_op (i := 2) (v := .pointer (some ⟨d.G, 1, none⟩)) (by kernel_rfl) rfl (by kernel_rfl) (by kernel_rfl) rfl rfl (fun w' hw => by simp [go_sem]) ⟨A7.out.1.c1, ((G7.out.cell (p := ⟨go, i2, none⟩) ⟨HQ.out.2.2.1, HQ.out.2.2.2.1, HQ.out.2.2.2.2⟩).trans cj), ((G7.out.cell (p := ⟨be, oe + j * 3, none⟩) HQ.out.1).trans c0), ((G7.out.cell (p := ⟨be, oe + j * 3 + 1, none⟩) HQ.out.1).trans c1), ((G7.out.cell (p := ⟨be, oe + j * 3 + 2, none⟩) HQ.out.1).trans c2')⟩ (by simp [go_sem]; exact rfl) ?_
            refine pick_op (i := 3) (v := .slice (some ⟨be, oe, none⟩) es.length cpe) (by kernel_rfl) rfl (by kernel_rfl) (by kernel_rfl) rfl rfl (fun w' hw => by simp [go_sem, hw.1]) ⟨A7.out.1.c1, ((G7.out.cell (p := ⟨go, i2, none⟩) ⟨HQ.out.2.2.1, HQ.out.2.2.2.1, HQ.out.2.2.2.2⟩).trans cj), ((G7.out.cell (p := ⟨be, oe + j * 3, none⟩) HQ.out.1).trans c0), ((G7.out.cell (p := ⟨be, oe + j * 3 + 1, none⟩) HQ.out.1).trans c1), ((G7.out.cell (p := ⟨be, oe + j * 3 + 2, none⟩) HQ.out.1).trans c2')⟩ (by simp [go_sem]; exact rfl) ?_
            refine pick_op (i := 4) (v := (.slice (some ⟨go, 0, none⟩) os'.length cpo)) (by kernel_rfl) rfl (by kernel_rfl) (by kernel_rfl) rfl rfl (fun w' hw => by simp [go_sem]) ⟨A7.out.1.c1, ((G7.out.cell (p := ⟨go, i2, none⟩) ⟨HQ.out.2.2.1, HQ.out.2.2.2.1, HQ.out.2.2.2.2⟩).trans cj), ((G7.out.cell (p := ⟨be, oe + j * 3, none⟩) HQ.out.1).trans c0), ((G7.out.cell (p := ⟨be, oe + j * 3 + 1, none⟩) HQ.out.1).trans c1), ((G7.out.cell (p := ⟨be, oe + j * 3 + 2, none⟩) HQ.out.1).trans c2')⟩ (by simp [go_sem]; exact rfl) ?_
            refine pick_op (i := 5) (v := .int .i64 (i2 : Int)) (by kernel_rfl) rfl (by kernel_rfl) (by kernel_rfl) rfl rfl (fun w' hw => by simp [go_sem]) ⟨A7.out.1.c1, ((G7.out.cell (p := ⟨go, i2, none⟩) ⟨HQ.out.2.2.1, HQ.out.2.2.2.1, HQ.out.2.2.2.2⟩).trans cj), ((G7.out.cell (p := ⟨be, oe + j * 3, none⟩) HQ.out.1).trans c0), ((G7.out.cell (p := ⟨be, oe + j * 3 + 1, none⟩) HQ.out.1).trans c1), ((G7.out.cell (p := ⟨be, oe + j * 3 + 2, none⟩) HQ.out.1).trans c2')⟩ (by simp [go_sem]; exact rfl) ?_
            refine pick_op (i := 6) (v := .pointer (some ⟨go, i2, none⟩)) (by kernel_rfl) rfl (by kernel_rfl) (by kernel_rfl) rfl rfl (fun w' hw => by simp [go_sem, hi20, hj]) ⟨A7.out.1.c1, ((G7.out.cell (p := ⟨go, i2, none⟩) ⟨HQ.out.2.2.1, HQ.out.2.2.2.1, HQ.out.2.2.2.2⟩).trans cj), ((G7.out.cell (p := ⟨be, oe + j * 3, none⟩) HQ.out.1).trans c0), ((G7.out.cell (p := ⟨be, oe + j * 3 + 1, none⟩) HQ.out.1).trans c1), ((G7.out.cell (p := ⟨be, oe + j * 3 + 2, none⟩) HQ.out.1).trans c2')⟩ (by simp [go_sem]; exact rfl) ?_
            refine pick_op (i := 7) (v := .int .i64 (j : Int)) (by kernel_rfl) rfl (by kernel_rfl) (by kernel_rfl) rfl rfl (fun w' hw => by simp [go_sem, hw.2.1]) ⟨A7.out.1.c1, ((G7.out.cell (p := ⟨go, i2, none⟩) ⟨HQ.out.2.2.1, HQ.out.2.2.2.1, HQ.out.2.2.2.2⟩).trans cj), ((G7.out.cell (p := ⟨be, oe + j * 3, none⟩) HQ.out.1).trans c0), ((G7.out.cell (p := ⟨be, oe + j * 3 + 1, none⟩) HQ.out.1).trans c1), ((G7.out.cell (p := ⟨be, oe + j * 3 + 2, none⟩) HQ.out.1).trans c2')⟩ (by simp [go_sem]; exact rfl) ?_
            refine pick_op (i := 8) (v := .pointer (some ⟨be, oe + j * 3, none⟩)) (by kernel_rfl) rfl (by kernel_rfl) (by kernel_rfl) rfl rfl (fun w' hw => by simp [go_sem, hj0, hj1]) ⟨A7.out.1.c1, ((G7.out.cell (p := ⟨go, i2, none⟩) ⟨HQ.out.2.2.1, HQ.out.2.2.2.1, HQ.out.2.2.2.2⟩).trans cj), ((G7.out.cell (p := ⟨be, oe + j * 3, none⟩) HQ.out.1).trans c0), ((G7.out.cell (p := ⟨be, oe + j * 3 + 1, none⟩) HQ.out.1).trans c1), ((G7.out.cell (p := ⟨be, oe + j * 3 + 2, none⟩) HQ.out.1).trans c2')⟩ (by simp [go_sem]; exact rfl) ?_
            refine pick_op (i := 9) (v := .agg #[.string xn, .int .i64 xa, .int .i64 xr]) (by kernel_rfl) rfl (by kernel_rfl) (by kernel_rfl) rfl rfl (fun w' hw => by simp [go_sem, hw.2.2.1, hw.2.2.2.1, hw.2.2.2.2]) ⟨A7.out.1.c1, ((G7.out.cell (p := ⟨go, i2, none⟩) ⟨HQ.out.2.2.1, HQ.out.2.2.2.1, HQ.out.2.2.2.2⟩).trans cj), ((G7.out.cell (p := ⟨be, oe + j * 3, none⟩) HQ.out.1).trans c0), ((G7.out.cell (p := ⟨be, oe + j * 3 + 1, none⟩) HQ.out.1).trans c1), ((G7.out.cell (p := ⟨be, oe + j * 3 + 2, none⟩) HQ.out.1).trans c2')⟩ (by simp [go_sem]; exact rfl) ?_
            have A8 := hid (A7.out.alloc (.cells #[.string ⟨#[]⟩, .int .i64 0, .int .i64 0] 88))
            have G8 := hid ((Grew.refl d X7).alloc (.cells #[.string ⟨#[]⟩, .int .i64 0, .int .i64 0] 88))
            refine pick_make (i := 10) (v := .pointer (some ⟨X7.heap.size, 0, none⟩)) (w1 := X7.alloc (.cells #[.string ⟨#[]⟩, .int .i64 0, .int .i64 0] 88)) rfl (by kernel_rfl) rfl rfl (by simp [go_sem]) ⟨A8.out.1.c1, (((G7.out.trans G8.out).cell (p := ⟨go, i2, none⟩) ⟨HQ.out.2.2.1, HQ.out.2.2.2.1, HQ.out.2.2.2.2⟩).trans cj), (((G7.out.trans G8.out).cell (p := ⟨be, oe + j * 3, none⟩) HQ.out.1).trans c0), (((G7.out.trans G8.out).cell (p := ⟨be, oe + j * 3 + 1, none⟩) HQ.out.1).trans c1), (((G7.out.trans G8.out).cell (p := ⟨be, oe + j * 3 + 2, none⟩) HQ.out.1).trans c2')⟩ (by simp [go_sem]; exact rfl) ?_
            have EB := hid (boxW_heap X7 xn xa xr)
            have A9 := hid (A7.out.below (boxW_below X7 xn xa xr))
            have G9 : Hid (Grew d X7 (boxW X7 xn xa xr)) := Grew.of_below (boxW_below X7 xn xa xr)
            have HQ2 := hid (And.intro A7.out.1.ltB A7.out.1.ltG)
            refine pick_skip (i := 11) (w1 := boxW X7 xn xa xr) rfl rfl (by kernel_rfl) rfl rfl (by simp [go_sem, boxW]) ⟨A9.out.1.c1, (((G7.out.trans G9.out).cell (p := ⟨go, i2, none⟩) ⟨HQ.out.2.2.1, HQ.out.2.2.2.1, HQ.out.2.2.2.2⟩).trans cj), (((G7.out.trans G9.out).cell (p := ⟨be, oe + j * 3, none⟩) HQ.out.1).trans c0), (((G7.out.trans G9.out).cell (p := ⟨be, oe + j * 3 + 1, none⟩) HQ.out.1).trans c1), (((G7.out.trans G9.out).cell (p := ⟨be, oe + j * 3 + 2, none⟩) HQ.out.1).trans c2')⟩ ?_
            refine pick_end (by kernel_rfl) ?_
            obtain ⟨bq, hbq⟩ : ∃ q, X7.heap.size = q := ⟨_, rfl⟩
            generalize boxW X7 xn xa xr = X9 at *
            rw [hbq] at EB HQ2 ⊢
            clear hbq cj c0 c1 c2' A8 G8
            go_wp2_with fail
            refine (A9.out.name HF.out (by omega)).mono ?_
            rintro e X10 ⟨x10, s10, rfl, hb10, ha, hg⟩
            have A10 := hid ha
            have G10 := hid hg
            clear ha hg
            have B10 := hid hb10
            clear hb10
            go_wp2_with fail
            refine (A10.out.name HF.out (by omega)).mono ?_
            rintro e X11 ⟨x11, s11, rfl, hb11, ha, hg⟩
            have A11 := hid ha
            have G11 := hid hg
            clear ha hg
            have B11 := hid hb11
            clear hb11
            have ec := (((G10.out.trans G11.out)).cell (p := ⟨bq, 1, none⟩) ⟨heap_lt EB.out, (show bq ≠ d.B by have := HQ2.out.1; omega), (show bq ≠ d.G by have := HQ2.out.2; omega)⟩).trans (cell_of_heap EB.out 1)
            have ec : X11.cell? ⟨bq, 1, none⟩ = some (.int .i64 xa) := ec
            go_wp2_with fail
            refine (base_calls xa _).mono ?_
            rintro e W9 ⟨rfl, rfl⟩
            clear ec
            go_wp2_with fail
            refine (A11.out.add x10 xa 0 (HE.out.grew (G7.out.trans (G9.out.trans (G10.out.trans G11.out)))).know B10.out (by have := HE.out.room; omega)).mono ?_
            rintro e X12 ⟨u12, ks12, rfl, hk12, hkl12, ha, hg⟩
            have A12 := hid ha
            have G12 := hid hg
            clear ha hg
            have K12 := hid (And.intro hk12 hkl12)
            obtain ⟨ad12, cp12, rfl⟩ := hk12.is
            clear hk12 hkl12
            have ec := (((G10.out.trans (G11.out.trans G12.out))).cell (p := ⟨bq, 2, none⟩) ⟨heap_lt EB.out, (show bq ≠ d.B by have := HQ2.out.1; omega), (show bq ≠ d.G by have := HQ2.out.2; omega)⟩).trans (cell_of_heap EB.out 2)
            have ec : X12.cell? ⟨bq, 2, none⟩ = some (.int .i64 xr) := ec
            go_wp2_with fail
            refine (base_calls xr _).mono ?_
            rintro e W9 ⟨rfl, rfl⟩
            clear ec
            go_wp2_with fail
            refine (A12.out.add x11 (wrap64 (10 + ty)) xr K12.out.1 B11.out (by have := HE.out.room; have := K12.out.2; omega)).mono ?_
            rintro e X13 ⟨u13, ks13, rfl, hk13, hkl13, ha, hg⟩
            have A13 := hid ha
            have G13 := hid hg
            clear ha hg
            have K13 := hid (And.intro hk13 hkl13)
            obtain ⟨ad13, cp13, rfl⟩ := hk13.is
            clear hk13 hkl13
            go_wp2_with fail
            refine (A13.out.nodes (HO.out deep ty _ _ _ _ _ _ (by have := HD.out; omega) (by have := HD.out; omega) (A13.out.fit HF.out 10 (by omega)) A13.out.1 ((HE.out.grew (G7.out.trans (G9.out.trans (G10.out.trans (G11.out.trans (G12.out.trans G13.out)))))).with K13.out.1 (by have := K12.out.2; have := K13.out.2; omega)))).mono ?_
            rintro e X14 ⟨v14, n14, s14, t14, rfl, hn14, hl14, ha, hg⟩
            have A14 := hid ha
            have G14 := hid hg
            clear ha hg
            have N14 := hid (And.intro hn14 hl14)
            obtain ⟨ad14, cp14, rfl⟩ := hn14.is
            clear hn14 hl14
            have g0 := A14.out.1.c0
            go_wp2_with fail
            refine (A14.out.pick HF.out (by omega) 3 (by decide)).mono ?_
            rintro e X15 ⟨m15, s15, rfl, hm15, hM15, ha, hg⟩
            have A15 := hid ha
            have G15 := hid hg
            clear ha hg
            clear g0
            by_cases hm3 : 0 < m15
            · have N16 := hid (And.intro (nd_lit_at (d := d) X15 ⟨5, 0, x11, ByteArray.empty, ByteArray.empty, 0⟩ (X15.heap.size) (by simp) A15.out.1.ltB A15.out.1.ltG ⟨B11.out, brief_none, brief_none⟩) (show [(⟨5, 0, x11, ByteArray.empty, ByteArray.empty, 0⟩ : Nd)].length = 1 from rfl))
              have A16 := hid (A15.out.alloc (.cells #[.int .i64 5, .int .i64 0, .string x11, .string ByteArray.empty, .string ByteArray.empty, .int .i64 0] 92))
              have G16 := hid ((Grew.refl d X15).alloc (.cells #[.int .i64 5, .int .i64 0, .string x11, .string ByteArray.empty, .string ByteArray.empty, .int .i64 0] 92))
              have ec := (((G10.out.trans (G11.out.trans (G12.out.trans (G13.out.trans (G14.out.trans (G15.out.trans G16.out))))))).cell (p := ⟨bq, 2, none⟩) ⟨heap_lt EB.out, (show bq ≠ d.B by have := HQ2.out.1; omega), (show bq ≠ d.G by have := HQ2.out.2; omega)⟩).trans (cell_of_heap EB.out 2)
              have ec : (X15.alloc (.cells #[.int .i64 5, .int .i64 0, .string x11, .string ⟨#[]⟩, .string ⟨#[]⟩, .int .i64 0] 92)).cell? ⟨bq, 2, none⟩ = some (.int .i64 xr) := ec
              go_wp2_with fail
              refine (base_calls xr _).mono ?_
              rintro e W9 ⟨rfl, rfl⟩
              clear ec
              go_wp2_with fail
              refine (A16.out.add x11 0 0 (K13.out.1.grew (G14.out.trans (G15.out.trans G16.out))) B11.out (by have := HE.out.room; have := K12.out.2; have := K13.out.2; omega)).mono ?_
              rintro e X17 ⟨u17, ks17, rfl, hk17, hkl17, ha, hg⟩
              have A17 := hid ha
              have G17 := hid hg
              clear ha hg
              have K17 := hid (And.intro hk17 hkl17)
              obtain ⟨ad17, cp17, rfl⟩ := hk17.is
              clear hk17 hkl17
              go_wp2_with fail
              refine (A17.out.nodes (HO.out (deep - 1) xr _ _ _ _ _ _ (by have := HD.out; omega) (by have := HD.out; omega) (A17.out.fit HF.out 10 (by omega)) A17.out.1 ((HE.out.grew (G7.out.trans (G9.out.trans (G10.out.trans (G11.out.trans (G12.out.trans (G13.out.trans (G14.out.trans (G15.out.trans (G16.out.trans G17.out)))))))))).with K17.out.1 (by have := K12.out.2; have := K13.out.2; have := K17.out.2; omega)))).mono ?_
              rintro e X18 ⟨v18, n18, s18, t18, rfl, hn18, hl18, ha, hg⟩
              have A18 := hid ha
              have G18 := hid hg
              clear ha hg
              have N18 := hid (And.intro hn18 hl18)
              obtain ⟨ad18, cp18, rfl⟩ := hn18.is
              clear hn18 hl18
              go_wp2_with fail
              refine (A18.out.put2 7 0 0 ByteArray.empty ByteArray.empty ByteArray.empty (N16.out.1.grew (G17.out.trans G18.out)) N18.out.1 ⟨brief_none, brief_none, brief_none⟩ (by have := A18.out.bound HF.out (by omega) (by decide); have := N16.out.2; have := N18.out.2; omega)).mono ?_
              rintro e X19 ⟨v19, n19, rfl, hn19, hl19, ha, hg⟩
              have A19 := hid ha
              have G19 := hid hg
              clear ha hg
              have N19 := hid (And.intro hn19 hl19)
              obtain ⟨ad19, cp19, rfl⟩ := hn19.is
              clear hn19 hl19
              by_cases hty1 : ty = 1
              · subst hty1
                have g0 := A19.out.1.c0
                go_wp2_with fail
                refine (A19.out.pick HF.out (by omega) 4 (by decide)).mono ?_
                rintro e X20 ⟨m20, s20, rfl, hm20, hM20, ha, hg⟩
                have A20 := hid ha
                have G20 := hid hg
                clear ha hg
                clear g0
                by_cases hm4 : m20 = 0
                · subst hm4
                  have N21 := hid (And.intro (nd_lit_at (d := d) X20 ⟨5, 0, x11, ByteArray.empty, ByteArray.empty, 0⟩ (X20.heap.size) (by simp) A20.out.1.ltB A20.out.1.ltG ⟨B11.out, brief_none, brief_none⟩) (show [(⟨5, 0, x11, ByteArray.empty, ByteArray.empty, 0⟩ : Nd)].length = 1 from rfl))
                  have A21 := hid (A20.out.alloc (.cells #[.int .i64 5, .int .i64 0, .string x11, .string ByteArray.empty, .string ByteArray.empty, .int .i64 0] 92))
                  have G21 := hid ((Grew.refl d X20).alloc (.cells #[.int .i64 5, .int .i64 0, .string x11, .string ByteArray.empty, .string ByteArray.empty, .int .i64 0] 92))
                  have ec := (((G10.out.trans (G11.out.trans (G12.out.trans (G13.out.trans (G14.out.trans (G15.out.trans (G16.out.trans (G17.out.trans (G18.out.trans (G19.out.trans (G20.out.trans G21.out)))))))))))).cell (p := ⟨bq, 2, none⟩) ⟨heap_lt EB.out, (show bq ≠ d.B by have := HQ2.out.1; omega), (show bq ≠ d.G by have := HQ2.out.2; omega)⟩).trans (cell_of_heap EB.out 2)
                  have ec : (X20.alloc (.cells #[.int .i64 5, .int .i64 0, .string x11, .string ⟨#[]⟩, .string ⟨#[]⟩, .int .i64 0] 92)).cell? ⟨bq, 2, none⟩ = some (.int .i64 xr) := ec
                  go_wp2_with fail
                  refine (base_calls xr _).mono ?_
                  rintro e W9 ⟨rfl, rfl⟩
                  clear ec
                  go_wp2_with fail
                  refine (A21.out.add x11 0 0 (K13.out.1.grew (G14.out.trans (G15.out.trans (G16.out.trans (G17.out.trans (G18.out.trans (G19.out.trans (G20.out.trans G21.out)))))))) B11.out (by have := HE.out.room; have := K12.out.2; have := K13.out.2; omega)).mono ?_
                  rintro e X22 ⟨u22, ks22, rfl, hk22, hkl22, ha, hg⟩
                  have A22 := hid ha
                  have G22 := hid hg
                  clear ha hg
                  have K22 := hid (And.intro hk22 hkl22)
                  obtain ⟨ad22, cp22, rfl⟩ := hk22.is
                  clear hk22 hkl22
                  go_wp2_with fail
                  refine (A22.out.nodes (leaf_calls xr A22.out.1 (A22.out.fit HF.out 10 (by omega)) K22.out.1 (by have := HE.out.room; have := K12.out.2; have := K13.out.2; have := K22.out.2; omega))).mono ?_
                  rintro e X23 ⟨v23, n23, s23, t23, rfl, hn23, hl23, ha, hg⟩
                  have A23 := hid ha
                  have G23 := hid hg
                  clear ha hg
                  have N23 := hid (And.intro hn23 hl23)
                  obtain ⟨ad23, cp23, rfl⟩ := hn23.is
                  clear hn23 hl23
                  go_wp2_with fail
                  refine (A23.out.put2 7 0 0 ByteArray.empty ByteArray.empty ByteArray.empty (N21.out.1.grew (G22.out.trans G23.out)) N23.out.1 ⟨brief_none, brief_none, brief_none⟩ (by have := A23.out.bound HF.out (by omega) (by decide); have := N21.out.2; have := N23.out.2; omega)).mono ?_
                  rintro e X24 ⟨v24, n24, rfl, hn24, hl24, ha, hg⟩
                  have A24 := hid ha
                  have G24 := hid hg
                  clear ha hg
                  have N24 := hid (And.intro hn24 hl24)
                  obtain ⟨ad24, cp24, rfl⟩ := hn24.is
                  clear hn24 hl24
                  go_wp2_with fail
                  refine (A24.out.put2 11 0 0 ByteArray.empty ByteArray.empty ByteArray.empty (N19.out.1.grew (G20.out.trans (G21.out.trans (G22.out.trans (G23.out.trans G24.out))))) N24.out.1 ⟨brief_none, brief_none, brief_none⟩ (by have := A24.out.bound HF.out (by omega) (by decide); have := N19.out.2; have := N16.out.2; have := N18.out.2; have := N24.out.2; have := N21.out.2; have := N23.out.2; omega)).mono ?_
                  rintro e X25 ⟨v25, n25, rfl, hn25, hl25, ha, hg⟩
                  have A25 := hid ha
                  have G25 := hid hg
                  clear ha hg
                  have N25 := hid (And.intro hn25 hl25)
                  obtain ⟨ad25, cp25, rfl⟩ := hn25.is
                  clear hn25 hl25
                  have ec := (((G10.out.trans (G11.out.trans (G12.out.trans (G13.out.trans (G14.out.trans (G15.out.trans (G16.out.trans (G17.out.trans (G18.out.trans (G19.out.trans (G20.out.trans (G21.out.trans (G22.out.trans (G23.out.trans (G24.out.trans G25.out)))))))))))))))).cell (p := ⟨bq, 0, none⟩) ⟨heap_lt EB.out, (show bq ≠ d.B by have := HQ2.out.1; omega), (show bq ≠ d.G by have := HQ2.out.2; omega)⟩).trans (cell_of_heap EB.out 0)
                  have ec : X25.cell? ⟨bq, 0, none⟩ = some (.string xn) := ec
                  go_wp2_with fail
                  refine (A25.out.put1 26 0 0 xn x10 x11 N25.out.1 ⟨HQ.out.2.1, B10.out, B11.out⟩ (by have := A25.out.bound HF.out (by omega) (by decide); have := N25.out.2; have := N19.out.2; have := N16.out.2; have := N18.out.2; have := N24.out.2; have := N21.out.2; have := N23.out.2; omega)).mono ?_
                  rintro e X26 ⟨v26, n26, rfl, hn26, hl26, ha, hg⟩
                  have A26 := hid ha
                  have G26 := hid hg
                  clear ha hg
                  have N26 := hid (And.intro hn26 hl26)
                  obtain ⟨ad26, cp26, rfl⟩ := hn26.is
                  clear hn26 hl26
                  clear ec
                  have HFl : Hid ((flatL (kdL (ls ++ [⟨ad26, cp26, n26⟩]))).length = (flatL (kdL ls)).length + n26.length) := by show _ = _; simp [flatL, kdL]
                  have HLL : Hid (ls.length ≤ 1000) := by show _ ≤ _; have := HB.out; have := HOs.out.2; omega
                  go_wp2_with (at_builtin; refine wpList_append_by rfl _ _ 113 rfl _ _ rfl rfl (fun ty_ => HH.out.app H0.out A26.out (G7.out.trans (G9.out.trans (G10.out.trans (G11.out.trans (G12.out.trans (G13.out.trans (G14.out.trans (G15.out.trans (G16.out.trans (G17.out.trans (G18.out.trans (G19.out.trans (G20.out.trans (G21.out.trans (G22.out.trans (G23.out.trans (G24.out.trans (G25.out.trans G26.out)))))))))))))))))) ⟨ad26, cp26, n26⟩ N26.out.1 HLL.out ty_) ?_; intro vq Xq hvq; have HQQ := hid hvq; clear hvq)
                  rw [wrap_succ (by have := HOs.out.2; omega)]
                  exact ⟨⟨i2 + 1, ls ++ [⟨ad26, cp26, n26⟩], _, _, _, rfl, by omega, HQQ, by have := HB.out; omega, by have := HB.out; simp; omega, by have := HB.out; have := HFl.out; have := N26.out.2; have := N25.out.2; have := N19.out.2; have := N16.out.2; have := N18.out.2; have := N24.out.2; have := N21.out.2; have := N23.out.2; omega⟩, hstep⟩
                · have z4 : (m20 == 0) = false := by simp [hm4]
                  have ec := (((G10.out.trans (G11.out.trans (G12.out.trans (G13.out.trans (G14.out.trans (G15.out.trans (G16.out.trans (G17.out.trans (G18.out.trans (G19.out.trans G20.out))))))))))).cell (p := ⟨bq, 0, none⟩) ⟨heap_lt EB.out, (show bq ≠ d.B by have := HQ2.out.1; omega), (show bq ≠ d.G by have := HQ2.out.2; omega)⟩).trans (cell_of_heap EB.out 0)
                  have ec : X20.cell? ⟨bq, 0, none⟩ = some (.string xn) := ec
                  go_wp2_with fail
                  refine (A20.out.put1 26 0 0 xn x10 x11 (N19.out.1.grew G20.out) ⟨HQ.out.2.1, B10.out, B11.out⟩ (by have := A20.out.bound HF.out (by omega) (by decide); have := N19.out.2; have := N16.out.2; have := N18.out.2; omega)).mono ?_
                  rintro e X21 ⟨v21, n21, rfl, hn21, hl21, ha, hg⟩
                  have A21 := hid ha
                  have G21 := hid hg
                  clear ha hg
                  have N21 := hid (And.intro hn21 hl21)
                  obtain ⟨ad21, cp21, rfl⟩ := hn21.is
                  clear hn21 hl21
                  clear ec
                  have HFl : Hid ((flatL (kdL (ls ++ [⟨ad21, cp21, n21⟩]))).length = (flatL (kdL ls)).length + n21.length) := by show _ = _; simp [flatL, kdL]
                  have HLL : Hid (ls.length ≤ 1000) := by show _ ≤ _; have := HB.out; have := HOs.out.2; omega
                  go_wp2_with (at_builtin; refine wpList_append_by rfl _ _ 113 rfl _ _ rfl rfl (fun ty_ => HH.out.app H0.out A21.out (G7.out.trans (G9.out.trans (G10.out.trans (G11.out.trans (G12.out.trans (G13.out.trans (G14.out.trans (G15.out.trans (G16.out.trans (G17.out.trans (G18.out.trans (G19.out.trans (G20.out.trans G21.out))))))))))))) ⟨ad21, cp21, n21⟩ N21.out.1 HLL.out ty_) ?_; intro vq Xq hvq; have HQQ := hid hvq; clear hvq)
                  rw [wrap_succ (by have := HOs.out.2; omega)]
                  exact ⟨⟨i2 + 1, ls ++ [⟨ad21, cp21, n21⟩], _, _, _, rfl, by omega, HQQ, by have := HB.out; omega, by have := HB.out; simp; omega, by have := HB.out; have := HFl.out; have := N21.out.2; have := N19.out.2; have := N16.out.2; have := N18.out.2; omega⟩, hstep⟩
              · have zt : (ty == 1) = false := by simp [hty1]
                have ec := (((G10.out.trans (G11.out.trans (G12.out.trans (G13.out.trans (G14.out.trans (G15.out.trans (G16.out.trans (G17.out.trans (G18.out.trans G19.out)))))))))).cell (p := ⟨bq, 0, none⟩) ⟨heap_lt EB.out, (show bq ≠ d.B by have := HQ2.out.1; omega), (show bq ≠ d.G by have := HQ2.out.2; omega)⟩).trans (cell_of_heap EB.out 0)
                have ec : X19.cell? ⟨bq, 0, none⟩ = some (.string xn) := ec
                go_wp2_with fail
                refine (A19.out.put1 26 0 0 xn x10 x11 N19.out.1 ⟨HQ.out.2.1, B10.out, B11.out⟩ (by have := A19.out.bound HF.out (by omega) (by decide); have := N19.out.2; have := N16.out.2; have := N18.out.2; omega)).mono ?_
                rintro e X20 ⟨v20, n20, rfl, hn20, hl20, ha, hg⟩
                have A20 := hid ha
                have G20 := hid hg
                clear ha hg
                have N20 := hid (And.intro hn20 hl20)
                obtain ⟨ad20, cp20, rfl⟩ := hn20.is
                clear hn20 hl20
                clear ec
                have HFl : Hid ((flatL (kdL (ls ++ [⟨ad20, cp20, n20⟩]))).length = (flatL (kdL ls)).length + n20.length) := by show _ = _; simp [flatL, kdL]
                have HLL : Hid (ls.length ≤ 1000) := by show _ ≤ _; have := HB.out; have := HOs.out.2; omega
                go_wp2_with (at_builtin; refine wpList_append_by rfl _ _ 113 rfl _ _ rfl rfl (fun ty_ => HH.out.app H0.out A20.out (G7.out.trans (G9.out.trans (G10.out.trans (G11.out.trans (G12.out.trans (G13.out.trans (G14.out.trans (G15.out.trans (G16.out.trans (G17.out.trans (G18.out.trans (G19.out.trans G20.out)))))))))))) ⟨ad20, cp20, n20⟩ N20.out.1 HLL.out ty_) ?_; intro vq Xq hvq; have HQQ := hid hvq; clear hvq)
                rw [wrap_succ (by have := HOs.out.2; omega)]
                exact ⟨⟨i2 + 1, ls ++ [⟨ad20, cp20, n20⟩], _, _, _, rfl, by omega, HQQ, by have := HB.out; omega, by have := HB.out; simp; omega, by have := HB.out; have := HFl.out; have := N20.out.2; have := N19.out.2; have := N16.out.2; have := N18.out.2; omega⟩, hstep⟩
            · have hm30 : m15 = 0 := by omega
              subst hm30
              have ec := (((G10.out.trans (G11.out.trans (G12.out.trans (G13.out.trans (G14.out.trans G15.out)))))).cell (p := ⟨bq, 0, none⟩) ⟨heap_lt EB.out, (show bq ≠ d.B by have := HQ2.out.1; omega), (show bq ≠ d.G by have := HQ2.out.2; omega)⟩).trans (cell_of_heap EB.out 0)
              have ec : X15.cell? ⟨bq, 0, none⟩ = some (.string xn) := ec
              go_wp2_with fail
              refine (A15.out.put1 26 0 0 xn x10 x11 (N14.out.1.grew G15.out) ⟨HQ.out.2.1, B10.out, B11.out⟩ (by have := A15.out.bound HF.out (by omega) (by decide); have := N14.out.2; omega)).mono ?_
              rintro e X16 ⟨v16, n16, rfl, hn16, hl16, ha, hg⟩
              have A16 := hid ha
              have G16 := hid hg
              clear ha hg
              have N16 := hid (And.intro hn16 hl16)
              obtain ⟨ad16, cp16, rfl⟩ := hn16.is
              clear hn16 hl16
              clear ec
              have HFl : Hid ((flatL (kdL (ls ++ [⟨ad16, cp16, n16⟩]))).length = (flatL (kdL ls)).length + n16.length) := by show _ = _; simp [flatL, kdL]
              have HLL : Hid (ls.length ≤ 1000) := by show _ ≤ _; have := HB.out; have := HOs.out.2; omega
              go_wp2_with (at_builtin; refine wpList_append_by rfl _ _ 113 rfl _ _ rfl rfl (fun ty_ => HH.out.app H0.out A16.out (G7.out.trans (G9.out.trans (G10.out.trans (G11.out.trans (G12.out.trans (G13.out.trans (G14.out.trans (G15.out.trans G16.out)))))))) ⟨ad16, cp16, n16⟩ N16.out.1 HLL.out ty_) ?_; intro vq Xq hvq; have HQQ := hid hvq; clear hvq)
              rw [wrap_succ (by have := HOs.out.2; omega)]
              exact ⟨⟨i2 + 1, ls ++ [⟨ad16, cp16, n16⟩], _, _, _, rfl, by omega, HQQ, by have := HB.out; omega, by have := HB.out; simp; omega, by have := HB.out; have := HFl.out; have := N16.out.2; have := N14.out.2; omega⟩, hstep⟩
          · have e2 : i2 = os'.length := by omega
            have hb4 := HOs.out.2
            have hcz : c2 ≤ 190 ∧ (flatL (kdL ls)).length ≤ t2 + 35 := by have := HB.out; omega
            have AZ := hid HH.out.at_
            have HKZ := hid (kids_own HH.out.kids H0.out.ltB H0.out.ltG HH.out.nodes)
            go_wp2_with fail
            refine (AZ.out.put_kids 23 0 0 ⟨#[]⟩ ⟨#[]⟩ ⟨#[]⟩ HKZ.out ⟨brief_none, brief_none, brief_none⟩ (by simp [kdL]; have := HB.out; omega) (by have := AZ.out.bound HF.out (by omega) (by decide); omega)).mono ?_
            rintro e XZ ⟨vz, nz, rfl, hnz, hlz, haz, hgz⟩
            have NZ := hid (And.intro haz (And.intro hnz hlz))
            clear haz hnz hlz hgz
            go_wp2_with fail
            go_ret
            exact NZ.out.1.done 36 NZ.out.2.1 (by have := NZ.out.2.2; omega) (by omega)
end Go.Proofs.Ytnbmhopoiijhoaa
