/- What is drawn by its type. -/
import Derived.Test.YtegjdgiegnofhaaDoorGenFML
import Derived.Deep.Cut
namespace Go.Proofs.YtegjdgiegnofhaaDoor
open Go.RowKit Go.Deep

set_option maxHeartbeats 8000000 in
set_option maxRecDepth 100000 in
/-- A bool. -/
theorem own2 {d : Dr} {ve v vm : Value} {es : List Ef} {W : World} {s : Cn} {ks : List Kn} {ms : List Bool} {D : Nat} (ty : Int) (ht : ty = 2) (deep : Int) (hO : OfC d ve es D) (h1 : deep ≤ D) (h2 : -90 ≤ deep) (h3 : D ≤ 100) (h : Gen d ve W s) (hf : Fit s 100) (hE : Env d ve es W v ks vm ms (D + 1)) :
    Calls Tryd.prog 57 #[.pointer (some ⟨d.G, 0, none⟩), .int .i64 ty, v, vm, .int .i64 deep] W (NodesPost d ve W s 100) := by
  have HF := hid hf
  have HO := hid hO
  have A0 := hid (At.start h)
  have HE := hid hE
  have HD := hid (And.intro h1 (And.intro h2 h3))
  have hdu : deep ≤ 1000 := by omega
  obtain ⟨ad, cp, rfl⟩ := hE.know.is
  obtain ⟨adm, cpm, rfl⟩ := hE.may.is
  clear hO h1 h3 h hf hE
  subst ht
  go_enter Tryd.func57, Tryd.ntmps57
  go_upto_region 12 with fail
  refine pick_begin (S := fun w' => w'.cell? ⟨d.G, 0, none⟩ = some (.pointer (some ⟨d.B, 0, none⟩))) (by kernel_rfl) rfl rfl ?_
  have A1 := hid A0.out.drew
  have G1 := hid (Grew.refl d W).drew
  have hXD : W.drew = W.drew := rfl
  generalize W.drew = X1 at *
  clear hXD
  refine pick_op (i := 1) (v := .pointer (some ⟨d.G, 0, none⟩)) (by kernel_rfl) rfl (by kernel_rfl) (by kernel_rfl) rfl rfl (fun w' hw => by simp [go_sem]) (A1.out.1.c0) (by simp [go_sem]; exact rfl) ?_
  refine pick_op (i := 2) (v := .pointer (some ⟨d.G, 0, none⟩)) (by kernel_rfl) rfl (by kernel_rfl) (by kernel_rfl) rfl rfl (fun w' hw => by simp [go_sem]) (A1.out.1.c0) (by simp [go_sem]; exact rfl) ?_
  refine pick_op (i := 3) (v := .pointer (some ⟨d.G, 0, none⟩)) (by kernel_rfl) rfl (by kernel_rfl) (by kernel_rfl) rfl rfl (fun w' hw => by simp [go_sem]) (A1.out.1.c0) (by simp [go_sem]; exact rfl) ?_
  refine pick_op (i := 4) (v := .pointer (some ⟨d.B, 0, none⟩)) (by kernel_rfl) rfl (by kernel_rfl) (by kernel_rfl) rfl rfl (fun w' hw => by simp [go_sem, hw]) (A1.out.1.c0) (by simp [go_sem]; exact rfl) ?_
  refine pick_op (i := 9) (v := .pointer (some ⟨d.G, 0, none⟩)) (by kernel_rfl) rfl (by kernel_rfl) (by kernel_rfl) rfl rfl (fun w' hw => by simp [go_sem]) (A1.out.1.c0) (by simp [go_sem]; exact rfl) ?_
  refine pick_op (i := 10) (v := .slice ad ks.length cp) (by kernel_rfl) rfl (by kernel_rfl) (by kernel_rfl) rfl rfl (fun w' hw => by simp [go_sem]) (A1.out.1.c0) (by simp [go_sem]; exact rfl) ?_
  refine pick_op (i := 11) (v := .slice adm ms.length cpm) (by kernel_rfl) rfl (by kernel_rfl) (by kernel_rfl) rfl rfl (fun w' hw => by simp [go_sem]) (A1.out.1.c0) (by simp [go_sem]; exact rfl) ?_
  refine pick_op (i := 12) (v := .int .i64 deep) (by kernel_rfl) rfl (by kernel_rfl) (by kernel_rfl) rfl rfl (fun w' hw => by simp [go_sem]) (A1.out.1.c0) (by simp [go_sem]; exact rfl) ?_
  refine pick_op (i := 14) (v := .pointer (some ⟨d.G, 0, none⟩)) (by kernel_rfl) rfl (by kernel_rfl) (by kernel_rfl) rfl rfl (fun w' hw => by simp [go_sem]) (A1.out.1.c0) (by simp [go_sem]; exact rfl) ?_
  refine pick_op (i := 15) (v := .slice ad ks.length cp) (by kernel_rfl) rfl (by kernel_rfl) (by kernel_rfl) rfl rfl (fun w' hw => by simp [go_sem]) (A1.out.1.c0) (by simp [go_sem]; exact rfl) ?_
  refine pick_op (i := 16) (v := .slice adm ms.length cpm) (by kernel_rfl) rfl (by kernel_rfl) (by kernel_rfl) rfl rfl (fun w' hw => by simp [go_sem]) (A1.out.1.c0) (by simp [go_sem]; exact rfl) ?_
  refine pick_op (i := 17) (v := .int .i64 deep) (by kernel_rfl) rfl (by kernel_rfl) (by kernel_rfl) rfl rfl (fun w' hw => by simp [go_sem]) (A1.out.1.c0) (by simp [go_sem]; exact rfl) ?_
  refine pick_either (i := 0) (j := 5) (by kernel_rfl) ?_ ?_
  · have RB := hid (MapKept.heap_alloc X1 (.cells #[.int .i64 14, .int .i64 15] 3)).1
    have HQ := hid (And.intro A1.out.1.ltB A1.out.1.ltG)
    have A2 := hid (A1.out.alloc (.cells #[.int .i64 14, .int .i64 15] 3))
    have G2 := hid ((Grew.refl d X1).alloc (.cells #[.int .i64 14, .int .i64 15] 3))
    refine ⟨_, .slice (some ⟨X1.heap.size, 0, none⟩) 2 2, X1.alloc (.cells #[.int .i64 14, .int .i64 15] 3), rfl, rfl, by simp [go_sem], A2.out.1.c0, ?_⟩
    refine pick_frame (by simp [go_sem]; exact rfl) ?_
    generalize X1.alloc (.cells #[.int .i64 14, .int .i64 15] 3) = X2 at *
    obtain ⟨q, hq⟩ : ∃ q, X1.heap.size = q := ⟨_, rfl⟩
    rw [hq] at RB HQ ⊢
    clear hq
    refine pick_enter (i := 5) (f := 22) (args := #[.pointer (some ⟨d.B, 0, none⟩), .int .i64 2]) rfl (by kernel_rfl) rfl rfl (by simp [go_sem]) ?_
    refine (A2.out.pick HF.out (by omega) 2 (by decide)).mono ?_
    rintro e X3 ⟨m3, s3, rfl, hm3, hM3, ha, hg⟩
    have A3 := hid ha
    have G3 := hid hg
    clear ha hg
    refine ⟨_, rfl, (A3.out.1.c0), ?_⟩
    refine pick_frame (by simp [go_sem]; exact rfl) ?_
    obtain ⟨kv, hkv⟩ := two_get 14 15 m3 hm3 hM3
    have cq := (cell_of_heap ((G3.out.block q ⟨heap_lt RB.out, (show q ≠ d.B by have := HQ.out.1; omega), (show q ≠ d.G by have := HQ.out.2; omega)⟩).trans RB.out) m3.toNat).trans hkv
    have RBn := hid ((G3.out.block q ⟨heap_lt RB.out, (show q ≠ d.B by have := HQ.out.1; omega), (show q ≠ d.G by have := HQ.out.2; omega)⟩).trans RB.out)
    clear hkv
    refine pick_op (i := 6) (v := .pointer (some ⟨q, m3.toNat, none⟩)) (by kernel_rfl) rfl (by kernel_rfl) (by kernel_rfl) rfl rfl (fun w' hw => by simp [go_sem, hm3, hM3]) (A3.out.1.c0) (by simp [go_sem]; exact rfl) ?_
    refine pick_more (fun w' => w'.cell? ⟨d.G, 0, none⟩ = some (.pointer (some ⟨d.B, 0, none⟩)) ∧ w'.cell? ⟨q, m3.toNat, none⟩ = some (.int .i64 kv)) (fun w h => h.1) ?_
    refine pick_op (i := 7) (v := .int .i64 kv) (by kernel_rfl) rfl (by kernel_rfl) (by kernel_rfl) rfl rfl (fun w' hw => by simp [go_sem, hw.2]) ⟨A3.out.1.c0, cq⟩ (by simp [go_sem]; exact rfl) ?_
    refine pick_op (i := 8) (v := .agg #[.int .i64 kv, .int .i64 0, .string ⟨#[]⟩, .string ⟨#[]⟩, .string ⟨#[]⟩, .int .i64 0]) (by kernel_rfl) rfl (by kernel_rfl) (by kernel_rfl) rfl rfl (fun w' hw => by simp [go_sem]) ⟨A3.out.1.c0, cq⟩ (by simp [go_sem]; exact rfl) ?_
    refine pick_enter (i := 13) (f := 34) (args := #[.pointer (some ⟨d.G, 0, none⟩), .int .i64 1, .slice ad ks.length cp, .slice adm ms.length cpm, .int .i64 deep]) rfl (by kernel_rfl) rfl rfl (by simp [go_sem]) ?_
    refine (A3.out.nodes (HO.out deep 1 _ _ _ _ _ _ (by have := HD.out; omega) (by have := HD.out; omega) (A3.out.fit HF.out 10 (by omega)) A3.out.1 (HE.out.grew (G1.out.trans (G2.out.trans G3.out))).down)).mono ?_
    rintro e X4 ⟨v4, n4, s4, t4, rfl, hn4, hl4, ha, hg⟩
    have A4 := hid ha
    have G4 := hid hg
    clear ha hg
    have N4 := hid (And.intro hn4 hl4)
    obtain ⟨ad4, cp4, rfl⟩ := hn4.is
    clear hn4 hl4
    have cq5 := (G4.out.cell (p := ⟨q, m3.toNat, none⟩) ⟨heap_lt RBn.out, (show q ≠ d.B by have := HQ.out.1; omega), (show q ≠ d.G by have := HQ.out.2; omega)⟩).trans cq
    refine ⟨_, rfl, ⟨A4.out.1.c0, cq5⟩, ?_⟩
    refine pick_frame (by simp [go_sem]; exact rfl) ?_
    refine pick_enter (i := 18) (f := 34) (args := #[.pointer (some ⟨d.G, 0, none⟩), .int .i64 1, .slice ad ks.length cp, .slice adm ms.length cpm, .int .i64 deep]) rfl (by kernel_rfl) rfl rfl (by simp [go_sem]) ?_
    refine (A4.out.nodes (HO.out deep 1 _ _ _ _ _ _ (by have := HD.out; omega) (by have := HD.out; omega) (A4.out.fit HF.out 10 (by omega)) A4.out.1 (HE.out.grew (G1.out.trans (G2.out.trans (G3.out.trans G4.out)))).down)).mono ?_
    rintro e X6 ⟨v6, n6, s6, t6, rfl, hn6, hl6, ha, hg⟩
    have A6 := hid ha
    have G6 := hid hg
    clear ha hg
    have N6 := hid (And.intro hn6 hl6)
    obtain ⟨ad6, cp6, rfl⟩ := hn6.is
    clear hn6 hl6
    have cq7 := ((G4.out.trans G6.out).cell (p := ⟨q, m3.toNat, none⟩) ⟨heap_lt RBn.out, (show q ≠ d.B by have := HQ.out.1; omega), (show q ≠ d.G by have := HQ.out.2; omega)⟩).trans cq
    refine ⟨_, rfl, ⟨A6.out.1.c0, cq7⟩, ?_⟩
    refine pick_frame (by simp [go_sem]; exact rfl) ?_
    have KV : Hid (KidsV d (X6.alloc (.cells #[.slice ad4 n4.length cp4, .slice ad6 n6.length cp6] 55)) (.slice (some ⟨X6.heap.size, 0, none⟩) 2 2) [(.slice ad4 n4.length cp4, n4), (.slice ad6 n6.length cp6, n6)]) := (kids_lit [(.slice ad4 n4.length cp4, n4), (.slice ad6 n6.length cp6, n6)] _ rfl A6.out.1.ltB A6.out.1.ltG (fun x hx => by simp at hx; rcases hx with rfl | rfl; exact (N4.out.1.grew G6.out); exact N6.out.1))
    have A8 := hid (A6.out.alloc (.cells #[.slice ad4 n4.length cp4, .slice ad6 n6.length cp6] 55))
    have G8 := hid ((Grew.refl d X6).alloc (.cells #[.slice ad4 n4.length cp4, .slice ad6 n6.length cp6] 55))
    have cq9 := ((G4.out.trans (G6.out.trans G8.out)).cell (p := ⟨q, m3.toNat, none⟩) ⟨heap_lt RBn.out, (show q ≠ d.B by have := HQ.out.1; omega), (show q ≠ d.G by have := HQ.out.2; omega)⟩).trans cq
    refine pick_make (i := 19) (v := .slice (some ⟨X6.heap.size, 0, none⟩) 2 2) (w1 := X6.alloc (.cells #[.slice ad4 n4.length cp4, .slice ad6 n6.length cp6] 55)) rfl (by kernel_rfl) rfl rfl (by simp [go_sem]) ⟨A8.out.1.c0, cq9⟩ (by simp [go_sem]; exact rfl) ?_
    generalize X6.alloc (.cells #[.slice ad4 n4.length cp4, .slice ad6 n6.length cp6] 55) = X8 at *
    refine pick_enter (i := 20) (f := 51) (args := #[.agg #[.int .i64 kv, .int .i64 0, .string ⟨#[]⟩, .string ⟨#[]⟩, .string ⟨#[]⟩, .int .i64 0], .slice (some ⟨X6.heap.size, 0, none⟩) 2 2]) rfl (by kernel_rfl) rfl rfl (by simp [go_sem]) ?_
    refine (A8.out.put_kids kv 0 0 ⟨#[]⟩ ⟨#[]⟩ ⟨#[]⟩ KV.out ⟨brief_none, brief_none, brief_none⟩ (by simp) (by have := A8.out.bound HF.out (by omega) (by decide); have := N4.out.2; have := N6.out.2; simp [flatL]; omega)).mono ?_
    rintro e X10 ⟨v10, n10, rfl, hn10, hl10, ha, hg⟩
    have A10 := hid ha
    have G10 := hid hg
    clear ha hg
    have N10 := hid (And.intro hn10 hl10)
    clear hn10 hl10
    have cq11 := ((G4.out.trans (G6.out.trans (G8.out.trans G10.out))).cell (p := ⟨q, m3.toNat, none⟩) ⟨heap_lt RBn.out, (show q ≠ d.B by have := HQ.out.1; omega), (show q ≠ d.G by have := HQ.out.2; omega)⟩).trans cq
    refine ⟨_, rfl, ⟨A10.out.1.c0, cq11⟩, ?_⟩
    refine pick_frame (by simp [go_sem]; exact rfl) ?_
    refine pick_op (i := 21) (v := v10) (by kernel_rfl) rfl (by kernel_rfl) (by kernel_rfl) rfl rfl (fun w' hw => by simp [go_sem]) ⟨A10.out.1.c0, cq11⟩ (by simp [go_sem]; exact rfl) ?_
    refine pick_end (by kernel_rfl) ?_
    go_wp2_with fail
    go_ret
    exact A10.out.done 1 N10.out.1 (by have := N10.out.2; have := N4.out.2; have := N6.out.2; simp [flatL] at *; omega) (by omega)
  · refine ⟨_, 22, #[.pointer (some ⟨d.B, 0, none⟩), .int .i64 2], rfl, rfl, by simp [go_sem], ?_⟩
    refine (A1.out.pick HF.out (by omega) 2 (by decide)).mono ?_
    rintro e X2 ⟨m2, s2, rfl, hm2, hM2, ha, hg⟩
    have A2 := hid ha
    have G2 := hid hg
    clear ha hg
    refine ⟨_, rfl, (A2.out.1.c0), ?_⟩
    refine pick_frame (by simp [go_sem]; exact rfl) ?_
    refine pick_either (i := 0) (j := 13) (by kernel_rfl) ?_ ?_
    · have RB := hid (MapKept.heap_alloc X2 (.cells #[.int .i64 14, .int .i64 15] 3)).1
      have HQ := hid (And.intro A2.out.1.ltB A2.out.1.ltG)
      have A3 := hid (A2.out.alloc (.cells #[.int .i64 14, .int .i64 15] 3))
      have G3 := hid ((Grew.refl d X2).alloc (.cells #[.int .i64 14, .int .i64 15] 3))
      refine ⟨_, .slice (some ⟨X2.heap.size, 0, none⟩) 2 2, X2.alloc (.cells #[.int .i64 14, .int .i64 15] 3), rfl, rfl, by simp [go_sem], A3.out.1.c0, ?_⟩
      refine pick_frame (by simp [go_sem]; exact rfl) ?_
      generalize X2.alloc (.cells #[.int .i64 14, .int .i64 15] 3) = X3 at *
      obtain ⟨q, hq⟩ : ∃ q, X2.heap.size = q := ⟨_, rfl⟩
      rw [hq] at RB HQ ⊢
      clear hq
      obtain ⟨kv, hkv⟩ := two_get 14 15 m2 hm2 hM2
      have cq := (cell_of_heap RB.out m2.toNat).trans hkv
      have RBn := hid RB.out
      clear hkv
      refine pick_op (i := 6) (v := .pointer (some ⟨q, m2.toNat, none⟩)) (by kernel_rfl) rfl (by kernel_rfl) (by kernel_rfl) rfl rfl (fun w' hw => by simp [go_sem, hm2, hM2]) (A3.out.1.c0) (by simp [go_sem]; exact rfl) ?_
      refine pick_more (fun w' => w'.cell? ⟨d.G, 0, none⟩ = some (.pointer (some ⟨d.B, 0, none⟩)) ∧ w'.cell? ⟨q, m2.toNat, none⟩ = some (.int .i64 kv)) (fun w h => h.1) ?_
      refine pick_op (i := 7) (v := .int .i64 kv) (by kernel_rfl) rfl (by kernel_rfl) (by kernel_rfl) rfl rfl (fun w' hw => by simp [go_sem, hw.2]) ⟨A3.out.1.c0, cq⟩ (by simp [go_sem]; exact rfl) ?_
      refine pick_op (i := 8) (v := .agg #[.int .i64 kv, .int .i64 0, .string ⟨#[]⟩, .string ⟨#[]⟩, .string ⟨#[]⟩, .int .i64 0]) (by kernel_rfl) rfl (by kernel_rfl) (by kernel_rfl) rfl rfl (fun w' hw => by simp [go_sem]) ⟨A3.out.1.c0, cq⟩ (by simp [go_sem]; exact rfl) ?_
      refine pick_enter (i := 13) (f := 34) (args := #[.pointer (some ⟨d.G, 0, none⟩), .int .i64 1, .slice ad ks.length cp, .slice adm ms.length cpm, .int .i64 deep]) rfl (by kernel_rfl) rfl rfl (by simp [go_sem]) ?_
      refine (A3.out.nodes (HO.out deep 1 _ _ _ _ _ _ (by have := HD.out; omega) (by have := HD.out; omega) (A3.out.fit HF.out 10 (by omega)) A3.out.1 (HE.out.grew (G1.out.trans (G2.out.trans G3.out))).down)).mono ?_
      rintro e X4 ⟨v4, n4, s4, t4, rfl, hn4, hl4, ha, hg⟩
      have A4 := hid ha
      have G4 := hid hg
      clear ha hg
      have N4 := hid (And.intro hn4 hl4)
      obtain ⟨ad4, cp4, rfl⟩ := hn4.is
      clear hn4 hl4
      have cq5 := (G4.out.cell (p := ⟨q, m2.toNat, none⟩) ⟨heap_lt RBn.out, (show q ≠ d.B by have := HQ.out.1; omega), (show q ≠ d.G by have := HQ.out.2; omega)⟩).trans cq
      refine ⟨_, rfl, ⟨A4.out.1.c0, cq5⟩, ?_⟩
      refine pick_frame (by simp [go_sem]; exact rfl) ?_
      refine pick_enter (i := 18) (f := 34) (args := #[.pointer (some ⟨d.G, 0, none⟩), .int .i64 1, .slice ad ks.length cp, .slice adm ms.length cpm, .int .i64 deep]) rfl (by kernel_rfl) rfl rfl (by simp [go_sem]) ?_
      refine (A4.out.nodes (HO.out deep 1 _ _ _ _ _ _ (by have := HD.out; omega) (by have := HD.out; omega) (A4.out.fit HF.out 10 (by omega)) A4.out.1 (HE.out.grew (G1.out.trans (G2.out.trans (G3.out.trans G4.out)))).down)).mono ?_
      rintro e X6 ⟨v6, n6, s6, t6, rfl, hn6, hl6, ha, hg⟩
      have A6 := hid ha
      have G6 := hid hg
      clear ha hg
      have N6 := hid (And.intro hn6 hl6)
      obtain ⟨ad6, cp6, rfl⟩ := hn6.is
      clear hn6 hl6
      have cq7 := ((G4.out.trans G6.out).cell (p := ⟨q, m2.toNat, none⟩) ⟨heap_lt RBn.out, (show q ≠ d.B by have := HQ.out.1; omega), (show q ≠ d.G by have := HQ.out.2; omega)⟩).trans cq
      refine ⟨_, rfl, ⟨A6.out.1.c0, cq7⟩, ?_⟩
      refine pick_frame (by simp [go_sem]; exact rfl) ?_
      have KV : Hid (KidsV d (X6.alloc (.cells #[.slice ad4 n4.length cp4, .slice ad6 n6.length cp6] 55)) (.slice (some ⟨X6.heap.size, 0, none⟩) 2 2) [(.slice ad4 n4.length cp4, n4), (.slice ad6 n6.length cp6, n6)]) := (kids_lit [(.slice ad4 n4.length cp4, n4), (.slice ad6 n6.length cp6, n6)] _ rfl A6.out.1.ltB A6.out.1.ltG (fun x hx => by simp at hx; rcases hx with rfl | rfl; exact (N4.out.1.grew G6.out); exact N6.out.1))
      have A8 := hid (A6.out.alloc (.cells #[.slice ad4 n4.length cp4, .slice ad6 n6.length cp6] 55))
      have G8 := hid ((Grew.refl d X6).alloc (.cells #[.slice ad4 n4.length cp4, .slice ad6 n6.length cp6] 55))
      have cq9 := ((G4.out.trans (G6.out.trans G8.out)).cell (p := ⟨q, m2.toNat, none⟩) ⟨heap_lt RBn.out, (show q ≠ d.B by have := HQ.out.1; omega), (show q ≠ d.G by have := HQ.out.2; omega)⟩).trans cq
      refine pick_make (i := 19) (v := .slice (some ⟨X6.heap.size, 0, none⟩) 2 2) (w1 := X6.alloc (.cells #[.slice ad4 n4.length cp4, .slice ad6 n6.length cp6] 55)) rfl (by kernel_rfl) rfl rfl (by simp [go_sem]) ⟨A8.out.1.c0, cq9⟩ (by simp [go_sem]; exact rfl) ?_
      generalize X6.alloc (.cells #[.slice ad4 n4.length cp4, .slice ad6 n6.length cp6] 55) = X8 at *
      refine pick_enter (i := 20) (f := 51) (args := #[.agg #[.int .i64 kv, .int .i64 0, .string ⟨#[]⟩, .string ⟨#[]⟩, .string ⟨#[]⟩, .int .i64 0], .slice (some ⟨X6.heap.size, 0, none⟩) 2 2]) rfl (by kernel_rfl) rfl rfl (by simp [go_sem]) ?_
      refine (A8.out.put_kids kv 0 0 ⟨#[]⟩ ⟨#[]⟩ ⟨#[]⟩ KV.out ⟨brief_none, brief_none, brief_none⟩ (by simp) (by have := A8.out.bound HF.out (by omega) (by decide); have := N4.out.2; have := N6.out.2; simp [flatL]; omega)).mono ?_
      rintro e X10 ⟨v10, n10, rfl, hn10, hl10, ha, hg⟩
      have A10 := hid ha
      have G10 := hid hg
      clear ha hg
      have N10 := hid (And.intro hn10 hl10)
      clear hn10 hl10
      have cq11 := ((G4.out.trans (G6.out.trans (G8.out.trans G10.out))).cell (p := ⟨q, m2.toNat, none⟩) ⟨heap_lt RBn.out, (show q ≠ d.B by have := HQ.out.1; omega), (show q ≠ d.G by have := HQ.out.2; omega)⟩).trans cq
      refine ⟨_, rfl, ⟨A10.out.1.c0, cq11⟩, ?_⟩
      refine pick_frame (by simp [go_sem]; exact rfl) ?_
      refine pick_op (i := 21) (v := v10) (by kernel_rfl) rfl (by kernel_rfl) (by kernel_rfl) rfl rfl (fun w' hw => by simp [go_sem]) ⟨A10.out.1.c0, cq11⟩ (by simp [go_sem]; exact rfl) ?_
      refine pick_end (by kernel_rfl) ?_
      go_wp2_with fail
      go_ret
      exact A10.out.done 1 N10.out.1 (by have := N10.out.2; have := N4.out.2; have := N6.out.2; simp [flatL] at *; omega) (by omega)
    · refine ⟨_, 34, #[.pointer (some ⟨d.G, 0, none⟩), .int .i64 1, .slice ad ks.length cp, .slice adm ms.length cpm, .int .i64 deep], rfl, rfl, by simp [go_sem], ?_⟩
      refine (A2.out.nodes (HO.out deep 1 _ _ _ _ _ _ (by have := HD.out; omega) (by have := HD.out; omega) (A2.out.fit HF.out 10 (by omega)) A2.out.1 (HE.out.grew (G1.out.trans G2.out)).down)).mono ?_
      rintro e X3 ⟨v3, n3, s3, t3, rfl, hn3, hl3, ha, hg⟩
      have A3 := hid ha
      have G3 := hid hg
      clear ha hg
      have N3 := hid (And.intro hn3 hl3)
      obtain ⟨ad3, cp3, rfl⟩ := hn3.is
      clear hn3 hl3
      refine ⟨_, rfl, (A3.out.1.c0), ?_⟩
      refine pick_frame (by simp [go_sem]; exact rfl) ?_
      refine pick_either (i := 0) (j := 18) (by kernel_rfl) ?_ ?_
      · have RB := hid (MapKept.heap_alloc X3 (.cells #[.int .i64 14, .int .i64 15] 3)).1
        have HQ := hid (And.intro A3.out.1.ltB A3.out.1.ltG)
        have A4 := hid (A3.out.alloc (.cells #[.int .i64 14, .int .i64 15] 3))
        have G4 := hid ((Grew.refl d X3).alloc (.cells #[.int .i64 14, .int .i64 15] 3))
        refine ⟨_, .slice (some ⟨X3.heap.size, 0, none⟩) 2 2, X3.alloc (.cells #[.int .i64 14, .int .i64 15] 3), rfl, rfl, by simp [go_sem], A4.out.1.c0, ?_⟩
        refine pick_frame (by simp [go_sem]; exact rfl) ?_
        generalize X3.alloc (.cells #[.int .i64 14, .int .i64 15] 3) = X4 at *
        obtain ⟨q, hq⟩ : ∃ q, X3.heap.size = q := ⟨_, rfl⟩
        rw [hq] at RB HQ ⊢
        clear hq
        obtain ⟨kv, hkv⟩ := two_get 14 15 m2 hm2 hM2
        have cq := (cell_of_heap RB.out m2.toNat).trans hkv
        have RBn := hid RB.out
        clear hkv
        refine pick_op (i := 6) (v := .pointer (some ⟨q, m2.toNat, none⟩)) (by kernel_rfl) rfl (by kernel_rfl) (by kernel_rfl) rfl rfl (fun w' hw => by simp [go_sem, hm2, hM2]) (A4.out.1.c0) (by simp [go_sem]; exact rfl) ?_
        refine pick_more (fun w' => w'.cell? ⟨d.G, 0, none⟩ = some (.pointer (some ⟨d.B, 0, none⟩)) ∧ w'.cell? ⟨q, m2.toNat, none⟩ = some (.int .i64 kv)) (fun w h => h.1) ?_
        refine pick_op (i := 7) (v := .int .i64 kv) (by kernel_rfl) rfl (by kernel_rfl) (by kernel_rfl) rfl rfl (fun w' hw => by simp [go_sem, hw.2]) ⟨A4.out.1.c0, cq⟩ (by simp [go_sem]; exact rfl) ?_
        refine pick_op (i := 8) (v := .agg #[.int .i64 kv, .int .i64 0, .string ⟨#[]⟩, .string ⟨#[]⟩, .string ⟨#[]⟩, .int .i64 0]) (by kernel_rfl) rfl (by kernel_rfl) (by kernel_rfl) rfl rfl (fun w' hw => by simp [go_sem]) ⟨A4.out.1.c0, cq⟩ (by simp [go_sem]; exact rfl) ?_
        refine pick_enter (i := 18) (f := 34) (args := #[.pointer (some ⟨d.G, 0, none⟩), .int .i64 1, .slice ad ks.length cp, .slice adm ms.length cpm, .int .i64 deep]) rfl (by kernel_rfl) rfl rfl (by simp [go_sem]) ?_
        refine (A4.out.nodes (HO.out deep 1 _ _ _ _ _ _ (by have := HD.out; omega) (by have := HD.out; omega) (A4.out.fit HF.out 10 (by omega)) A4.out.1 (HE.out.grew (G1.out.trans (G2.out.trans (G3.out.trans G4.out)))).down)).mono ?_
        rintro e X5 ⟨v5, n5, s5, t5, rfl, hn5, hl5, ha, hg⟩
        have A5 := hid ha
        have G5 := hid hg
        clear ha hg
        have N5 := hid (And.intro hn5 hl5)
        obtain ⟨ad5, cp5, rfl⟩ := hn5.is
        clear hn5 hl5
        have cq6 := (G5.out.cell (p := ⟨q, m2.toNat, none⟩) ⟨heap_lt RBn.out, (show q ≠ d.B by have := HQ.out.1; omega), (show q ≠ d.G by have := HQ.out.2; omega)⟩).trans cq
        refine ⟨_, rfl, ⟨A5.out.1.c0, cq6⟩, ?_⟩
        refine pick_frame (by simp [go_sem]; exact rfl) ?_
        have KV : Hid (KidsV d (X5.alloc (.cells #[.slice ad3 n3.length cp3, .slice ad5 n5.length cp5] 55)) (.slice (some ⟨X5.heap.size, 0, none⟩) 2 2) [(.slice ad3 n3.length cp3, n3), (.slice ad5 n5.length cp5, n5)]) := (kids_lit [(.slice ad3 n3.length cp3, n3), (.slice ad5 n5.length cp5, n5)] _ rfl A5.out.1.ltB A5.out.1.ltG (fun x hx => by simp at hx; rcases hx with rfl | rfl; exact (N3.out.1.grew (G4.out.trans G5.out)); exact N5.out.1))
        have A7 := hid (A5.out.alloc (.cells #[.slice ad3 n3.length cp3, .slice ad5 n5.length cp5] 55))
        have G7 := hid ((Grew.refl d X5).alloc (.cells #[.slice ad3 n3.length cp3, .slice ad5 n5.length cp5] 55))
        have cq8 := ((G5.out.trans G7.out).cell (p := ⟨q, m2.toNat, none⟩) ⟨heap_lt RBn.out, (show q ≠ d.B by have := HQ.out.1; omega), (show q ≠ d.G by have := HQ.out.2; omega)⟩).trans cq
        refine pick_make (i := 19) (v := .slice (some ⟨X5.heap.size, 0, none⟩) 2 2) (w1 := X5.alloc (.cells #[.slice ad3 n3.length cp3, .slice ad5 n5.length cp5] 55)) rfl (by kernel_rfl) rfl rfl (by simp [go_sem]) ⟨A7.out.1.c0, cq8⟩ (by simp [go_sem]; exact rfl) ?_
        generalize X5.alloc (.cells #[.slice ad3 n3.length cp3, .slice ad5 n5.length cp5] 55) = X7 at *
        refine pick_enter (i := 20) (f := 51) (args := #[.agg #[.int .i64 kv, .int .i64 0, .string ⟨#[]⟩, .string ⟨#[]⟩, .string ⟨#[]⟩, .int .i64 0], .slice (some ⟨X5.heap.size, 0, none⟩) 2 2]) rfl (by kernel_rfl) rfl rfl (by simp [go_sem]) ?_
        refine (A7.out.put_kids kv 0 0 ⟨#[]⟩ ⟨#[]⟩ ⟨#[]⟩ KV.out ⟨brief_none, brief_none, brief_none⟩ (by simp) (by have := A7.out.bound HF.out (by omega) (by decide); have := N3.out.2; have := N5.out.2; simp [flatL]; omega)).mono ?_
        rintro e X9 ⟨v9, n9, rfl, hn9, hl9, ha, hg⟩
        have A9 := hid ha
        have G9 := hid hg
        clear ha hg
        have N9 := hid (And.intro hn9 hl9)
        clear hn9 hl9
        have cq10 := ((G5.out.trans (G7.out.trans G9.out)).cell (p := ⟨q, m2.toNat, none⟩) ⟨heap_lt RBn.out, (show q ≠ d.B by have := HQ.out.1; omega), (show q ≠ d.G by have := HQ.out.2; omega)⟩).trans cq
        refine ⟨_, rfl, ⟨A9.out.1.c0, cq10⟩, ?_⟩
        refine pick_frame (by simp [go_sem]; exact rfl) ?_
        refine pick_op (i := 21) (v := v9) (by kernel_rfl) rfl (by kernel_rfl) (by kernel_rfl) rfl rfl (fun w' hw => by simp [go_sem]) ⟨A9.out.1.c0, cq10⟩ (by simp [go_sem]; exact rfl) ?_
        refine pick_end (by kernel_rfl) ?_
        go_wp2_with fail
        go_ret
        exact A9.out.done 1 N9.out.1 (by have := N9.out.2; have := N3.out.2; have := N5.out.2; simp [flatL] at *; omega) (by omega)
      · refine ⟨_, 34, #[.pointer (some ⟨d.G, 0, none⟩), .int .i64 1, .slice ad ks.length cp, .slice adm ms.length cpm, .int .i64 deep], rfl, rfl, by simp [go_sem], ?_⟩
        refine (A3.out.nodes (HO.out deep 1 _ _ _ _ _ _ (by have := HD.out; omega) (by have := HD.out; omega) (A3.out.fit HF.out 10 (by omega)) A3.out.1 (HE.out.grew (G1.out.trans (G2.out.trans G3.out))).down)).mono ?_
        rintro e X4 ⟨v4, n4, s4, t4, rfl, hn4, hl4, ha, hg⟩
        have A4 := hid ha
        have G4 := hid hg
        clear ha hg
        have N4 := hid (And.intro hn4 hl4)
        obtain ⟨ad4, cp4, rfl⟩ := hn4.is
        clear hn4 hl4
        refine ⟨_, rfl, (A4.out.1.c0), ?_⟩
        refine pick_frame (by simp [go_sem]; exact rfl) ?_
        refine pick_fork (i := 0) (j := 19) (by kernel_rfl) ?_ ?_
        · have RB := hid (MapKept.heap_alloc X4 (.cells #[.int .i64 14, .int .i64 15] 3)).1
          have HQ := hid (And.intro A4.out.1.ltB A4.out.1.ltG)
          have A5 := hid (A4.out.alloc (.cells #[.int .i64 14, .int .i64 15] 3))
          have G5 := hid ((Grew.refl d X4).alloc (.cells #[.int .i64 14, .int .i64 15] 3))
          refine ⟨_, .slice (some ⟨X4.heap.size, 0, none⟩) 2 2, X4.alloc (.cells #[.int .i64 14, .int .i64 15] 3), rfl, rfl, by simp [go_sem], A5.out.1.c0, ?_⟩
          refine pick_frame (by simp [go_sem]; exact rfl) ?_
          generalize X4.alloc (.cells #[.int .i64 14, .int .i64 15] 3) = X5 at *
          obtain ⟨q, hq⟩ : ∃ q, X4.heap.size = q := ⟨_, rfl⟩
          rw [hq] at RB HQ ⊢
          clear hq
          obtain ⟨kv, hkv⟩ := two_get 14 15 m2 hm2 hM2
          have cq := (cell_of_heap RB.out m2.toNat).trans hkv
          have RBn := hid RB.out
          clear hkv
          refine pick_op (i := 6) (v := .pointer (some ⟨q, m2.toNat, none⟩)) (by kernel_rfl) rfl (by kernel_rfl) (by kernel_rfl) rfl rfl (fun w' hw => by simp [go_sem, hm2, hM2]) (A5.out.1.c0) (by simp [go_sem]; exact rfl) ?_
          refine pick_more (fun w' => w'.cell? ⟨d.G, 0, none⟩ = some (.pointer (some ⟨d.B, 0, none⟩)) ∧ w'.cell? ⟨q, m2.toNat, none⟩ = some (.int .i64 kv)) (fun w h => h.1) ?_
          refine pick_op (i := 7) (v := .int .i64 kv) (by kernel_rfl) rfl (by kernel_rfl) (by kernel_rfl) rfl rfl (fun w' hw => by simp [go_sem, hw.2]) ⟨A5.out.1.c0, cq⟩ (by simp [go_sem]; exact rfl) ?_
          refine pick_op (i := 8) (v := .agg #[.int .i64 kv, .int .i64 0, .string ⟨#[]⟩, .string ⟨#[]⟩, .string ⟨#[]⟩, .int .i64 0]) (by kernel_rfl) rfl (by kernel_rfl) (by kernel_rfl) rfl rfl (fun w' hw => by simp [go_sem]) ⟨A5.out.1.c0, cq⟩ (by simp [go_sem]; exact rfl) ?_
          have KV : Hid (KidsV d (X5.alloc (.cells #[.slice ad3 n3.length cp3, .slice ad4 n4.length cp4] 55)) (.slice (some ⟨X5.heap.size, 0, none⟩) 2 2) [(.slice ad3 n3.length cp3, n3), (.slice ad4 n4.length cp4, n4)]) := (kids_lit [(.slice ad3 n3.length cp3, n3), (.slice ad4 n4.length cp4, n4)] _ rfl A5.out.1.ltB A5.out.1.ltG (fun x hx => by simp at hx; rcases hx with rfl | rfl; exact (N3.out.1.grew (G4.out.trans G5.out)); exact (N4.out.1.grew G5.out)))
          have A6 := hid (A5.out.alloc (.cells #[.slice ad3 n3.length cp3, .slice ad4 n4.length cp4] 55))
          have G6 := hid ((Grew.refl d X5).alloc (.cells #[.slice ad3 n3.length cp3, .slice ad4 n4.length cp4] 55))
          have cq7 := (G6.out.cell (p := ⟨q, m2.toNat, none⟩) ⟨heap_lt RBn.out, (show q ≠ d.B by have := HQ.out.1; omega), (show q ≠ d.G by have := HQ.out.2; omega)⟩).trans cq
          refine pick_make (i := 19) (v := .slice (some ⟨X5.heap.size, 0, none⟩) 2 2) (w1 := X5.alloc (.cells #[.slice ad3 n3.length cp3, .slice ad4 n4.length cp4] 55)) rfl (by kernel_rfl) rfl rfl (by simp [go_sem]) ⟨A6.out.1.c0, cq7⟩ (by simp [go_sem]; exact rfl) ?_
          generalize X5.alloc (.cells #[.slice ad3 n3.length cp3, .slice ad4 n4.length cp4] 55) = X6 at *
          refine pick_enter (i := 20) (f := 51) (args := #[.agg #[.int .i64 kv, .int .i64 0, .string ⟨#[]⟩, .string ⟨#[]⟩, .string ⟨#[]⟩, .int .i64 0], .slice (some ⟨X5.heap.size, 0, none⟩) 2 2]) rfl (by kernel_rfl) rfl rfl (by simp [go_sem]) ?_
          refine (A6.out.put_kids kv 0 0 ⟨#[]⟩ ⟨#[]⟩ ⟨#[]⟩ KV.out ⟨brief_none, brief_none, brief_none⟩ (by simp) (by have := A6.out.bound HF.out (by omega) (by decide); have := N3.out.2; have := N4.out.2; simp [flatL]; omega)).mono ?_
          rintro e X8 ⟨v8, n8, rfl, hn8, hl8, ha, hg⟩
          have A8 := hid ha
          have G8 := hid hg
          clear ha hg
          have N8 := hid (And.intro hn8 hl8)
          clear hn8 hl8
          have cq9 := ((G6.out.trans G8.out).cell (p := ⟨q, m2.toNat, none⟩) ⟨heap_lt RBn.out, (show q ≠ d.B by have := HQ.out.1; omega), (show q ≠ d.G by have := HQ.out.2; omega)⟩).trans cq
          refine ⟨_, rfl, ⟨A8.out.1.c0, cq9⟩, ?_⟩
          refine pick_frame (by simp [go_sem]; exact rfl) ?_
          refine pick_op (i := 21) (v := v8) (by kernel_rfl) rfl (by kernel_rfl) (by kernel_rfl) rfl rfl (fun w' hw => by simp [go_sem]) ⟨A8.out.1.c0, cq9⟩ (by simp [go_sem]; exact rfl) ?_
          refine pick_end (by kernel_rfl) ?_
          go_wp2_with fail
          go_ret
          exact A8.out.done 1 N8.out.1 (by have := N8.out.2; have := N3.out.2; have := N4.out.2; simp [flatL] at *; omega) (by omega)
        · have KV : Hid (KidsV d (X4.alloc (.cells #[.slice ad3 n3.length cp3, .slice ad4 n4.length cp4] 55)) (.slice (some ⟨X4.heap.size, 0, none⟩) 2 2) [(.slice ad3 n3.length cp3, n3), (.slice ad4 n4.length cp4, n4)]) := (kids_lit [(.slice ad3 n3.length cp3, n3), (.slice ad4 n4.length cp4, n4)] _ rfl A4.out.1.ltB A4.out.1.ltG (fun x hx => by simp at hx; rcases hx with rfl | rfl; exact (N3.out.1.grew G4.out); exact N4.out.1))
          have A5 := hid (A4.out.alloc (.cells #[.slice ad3 n3.length cp3, .slice ad4 n4.length cp4] 55))
          have G5 := hid ((Grew.refl d X4).alloc (.cells #[.slice ad3 n3.length cp3, .slice ad4 n4.length cp4] 55))
          refine ⟨_, .slice (some ⟨X4.heap.size, 0, none⟩) 2 2, X4.alloc (.cells #[.slice ad3 n3.length cp3, .slice ad4 n4.length cp4] 55), rfl, rfl, by simp [go_sem], (A5.out.1.c0), ?_⟩
          refine pick_frame (by simp [go_sem]; exact rfl) ?_
          generalize X4.alloc (.cells #[.slice ad3 n3.length cp3, .slice ad4 n4.length cp4] 55) = X5 at *
          have RB := hid (MapKept.heap_alloc X5 (.cells #[.int .i64 14, .int .i64 15] 3)).1
          have HQ := hid (And.intro A5.out.1.ltB A5.out.1.ltG)
          have A6 := hid (A5.out.alloc (.cells #[.int .i64 14, .int .i64 15] 3))
          have G6 := hid ((Grew.refl d X5).alloc (.cells #[.int .i64 14, .int .i64 15] 3))
          refine pick_make (i := 0) (v := .slice (some ⟨X5.heap.size, 0, none⟩) 2 2) (w1 := X5.alloc (.cells #[.int .i64 14, .int .i64 15] 3)) rfl (by kernel_rfl) rfl rfl (by simp [go_sem]) A6.out.1.c0 (by simp [go_sem]; exact rfl) ?_
          generalize X5.alloc (.cells #[.int .i64 14, .int .i64 15] 3) = X6 at *
          obtain ⟨q, hq⟩ : ∃ q, X5.heap.size = q := ⟨_, rfl⟩
          rw [hq] at RB HQ ⊢
          clear hq
          obtain ⟨kv, hkv⟩ := two_get 14 15 m2 hm2 hM2
          have cq := (cell_of_heap RB.out m2.toNat).trans hkv
          have RBn := hid RB.out
          clear hkv
          refine pick_op (i := 6) (v := .pointer (some ⟨q, m2.toNat, none⟩)) (by kernel_rfl) rfl (by kernel_rfl) (by kernel_rfl) rfl rfl (fun w' hw => by simp [go_sem, hm2, hM2]) (A6.out.1.c0) (by simp [go_sem]; exact rfl) ?_
          refine pick_more (fun w' => w'.cell? ⟨d.G, 0, none⟩ = some (.pointer (some ⟨d.B, 0, none⟩)) ∧ w'.cell? ⟨q, m2.toNat, none⟩ = some (.int .i64 kv)) (fun w h => h.1) ?_
          refine pick_op (i := 7) (v := .int .i64 kv) (by kernel_rfl) rfl (by kernel_rfl) (by kernel_rfl) rfl rfl (fun w' hw => by simp [go_sem, hw.2]) ⟨A6.out.1.c0, cq⟩ (by simp [go_sem]; exact rfl) ?_
          refine pick_op (i := 8) (v := .agg #[.int .i64 kv, .int .i64 0, .string ⟨#[]⟩, .string ⟨#[]⟩, .string ⟨#[]⟩, .int .i64 0]) (by kernel_rfl) rfl (by kernel_rfl) (by kernel_rfl) rfl rfl (fun w' hw => by simp [go_sem]) ⟨A6.out.1.c0, cq⟩ (by simp [go_sem]; exact rfl) ?_
          refine pick_enter (i := 20) (f := 51) (args := #[.agg #[.int .i64 kv, .int .i64 0, .string ⟨#[]⟩, .string ⟨#[]⟩, .string ⟨#[]⟩, .int .i64 0], .slice (some ⟨X4.heap.size, 0, none⟩) 2 2]) rfl (by kernel_rfl) rfl rfl (by simp [go_sem]) ?_
          refine (A6.out.put_kids kv 0 0 ⟨#[]⟩ ⟨#[]⟩ ⟨#[]⟩ (KV.out.grew G6.out) ⟨brief_none, brief_none, brief_none⟩ (by simp) (by have := A6.out.bound HF.out (by omega) (by decide); have := N3.out.2; have := N4.out.2; simp [flatL]; omega)).mono ?_
          rintro e X7 ⟨v7, n7, rfl, hn7, hl7, ha, hg⟩
          have A7 := hid ha
          have G7 := hid hg
          clear ha hg
          have N7 := hid (And.intro hn7 hl7)
          clear hn7 hl7
          have cq8 := (G7.out.cell (p := ⟨q, m2.toNat, none⟩) ⟨heap_lt RBn.out, (show q ≠ d.B by have := HQ.out.1; omega), (show q ≠ d.G by have := HQ.out.2; omega)⟩).trans cq
          refine ⟨_, rfl, ⟨A7.out.1.c0, cq8⟩, ?_⟩
          refine pick_frame (by simp [go_sem]; exact rfl) ?_
          refine pick_op (i := 21) (v := v7) (by kernel_rfl) rfl (by kernel_rfl) (by kernel_rfl) rfl rfl (fun w' hw => by simp [go_sem]) ⟨A7.out.1.c0, cq8⟩ (by simp [go_sem]; exact rfl) ?_
          refine pick_end (by kernel_rfl) ?_
          go_wp2_with fail
          go_ret
          exact A7.out.done 1 N7.out.1 (by have := N7.out.2; have := N3.out.2; have := N4.out.2; simp [flatL] at *; omega) (by omega)

set_option maxHeartbeats 8000000 in
set_option maxRecDepth 100000 in
/-- A unit. -/
theorem own3 {d : Dr} {ve v vm : Value} {es : List Ef} {W : World} {s : Cn} {ks : List Kn} {ms : List Bool} {D : Nat} (ty : Int) (ht : ty = 3) (deep : Int) (hO : OfC d ve es D) (h1 : deep ≤ D) (h2 : -90 ≤ deep) (h3 : D ≤ 100) (h : Gen d ve W s) (hf : Fit s 100) (hE : Env d ve es W v ks vm ms (D + 1)) :
    Calls Tryd.prog 57 #[.pointer (some ⟨d.G, 0, none⟩), .int .i64 ty, v, vm, .int .i64 deep] W (NodesPost d ve W s 100) := by
  have HF := hid hf
  have HO := hid hO
  have A0 := hid (At.start h)
  have HE := hid hE
  have HD := hid (And.intro h1 (And.intro h2 h3))
  have hdu : deep ≤ 1000 := by omega
  obtain ⟨ad, cp, rfl⟩ := hE.know.is
  obtain ⟨adm, cpm, rfl⟩ := hE.may.is
  clear hO h1 h3 h hf hE
  subst ht
  go_enter Tryd.func57, Tryd.ntmps57
  go_wp2_with fail
  refine (A0.out.nodes (HO.out deep 1 _ _ _ _ _ _ (by have := HD.out; omega) (by have := HD.out; omega) (A0.out.fit HF.out 10 (by omega)) A0.out.1 HE.out.down)).mono ?_
  rintro e X1 ⟨v1, n1, s1, t1, rfl, hn1, hl1, ha, hg⟩
  have A1 := hid ha
  have G1 := hid hg
  clear ha hg
  have N1 := hid (And.intro hn1 hl1)
  obtain ⟨ad1, cp1, rfl⟩ := hn1.is
  clear hn1 hl1
  go_wp2_with fail
  refine (A1.out.put1 21 0 0 ByteArray.empty ByteArray.empty ByteArray.empty N1.out.1 ⟨brief_none, brief_none, brief_none⟩ (by have := A1.out.bound HF.out (by omega) (by decide); have := N1.out.2; omega)).mono ?_
  rintro e X2 ⟨v2, n2, rfl, hn2, hl2, ha, hg⟩
  have A2 := hid ha
  have G2 := hid hg
  clear ha hg
  have N2 := hid (And.intro hn2 hl2)
  obtain ⟨ad2, cp2, rfl⟩ := hn2.is
  clear hn2 hl2
  go_wp2_with fail
  go_ret
  exact A2.out.done 1 N2.out.1 (by have := N2.out.2; have := N1.out.2; omega) (by omega)

set_option maxHeartbeats 8000000 in
set_option maxRecDepth 100000 in
/-- A list. -/
theorem own4 {d : Dr} {ve v vm : Value} {es : List Ef} {W : World} {s : Cn} {ks : List Kn} {ms : List Bool} {D : Nat} (ty : Int) (ht : ty = 4) (deep : Int) (hO : OfC d ve es D) (h1 : deep ≤ D) (h2 : -90 ≤ deep) (h3 : D ≤ 100) (h : Gen d ve W s) (hf : Fit s 100) (hE : Env d ve es W v ks vm ms (D + 1)) :
    Calls Tryd.prog 57 #[.pointer (some ⟨d.G, 0, none⟩), .int .i64 ty, v, vm, .int .i64 deep] W (NodesPost d ve W s 100) := by
  have HF := hid hf
  have HO := hid hO
  have A0 := hid (At.start h)
  have HE := hid hE
  have HD := hid (And.intro h1 (And.intro h2 h3))
  have hdu : deep ≤ 1000 := by omega
  obtain ⟨ad, cp, rfl⟩ := hE.know.is
  obtain ⟨adm, cpm, rfl⟩ := hE.may.is
  clear hO h1 h3 h hf hE
  subst ht
  go_enter Tryd.func57, Tryd.ntmps57
  go_wp2_with fail
  refine (A0.out.nodes (HO.out deep 1 _ _ _ _ _ _ (by have := HD.out; omega) (by have := HD.out; omega) (A0.out.fit HF.out 10 (by omega)) A0.out.1 HE.out.down)).mono ?_
  rintro e X1 ⟨v1, n1, s1, t1, rfl, hn1, hl1, ha, hg⟩
  have A1 := hid ha
  have G1 := hid hg
  clear ha hg
  have N1 := hid (And.intro hn1 hl1)
  obtain ⟨ad1, cp1, rfl⟩ := hn1.is
  clear hn1 hl1
  go_wp2_with fail
  refine (A1.out.nodes (HO.out deep 4 _ _ _ _ _ _ (by have := HD.out; omega) (by have := HD.out; omega) (A1.out.fit HF.out 10 (by omega)) A1.out.1 (HE.out.grew G1.out).down)).mono ?_
  rintro e X2 ⟨v2, n2, s2, t2, rfl, hn2, hl2, ha, hg⟩
  have A2 := hid ha
  have G2 := hid hg
  clear ha hg
  have N2 := hid (And.intro hn2 hl2)
  obtain ⟨ad2, cp2, rfl⟩ := hn2.is
  clear hn2 hl2
  go_wp2_with fail
  refine (A2.out.put2 19 0 0 ByteArray.empty ByteArray.empty ByteArray.empty (N1.out.1.grew G2.out) N2.out.1 ⟨brief_none, brief_none, brief_none⟩ (by have := A2.out.bound HF.out (by omega) (by decide); have := N1.out.2; have := N2.out.2; omega)).mono ?_
  rintro e X3 ⟨v3, n3, rfl, hn3, hl3, ha, hg⟩
  have A3 := hid ha
  have G3 := hid hg
  clear ha hg
  have N3 := hid (And.intro hn3 hl3)
  obtain ⟨ad3, cp3, rfl⟩ := hn3.is
  clear hn3 hl3
  go_wp2_with fail
  go_ret
  exact A3.out.done 1 N3.out.1 (by have := N3.out.2; have := N1.out.2; have := N2.out.2; omega) (by omega)

set_option maxHeartbeats 8000000 in
set_option maxRecDepth 100000 in
/-- A function. -/
theorem own5 {d : Dr} {ve v vm : Value} {es : List Ef} {W : World} {s : Cn} {ks : List Kn} {ms : List Bool} {D : Nat} (ty : Int) (hn1 : ty ≠ 1) (hn2 : ty ≠ 2) (hn3 : ty ≠ 3) (hn4 : ty ≠ 4) (deep : Int) (hO : OfC d ve es D) (h1 : deep ≤ D) (h2 : -90 ≤ deep) (h3 : D ≤ 100) (h : Gen d ve W s) (hf : Fit s 100) (hE : Env d ve es W v ks vm ms (D + 1)) :
    Calls Tryd.prog 57 #[.pointer (some ⟨d.G, 0, none⟩), .int .i64 ty, v, vm, .int .i64 deep] W (NodesPost d ve W s 100) := by
  have HF := hid hf
  have HO := hid hO
  have A0 := hid (At.start h)
  have HE := hid hE
  have HD := hid (And.intro h1 (And.intro h2 h3))
  have hdu : deep ≤ 1000 := by omega
  obtain ⟨ad, cp, rfl⟩ := hE.know.is
  obtain ⟨adm, cpm, rfl⟩ := hE.may.is
  clear hO h1 h3 h hf hE
  have e1 : (ty == 1) = false := by simp [hn1]
  have e2 : (ty == 2) = false := by simp [hn2]
  have e3 : (ty == 3) = false := by simp [hn3]
  have e4 : (ty == 4) = false := by simp [hn4]
  clear hn1 hn2 hn3 hn4
  go_enter Tryd.func57, Tryd.ntmps57
  go_wp2_with fail
  refine (A0.out.name HF.out (by omega)).mono ?_
  rintro e X1 ⟨x1, s1, rfl, hb1, ha, hg⟩
  have A1 := hid ha
  have G1 := hid hg
  clear ha hg
  have B1 := hid hb1
  clear hb1
  go_wp2_with fail
  refine (A1.out.add x1 1 0 (HE.out.grew G1.out).know B1.out (by have := HE.out.room; omega)).mono ?_
  rintro e X2 ⟨u2, ks2, rfl, hk2, hkl2, ha, hg⟩
  have A2 := hid ha
  have G2 := hid hg
  clear ha hg
  have K2 := hid (And.intro hk2 hkl2)
  obtain ⟨ad2, cp2, rfl⟩ := hk2.is
  clear hk2 hkl2
  go_wp2_with fail
  refine (A2.out.nodes (HO.out deep 1 _ _ _ _ _ _ (by have := HD.out; omega) (by have := HD.out; omega) (A2.out.fit HF.out 10 (by omega)) A2.out.1 ((HE.out.grew (G1.out.trans G2.out)).with K2.out.1 (by have := K2.out.2; omega)))).mono ?_
  rintro e X3 ⟨v3, n3, s3, t3, rfl, hn3, hl3, ha, hg⟩
  have A3 := hid ha
  have G3 := hid hg
  clear ha hg
  have N3 := hid (And.intro hn3 hl3)
  obtain ⟨ad3, cp3, rfl⟩ := hn3.is
  clear hn3 hl3
  go_wp2_with fail
  refine (A3.out.put1 6 0 0 x1 ByteArray.empty ByteArray.empty N3.out.1 ⟨B1.out, brief_none, brief_none⟩ (by have := A3.out.bound HF.out (by omega) (by decide); have := N3.out.2; omega)).mono ?_
  rintro e X4 ⟨v4, n4, rfl, hn4, hl4, ha, hg⟩
  have A4 := hid ha
  have G4 := hid hg
  clear ha hg
  have N4 := hid (And.intro hn4 hl4)
  obtain ⟨ad4, cp4, rfl⟩ := hn4.is
  clear hn4 hl4
  go_wp2_with fail
  go_ret
  exact A4.out.done 1 N4.out.1 (by have := N4.out.2; have := N3.out.2; omega) (by omega)

set_option maxHeartbeats 8000000 in
set_option maxRecDepth 100000 in
/-- A number. -/
theorem own1 {d : Dr} {ve v vm : Value} {es : List Ef} {W : World} {s : Cn} {ks : List Kn} {ms : List Bool} {D : Nat} (ty : Int) (ht : ty = 1) (deep : Int) (hO : OfC d ve es D) (h1 : deep ≤ D) (h2 : -90 ≤ deep) (h3 : D ≤ 100) (h : Gen d ve W s) (hf : Fit s 100) (hE : Env d ve es W v ks vm ms (D + 1)) :
    Calls Tryd.prog 57 #[.pointer (some ⟨d.G, 0, none⟩), .int .i64 ty, v, vm, .int .i64 deep] W (NodesPost d ve W s 100) := by
  have HF := hid hf
  have HO := hid hO
  have A0 := hid (At.start h)
  have HE := hid hE
  have HD := hid (And.intro h1 (And.intro h2 h3))
  have hdu : deep ≤ 1000 := by omega
  obtain ⟨ad, cp, rfl⟩ := hE.know.is
  obtain ⟨adm, cpm, rfl⟩ := hE.may.is
  clear hO h1 h3 h hf hE
  subst ht
  go_enter Tryd.func57, Tryd.ntmps57
  have g0 := A0.out.1.c0
  go_wp2_with fail
  refine (A0.out.pick HF.out (by omega) 6 (by decide)).mono ?_
  rintro e X1 ⟨m1, s1, rfl, hm1, hM1, ha, hg⟩
  have A1 := hid ha
  have G1 := hid hg
  clear ha hg
  clear g0
  have hcs : m1 = 0 ∨ m1 = 1 ∨ m1 = 2 ∨ 3 ≤ m1 := by omega
  rcases hcs with rfl | rfl | rfl | h3
  · go_wp2_with fail
    refine (A1.out.nodes (HO.out deep 5 _ _ _ _ _ _ (by have := HD.out; omega) (by have := HD.out; omega) (A1.out.fit HF.out 10 (by omega)) A1.out.1 (HE.out.grew G1.out).down)).mono ?_
    rintro e X2 ⟨v2, n2, s2, t2, rfl, hn2, hl2, ha, hg⟩
    have A2 := hid ha
    have G2 := hid hg
    clear ha hg
    have N2 := hid (And.intro hn2 hl2)
    obtain ⟨ad2, cp2, rfl⟩ := hn2.is
    clear hn2 hl2
    go_wp2_with fail
    refine (A2.out.nodes (HO.out deep 1 _ _ _ _ _ _ (by have := HD.out; omega) (by have := HD.out; omega) (A2.out.fit HF.out 10 (by omega)) A2.out.1 (HE.out.grew (G1.out.trans G2.out)).down)).mono ?_
    rintro e X3 ⟨v3, n3, s3, t3, rfl, hn3, hl3, ha, hg⟩
    have A3 := hid ha
    have G3 := hid hg
    clear ha hg
    have N3 := hid (And.intro hn3 hl3)
    obtain ⟨ad3, cp3, rfl⟩ := hn3.is
    clear hn3 hl3
    go_wp2_with fail
    refine (A3.out.put2 7 0 0 ByteArray.empty ByteArray.empty ByteArray.empty (N2.out.1.grew G3.out) N3.out.1 ⟨brief_none, brief_none, brief_none⟩ (by have := A3.out.bound HF.out (by omega) (by decide); have := N2.out.2; have := N3.out.2; omega)).mono ?_
    rintro e X4 ⟨v4, n4, rfl, hn4, hl4, ha, hg⟩
    have A4 := hid ha
    have G4 := hid hg
    clear ha hg
    have N4 := hid (And.intro hn4 hl4)
    obtain ⟨ad4, cp4, rfl⟩ := hn4.is
    clear hn4 hl4
    go_wp2_with fail
    go_ret
    exact A4.out.done 1 N4.out.1 (by have := N4.out.2; have := N2.out.2; have := N3.out.2; omega) (by omega)
  · go_wp2_with fail
    refine (A1.out.nodes (loop_calls deep HO.out (by have := HD.out; omega) (by have := HD.out; omega) (by have := HD.out; omega) A1.out.1 (A1.out.fit HF.out 60 (by omega)) (HE.out.grew G1.out))).mono ?_
    rintro e X2 ⟨v2, n2, s2, t2, rfl, hn2, hl2, ha, hg⟩
    have A2 := hid ha
    have G2 := hid hg
    clear ha hg
    have N2 := hid (And.intro hn2 hl2)
    obtain ⟨ad2, cp2, rfl⟩ := hn2.is
    clear hn2 hl2
    go_wp2_with fail
    go_ret
    exact A2.out.done 0 N2.out.1 (by have := N2.out.2; omega) (by omega)
  · go_wp2_with fail
    refine (A1.out.nodes (HO.out deep 1 _ _ _ _ _ _ (by have := HD.out; omega) (by have := HD.out; omega) (A1.out.fit HF.out 10 (by omega)) A1.out.1 (HE.out.grew G1.out).down)).mono ?_
    rintro e X2 ⟨v2, n2, s2, t2, rfl, hn2, hl2, ha, hg⟩
    have A2 := hid ha
    have G2 := hid hg
    clear ha hg
    have N2 := hid (And.intro hn2 hl2)
    obtain ⟨ad2, cp2, rfl⟩ := hn2.is
    clear hn2 hl2
    go_wp2_with fail
    refine (A2.out.nodes (HO.out deep 1 _ _ _ _ _ _ (by have := HD.out; omega) (by have := HD.out; omega) (A2.out.fit HF.out 10 (by omega)) A2.out.1 (HE.out.grew (G1.out.trans G2.out)).down)).mono ?_
    rintro e X3 ⟨v3, n3, s3, t3, rfl, hn3, hl3, ha, hg⟩
    have A3 := hid ha
    have G3 := hid hg
    clear ha hg
    have N3 := hid (And.intro hn3 hl3)
    obtain ⟨ad3, cp3, rfl⟩ := hn3.is
    clear hn3 hl3
    go_wp2_with fail
    refine (A3.out.put2 13 0 0 ByteArray.empty ByteArray.empty ByteArray.empty (N2.out.1.grew G3.out) N3.out.1 ⟨brief_none, brief_none, brief_none⟩ (by have := A3.out.bound HF.out (by omega) (by decide); have := N2.out.2; have := N3.out.2; omega)).mono ?_
    rintro e X4 ⟨v4, n4, rfl, hn4, hl4, ha, hg⟩
    have A4 := hid ha
    have G4 := hid hg
    clear ha hg
    have N4 := hid (And.intro hn4 hl4)
    obtain ⟨ad4, cp4, rfl⟩ := hn4.is
    clear hn4 hl4
    go_wp2_with fail
    go_ret
    exact A4.out.done 1 N4.out.1 (by have := N4.out.2; have := N2.out.2; have := N3.out.2; omega) (by omega)
  · have z0 : (m1 == 0) = false := by simp; omega
    have z1 : (m1 == 1) = false := by simp; omega
    have z2 : (m1 == 2) = false := by simp; omega
    go_upto_region 10 with fail
    refine pick_begin (S := fun w' => w'.cell? ⟨d.G, 0, none⟩ = some (.pointer (some ⟨d.B, 0, none⟩))) (by kernel_rfl) rfl rfl ?_
    have A2 := hid A1.out.drew
    have G2 := hid (Grew.refl d X1).drew
    have hXD : X1.drew = X1.drew := rfl
    generalize X1.drew = X2 at *
    clear hXD
    refine pick_op (i := 1) (v := .pointer (some ⟨d.G, 0, none⟩)) (by kernel_rfl) rfl (by kernel_rfl) (by kernel_rfl) rfl rfl (fun w' hw => by simp [go_sem]) (A2.out.1.c0) (by simp [go_sem]; exact rfl) ?_
    refine pick_op (i := 2) (v := .pointer (some ⟨d.G, 0, none⟩)) (by kernel_rfl) rfl (by kernel_rfl) (by kernel_rfl) rfl rfl (fun w' hw => by simp [go_sem]) (A2.out.1.c0) (by simp [go_sem]; exact rfl) ?_
    refine pick_op (i := 3) (v := .pointer (some ⟨d.G, 0, none⟩)) (by kernel_rfl) rfl (by kernel_rfl) (by kernel_rfl) rfl rfl (fun w' hw => by simp [go_sem]) (A2.out.1.c0) (by simp [go_sem]; exact rfl) ?_
    refine pick_op (i := 4) (v := .pointer (some ⟨d.B, 0, none⟩)) (by kernel_rfl) rfl (by kernel_rfl) (by kernel_rfl) rfl rfl (fun w' hw => by simp [go_sem, hw]) (A2.out.1.c0) (by simp [go_sem]; exact rfl) ?_
    refine pick_op (i := 9) (v := .pointer (some ⟨d.G, 0, none⟩)) (by kernel_rfl) rfl (by kernel_rfl) (by kernel_rfl) rfl rfl (fun w' hw => by simp [go_sem]) (A2.out.1.c0) (by simp [go_sem]; exact rfl) ?_
    refine pick_op (i := 10) (v := .int .i64 1) (by kernel_rfl) rfl (by kernel_rfl) (by kernel_rfl) rfl rfl (fun w' hw => by simp [go_sem]) (A2.out.1.c0) (by simp [go_sem]; exact rfl) ?_
    refine pick_op (i := 11) (v := .slice ad ks.length cp) (by kernel_rfl) rfl (by kernel_rfl) (by kernel_rfl) rfl rfl (fun w' hw => by simp [go_sem]) (A2.out.1.c0) (by simp [go_sem]; exact rfl) ?_
    refine pick_op (i := 12) (v := .slice adm ms.length cpm) (by kernel_rfl) rfl (by kernel_rfl) (by kernel_rfl) rfl rfl (fun w' hw => by simp [go_sem]) (A2.out.1.c0) (by simp [go_sem]; exact rfl) ?_
    refine pick_op (i := 13) (v := .int .i64 deep) (by kernel_rfl) rfl (by kernel_rfl) (by kernel_rfl) rfl rfl (fun w' hw => by simp [go_sem]) (A2.out.1.c0) (by simp [go_sem]; exact rfl) ?_
    refine pick_op (i := 15) (v := .pointer (some ⟨d.G, 0, none⟩)) (by kernel_rfl) rfl (by kernel_rfl) (by kernel_rfl) rfl rfl (fun w' hw => by simp [go_sem]) (A2.out.1.c0) (by simp [go_sem]; exact rfl) ?_
    refine pick_op (i := 16) (v := .int .i64 1) (by kernel_rfl) rfl (by kernel_rfl) (by kernel_rfl) rfl rfl (fun w' hw => by simp [go_sem]) (A2.out.1.c0) (by simp [go_sem]; exact rfl) ?_
    refine pick_op (i := 17) (v := .slice ad ks.length cp) (by kernel_rfl) rfl (by kernel_rfl) (by kernel_rfl) rfl rfl (fun w' hw => by simp [go_sem]) (A2.out.1.c0) (by simp [go_sem]; exact rfl) ?_
    refine pick_op (i := 18) (v := .slice adm ms.length cpm) (by kernel_rfl) rfl (by kernel_rfl) (by kernel_rfl) rfl rfl (fun w' hw => by simp [go_sem]) (A2.out.1.c0) (by simp [go_sem]; exact rfl) ?_
    refine pick_op (i := 19) (v := .int .i64 deep) (by kernel_rfl) rfl (by kernel_rfl) (by kernel_rfl) rfl rfl (fun w' hw => by simp [go_sem]) (A2.out.1.c0) (by simp [go_sem]; exact rfl) ?_
    refine pick_either (i := 0) (j := 5) (by kernel_rfl) ?_ ?_
    · have RB := hid (MapKept.heap_alloc X2 (.cells #[.int .i64 11, .int .i64 12] 3)).1
      have HQ := hid (And.intro A2.out.1.ltB A2.out.1.ltG)
      have A3 := hid (A2.out.alloc (.cells #[.int .i64 11, .int .i64 12] 3))
      have G3 := hid ((Grew.refl d X2).alloc (.cells #[.int .i64 11, .int .i64 12] 3))
      refine ⟨_, .slice (some ⟨X2.heap.size, 0, none⟩) 2 2, X2.alloc (.cells #[.int .i64 11, .int .i64 12] 3), rfl, rfl, by simp [go_sem], A3.out.1.c0, ?_⟩
      refine pick_frame (by simp [go_sem]; exact rfl) ?_
      generalize X2.alloc (.cells #[.int .i64 11, .int .i64 12] 3) = X3 at *
      obtain ⟨q, hq⟩ : ∃ q, X2.heap.size = q := ⟨_, rfl⟩
      rw [hq] at RB HQ ⊢
      clear hq
      refine pick_enter (i := 5) (f := 22) (args := #[.pointer (some ⟨d.B, 0, none⟩), .int .i64 2]) rfl (by kernel_rfl) rfl rfl (by simp [go_sem]) ?_
      refine (A3.out.pick HF.out (by omega) 2 (by decide)).mono ?_
      rintro e X4 ⟨m4, s4, rfl, hm4, hM4, ha, hg⟩
      have A4 := hid ha
      have G4 := hid hg
      clear ha hg
      refine ⟨_, rfl, (A4.out.1.c0), ?_⟩
      refine pick_frame (by simp [go_sem]; exact rfl) ?_
      obtain ⟨kv, hkv⟩ := two_get 11 12 m4 hm4 hM4
      have cq := (cell_of_heap ((G4.out.block q ⟨heap_lt RB.out, (show q ≠ d.B by have := HQ.out.1; omega), (show q ≠ d.G by have := HQ.out.2; omega)⟩).trans RB.out) m4.toNat).trans hkv
      have RBn := hid ((G4.out.block q ⟨heap_lt RB.out, (show q ≠ d.B by have := HQ.out.1; omega), (show q ≠ d.G by have := HQ.out.2; omega)⟩).trans RB.out)
      clear hkv
      refine pick_op (i := 6) (v := .pointer (some ⟨q, m4.toNat, none⟩)) (by kernel_rfl) rfl (by kernel_rfl) (by kernel_rfl) rfl rfl (fun w' hw => by simp [go_sem, hm4, hM4]) (A4.out.1.c0) (by simp [go_sem]; exact rfl) ?_
      refine pick_more (fun w' => w'.cell? ⟨d.G, 0, none⟩ = some (.pointer (some ⟨d.B, 0, none⟩)) ∧ w'.cell? ⟨q, m4.toNat, none⟩ = some (.int .i64 kv)) (fun w h => h.1) ?_
      refine pick_op (i := 7) (v := .int .i64 kv) (by kernel_rfl) rfl (by kernel_rfl) (by kernel_rfl) rfl rfl (fun w' hw => by simp [go_sem, hw.2]) ⟨A4.out.1.c0, cq⟩ (by simp [go_sem]; exact rfl) ?_
      refine pick_op (i := 8) (v := .agg #[.int .i64 kv, .int .i64 0, .string ⟨#[]⟩, .string ⟨#[]⟩, .string ⟨#[]⟩, .int .i64 0]) (by kernel_rfl) rfl (by kernel_rfl) (by kernel_rfl) rfl rfl (fun w' hw => by simp [go_sem]) ⟨A4.out.1.c0, cq⟩ (by simp [go_sem]; exact rfl) ?_
      refine pick_enter (i := 14) (f := 34) (args := #[.pointer (some ⟨d.G, 0, none⟩), .int .i64 1, .slice ad ks.length cp, .slice adm ms.length cpm, .int .i64 deep]) rfl (by kernel_rfl) rfl rfl (by simp [go_sem]) ?_
      refine (A4.out.nodes (HO.out deep 1 _ _ _ _ _ _ (by have := HD.out; omega) (by have := HD.out; omega) (A4.out.fit HF.out 10 (by omega)) A4.out.1 (HE.out.grew (G1.out.trans (G2.out.trans (G3.out.trans G4.out)))).down)).mono ?_
      rintro e X5 ⟨v5, n5, s5, t5, rfl, hn5, hl5, ha, hg⟩
      have A5 := hid ha
      have G5 := hid hg
      clear ha hg
      have N5 := hid (And.intro hn5 hl5)
      obtain ⟨ad5, cp5, rfl⟩ := hn5.is
      clear hn5 hl5
      have cq6 := (G5.out.cell (p := ⟨q, m4.toNat, none⟩) ⟨heap_lt RBn.out, (show q ≠ d.B by have := HQ.out.1; omega), (show q ≠ d.G by have := HQ.out.2; omega)⟩).trans cq
      refine ⟨_, rfl, ⟨A5.out.1.c0, cq6⟩, ?_⟩
      refine pick_frame (by simp [go_sem]; exact rfl) ?_
      refine pick_enter (i := 20) (f := 34) (args := #[.pointer (some ⟨d.G, 0, none⟩), .int .i64 1, .slice ad ks.length cp, .slice adm ms.length cpm, .int .i64 deep]) rfl (by kernel_rfl) rfl rfl (by simp [go_sem]) ?_
      refine (A5.out.nodes (HO.out deep 1 _ _ _ _ _ _ (by have := HD.out; omega) (by have := HD.out; omega) (A5.out.fit HF.out 10 (by omega)) A5.out.1 (HE.out.grew (G1.out.trans (G2.out.trans (G3.out.trans (G4.out.trans G5.out))))).down)).mono ?_
      rintro e X7 ⟨v7, n7, s7, t7, rfl, hn7, hl7, ha, hg⟩
      have A7 := hid ha
      have G7 := hid hg
      clear ha hg
      have N7 := hid (And.intro hn7 hl7)
      obtain ⟨ad7, cp7, rfl⟩ := hn7.is
      clear hn7 hl7
      have cq8 := ((G5.out.trans G7.out).cell (p := ⟨q, m4.toNat, none⟩) ⟨heap_lt RBn.out, (show q ≠ d.B by have := HQ.out.1; omega), (show q ≠ d.G by have := HQ.out.2; omega)⟩).trans cq
      refine ⟨_, rfl, ⟨A7.out.1.c0, cq8⟩, ?_⟩
      refine pick_frame (by simp [go_sem]; exact rfl) ?_
      have KV : Hid (KidsV d (X7.alloc (.cells #[.slice ad5 n5.length cp5, .slice ad7 n7.length cp7] 55)) (.slice (some ⟨X7.heap.size, 0, none⟩) 2 2) [(.slice ad5 n5.length cp5, n5), (.slice ad7 n7.length cp7, n7)]) := (kids_lit [(.slice ad5 n5.length cp5, n5), (.slice ad7 n7.length cp7, n7)] _ rfl A7.out.1.ltB A7.out.1.ltG (fun x hx => by simp at hx; rcases hx with rfl | rfl; exact (N5.out.1.grew G7.out); exact N7.out.1))
      have A9 := hid (A7.out.alloc (.cells #[.slice ad5 n5.length cp5, .slice ad7 n7.length cp7] 55))
      have G9 := hid ((Grew.refl d X7).alloc (.cells #[.slice ad5 n5.length cp5, .slice ad7 n7.length cp7] 55))
      have cq10 := ((G5.out.trans (G7.out.trans G9.out)).cell (p := ⟨q, m4.toNat, none⟩) ⟨heap_lt RBn.out, (show q ≠ d.B by have := HQ.out.1; omega), (show q ≠ d.G by have := HQ.out.2; omega)⟩).trans cq
      refine pick_make (i := 21) (v := .slice (some ⟨X7.heap.size, 0, none⟩) 2 2) (w1 := X7.alloc (.cells #[.slice ad5 n5.length cp5, .slice ad7 n7.length cp7] 55)) rfl (by kernel_rfl) rfl rfl (by simp [go_sem]) ⟨A9.out.1.c0, cq10⟩ (by simp [go_sem]; exact rfl) ?_
      generalize X7.alloc (.cells #[.slice ad5 n5.length cp5, .slice ad7 n7.length cp7] 55) = X9 at *
      refine pick_enter (i := 22) (f := 51) (args := #[.agg #[.int .i64 kv, .int .i64 0, .string ⟨#[]⟩, .string ⟨#[]⟩, .string ⟨#[]⟩, .int .i64 0], .slice (some ⟨X7.heap.size, 0, none⟩) 2 2]) rfl (by kernel_rfl) rfl rfl (by simp [go_sem]) ?_
      refine (A9.out.put_kids kv 0 0 ⟨#[]⟩ ⟨#[]⟩ ⟨#[]⟩ KV.out ⟨brief_none, brief_none, brief_none⟩ (by simp) (by have := A9.out.bound HF.out (by omega) (by decide); have := N5.out.2; have := N7.out.2; simp [flatL]; omega)).mono ?_
      rintro e X11 ⟨v11, n11, rfl, hn11, hl11, ha, hg⟩
      have A11 := hid ha
      have G11 := hid hg
      clear ha hg
      have N11 := hid (And.intro hn11 hl11)
      clear hn11 hl11
      have cq12 := ((G5.out.trans (G7.out.trans (G9.out.trans G11.out))).cell (p := ⟨q, m4.toNat, none⟩) ⟨heap_lt RBn.out, (show q ≠ d.B by have := HQ.out.1; omega), (show q ≠ d.G by have := HQ.out.2; omega)⟩).trans cq
      refine ⟨_, rfl, ⟨A11.out.1.c0, cq12⟩, ?_⟩
      refine pick_frame (by simp [go_sem]; exact rfl) ?_
      refine pick_op (i := 23) (v := v11) (by kernel_rfl) rfl (by kernel_rfl) (by kernel_rfl) rfl rfl (fun w' hw => by simp [go_sem]) ⟨A11.out.1.c0, cq12⟩ (by simp [go_sem]; exact rfl) ?_
      refine pick_end (by kernel_rfl) ?_
      go_wp2_with fail
      go_ret
      exact A11.out.done 1 N11.out.1 (by have := N11.out.2; have := N5.out.2; have := N7.out.2; simp [flatL] at *; omega) (by omega)
    · refine ⟨_, 22, #[.pointer (some ⟨d.B, 0, none⟩), .int .i64 2], rfl, rfl, by simp [go_sem], ?_⟩
      refine (A2.out.pick HF.out (by omega) 2 (by decide)).mono ?_
      rintro e X3 ⟨m3, s3, rfl, hm3, hM3, ha, hg⟩
      have A3 := hid ha
      have G3 := hid hg
      clear ha hg
      refine ⟨_, rfl, (A3.out.1.c0), ?_⟩
      refine pick_frame (by simp [go_sem]; exact rfl) ?_
      refine pick_either (i := 0) (j := 14) (by kernel_rfl) ?_ ?_
      · have RB := hid (MapKept.heap_alloc X3 (.cells #[.int .i64 11, .int .i64 12] 3)).1
        have HQ := hid (And.intro A3.out.1.ltB A3.out.1.ltG)
        have A4 := hid (A3.out.alloc (.cells #[.int .i64 11, .int .i64 12] 3))
        have G4 := hid ((Grew.refl d X3).alloc (.cells #[.int .i64 11, .int .i64 12] 3))
        refine ⟨_, .slice (some ⟨X3.heap.size, 0, none⟩) 2 2, X3.alloc (.cells #[.int .i64 11, .int .i64 12] 3), rfl, rfl, by simp [go_sem], A4.out.1.c0, ?_⟩
        refine pick_frame (by simp [go_sem]; exact rfl) ?_
        generalize X3.alloc (.cells #[.int .i64 11, .int .i64 12] 3) = X4 at *
        obtain ⟨q, hq⟩ : ∃ q, X3.heap.size = q := ⟨_, rfl⟩
        rw [hq] at RB HQ ⊢
        clear hq
        obtain ⟨kv, hkv⟩ := two_get 11 12 m3 hm3 hM3
        have cq := (cell_of_heap RB.out m3.toNat).trans hkv
        have RBn := hid RB.out
        clear hkv
        refine pick_op (i := 6) (v := .pointer (some ⟨q, m3.toNat, none⟩)) (by kernel_rfl) rfl (by kernel_rfl) (by kernel_rfl) rfl rfl (fun w' hw => by simp [go_sem, hm3, hM3]) (A4.out.1.c0) (by simp [go_sem]; exact rfl) ?_
        refine pick_more (fun w' => w'.cell? ⟨d.G, 0, none⟩ = some (.pointer (some ⟨d.B, 0, none⟩)) ∧ w'.cell? ⟨q, m3.toNat, none⟩ = some (.int .i64 kv)) (fun w h => h.1) ?_
        refine pick_op (i := 7) (v := .int .i64 kv) (by kernel_rfl) rfl (by kernel_rfl) (by kernel_rfl) rfl rfl (fun w' hw => by simp [go_sem, hw.2]) ⟨A4.out.1.c0, cq⟩ (by simp [go_sem]; exact rfl) ?_
        refine pick_op (i := 8) (v := .agg #[.int .i64 kv, .int .i64 0, .string ⟨#[]⟩, .string ⟨#[]⟩, .string ⟨#[]⟩, .int .i64 0]) (by kernel_rfl) rfl (by kernel_rfl) (by kernel_rfl) rfl rfl (fun w' hw => by simp [go_sem]) ⟨A4.out.1.c0, cq⟩ (by simp [go_sem]; exact rfl) ?_
        refine pick_enter (i := 14) (f := 34) (args := #[.pointer (some ⟨d.G, 0, none⟩), .int .i64 1, .slice ad ks.length cp, .slice adm ms.length cpm, .int .i64 deep]) rfl (by kernel_rfl) rfl rfl (by simp [go_sem]) ?_
        refine (A4.out.nodes (HO.out deep 1 _ _ _ _ _ _ (by have := HD.out; omega) (by have := HD.out; omega) (A4.out.fit HF.out 10 (by omega)) A4.out.1 (HE.out.grew (G1.out.trans (G2.out.trans (G3.out.trans G4.out)))).down)).mono ?_
        rintro e X5 ⟨v5, n5, s5, t5, rfl, hn5, hl5, ha, hg⟩
        have A5 := hid ha
        have G5 := hid hg
        clear ha hg
        have N5 := hid (And.intro hn5 hl5)
        obtain ⟨ad5, cp5, rfl⟩ := hn5.is
        clear hn5 hl5
        have cq6 := (G5.out.cell (p := ⟨q, m3.toNat, none⟩) ⟨heap_lt RBn.out, (show q ≠ d.B by have := HQ.out.1; omega), (show q ≠ d.G by have := HQ.out.2; omega)⟩).trans cq
        refine ⟨_, rfl, ⟨A5.out.1.c0, cq6⟩, ?_⟩
        refine pick_frame (by simp [go_sem]; exact rfl) ?_
        refine pick_enter (i := 20) (f := 34) (args := #[.pointer (some ⟨d.G, 0, none⟩), .int .i64 1, .slice ad ks.length cp, .slice adm ms.length cpm, .int .i64 deep]) rfl (by kernel_rfl) rfl rfl (by simp [go_sem]) ?_
        refine (A5.out.nodes (HO.out deep 1 _ _ _ _ _ _ (by have := HD.out; omega) (by have := HD.out; omega) (A5.out.fit HF.out 10 (by omega)) A5.out.1 (HE.out.grew (G1.out.trans (G2.out.trans (G3.out.trans (G4.out.trans G5.out))))).down)).mono ?_
        rintro e X7 ⟨v7, n7, s7, t7, rfl, hn7, hl7, ha, hg⟩
        have A7 := hid ha
        have G7 := hid hg
        clear ha hg
        have N7 := hid (And.intro hn7 hl7)
        obtain ⟨ad7, cp7, rfl⟩ := hn7.is
        clear hn7 hl7
        have cq8 := ((G5.out.trans G7.out).cell (p := ⟨q, m3.toNat, none⟩) ⟨heap_lt RBn.out, (show q ≠ d.B by have := HQ.out.1; omega), (show q ≠ d.G by have := HQ.out.2; omega)⟩).trans cq
        refine ⟨_, rfl, ⟨A7.out.1.c0, cq8⟩, ?_⟩
        refine pick_frame (by simp [go_sem]; exact rfl) ?_
        have KV : Hid (KidsV d (X7.alloc (.cells #[.slice ad5 n5.length cp5, .slice ad7 n7.length cp7] 55)) (.slice (some ⟨X7.heap.size, 0, none⟩) 2 2) [(.slice ad5 n5.length cp5, n5), (.slice ad7 n7.length cp7, n7)]) := (kids_lit [(.slice ad5 n5.length cp5, n5), (.slice ad7 n7.length cp7, n7)] _ rfl A7.out.1.ltB A7.out.1.ltG (fun x hx => by simp at hx; rcases hx with rfl | rfl; exact (N5.out.1.grew G7.out); exact N7.out.1))
        have A9 := hid (A7.out.alloc (.cells #[.slice ad5 n5.length cp5, .slice ad7 n7.length cp7] 55))
        have G9 := hid ((Grew.refl d X7).alloc (.cells #[.slice ad5 n5.length cp5, .slice ad7 n7.length cp7] 55))
        have cq10 := ((G5.out.trans (G7.out.trans G9.out)).cell (p := ⟨q, m3.toNat, none⟩) ⟨heap_lt RBn.out, (show q ≠ d.B by have := HQ.out.1; omega), (show q ≠ d.G by have := HQ.out.2; omega)⟩).trans cq
        refine pick_make (i := 21) (v := .slice (some ⟨X7.heap.size, 0, none⟩) 2 2) (w1 := X7.alloc (.cells #[.slice ad5 n5.length cp5, .slice ad7 n7.length cp7] 55)) rfl (by kernel_rfl) rfl rfl (by simp [go_sem]) ⟨A9.out.1.c0, cq10⟩ (by simp [go_sem]; exact rfl) ?_
        generalize X7.alloc (.cells #[.slice ad5 n5.length cp5, .slice ad7 n7.length cp7] 55) = X9 at *
        refine pick_enter (i := 22) (f := 51) (args := #[.agg #[.int .i64 kv, .int .i64 0, .string ⟨#[]⟩, .string ⟨#[]⟩, .string ⟨#[]⟩, .int .i64 0], .slice (some ⟨X7.heap.size, 0, none⟩) 2 2]) rfl (by kernel_rfl) rfl rfl (by simp [go_sem]) ?_
        refine (A9.out.put_kids kv 0 0 ⟨#[]⟩ ⟨#[]⟩ ⟨#[]⟩ KV.out ⟨brief_none, brief_none, brief_none⟩ (by simp) (by have := A9.out.bound HF.out (by omega) (by decide); have := N5.out.2; have := N7.out.2; simp [flatL]; omega)).mono ?_
        rintro e X11 ⟨v11, n11, rfl, hn11, hl11, ha, hg⟩
        have A11 := hid ha
        have G11 := hid hg
        clear ha hg
        have N11 := hid (And.intro hn11 hl11)
        clear hn11 hl11
        have cq12 := ((G5.out.trans (G7.out.trans (G9.out.trans G11.out))).cell (p := ⟨q, m3.toNat, none⟩) ⟨heap_lt RBn.out, (show q ≠ d.B by have := HQ.out.1; omega), (show q ≠ d.G by have := HQ.out.2; omega)⟩).trans cq
        refine ⟨_, rfl, ⟨A11.out.1.c0, cq12⟩, ?_⟩
        refine pick_frame (by simp [go_sem]; exact rfl) ?_
        refine pick_op (i := 23) (v := v11) (by kernel_rfl) rfl (by kernel_rfl) (by kernel_rfl) rfl rfl (fun w' hw => by simp [go_sem]) ⟨A11.out.1.c0, cq12⟩ (by simp [go_sem]; exact rfl) ?_
        refine pick_end (by kernel_rfl) ?_
        go_wp2_with fail
        go_ret
        exact A11.out.done 1 N11.out.1 (by have := N11.out.2; have := N5.out.2; have := N7.out.2; simp [flatL] at *; omega) (by omega)
      · refine ⟨_, 34, #[.pointer (some ⟨d.G, 0, none⟩), .int .i64 1, .slice ad ks.length cp, .slice adm ms.length cpm, .int .i64 deep], rfl, rfl, by simp [go_sem], ?_⟩
        refine (A3.out.nodes (HO.out deep 1 _ _ _ _ _ _ (by have := HD.out; omega) (by have := HD.out; omega) (A3.out.fit HF.out 10 (by omega)) A3.out.1 (HE.out.grew (G1.out.trans (G2.out.trans G3.out))).down)).mono ?_
        rintro e X4 ⟨v4, n4, s4, t4, rfl, hn4, hl4, ha, hg⟩
        have A4 := hid ha
        have G4 := hid hg
        clear ha hg
        have N4 := hid (And.intro hn4 hl4)
        obtain ⟨ad4, cp4, rfl⟩ := hn4.is
        clear hn4 hl4
        refine ⟨_, rfl, (A4.out.1.c0), ?_⟩
        refine pick_frame (by simp [go_sem]; exact rfl) ?_
        refine pick_either (i := 0) (j := 20) (by kernel_rfl) ?_ ?_
        · have RB := hid (MapKept.heap_alloc X4 (.cells #[.int .i64 11, .int .i64 12] 3)).1
          have HQ := hid (And.intro A4.out.1.ltB A4.out.1.ltG)
          have A5 := hid (A4.out.alloc (.cells #[.int .i64 11, .int .i64 12] 3))
          have G5 := hid ((Grew.refl d X4).alloc (.cells #[.int .i64 11, .int .i64 12] 3))
          refine ⟨_, .slice (some ⟨X4.heap.size, 0, none⟩) 2 2, X4.alloc (.cells #[.int .i64 11, .int .i64 12] 3), rfl, rfl, by simp [go_sem], A5.out.1.c0, ?_⟩
          refine pick_frame (by simp [go_sem]; exact rfl) ?_
          generalize X4.alloc (.cells #[.int .i64 11, .int .i64 12] 3) = X5 at *
          obtain ⟨q, hq⟩ : ∃ q, X4.heap.size = q := ⟨_, rfl⟩
          rw [hq] at RB HQ ⊢
          clear hq
          obtain ⟨kv, hkv⟩ := two_get 11 12 m3 hm3 hM3
          have cq := (cell_of_heap RB.out m3.toNat).trans hkv
          have RBn := hid RB.out
          clear hkv
          refine pick_op (i := 6) (v := .pointer (some ⟨q, m3.toNat, none⟩)) (by kernel_rfl) rfl (by kernel_rfl) (by kernel_rfl) rfl rfl (fun w' hw => by simp [go_sem, hm3, hM3]) (A5.out.1.c0) (by simp [go_sem]; exact rfl) ?_
          refine pick_more (fun w' => w'.cell? ⟨d.G, 0, none⟩ = some (.pointer (some ⟨d.B, 0, none⟩)) ∧ w'.cell? ⟨q, m3.toNat, none⟩ = some (.int .i64 kv)) (fun w h => h.1) ?_
          refine pick_op (i := 7) (v := .int .i64 kv) (by kernel_rfl) rfl (by kernel_rfl) (by kernel_rfl) rfl rfl (fun w' hw => by simp [go_sem, hw.2]) ⟨A5.out.1.c0, cq⟩ (by simp [go_sem]; exact rfl) ?_
          refine pick_op (i := 8) (v := .agg #[.int .i64 kv, .int .i64 0, .string ⟨#[]⟩, .string ⟨#[]⟩, .string ⟨#[]⟩, .int .i64 0]) (by kernel_rfl) rfl (by kernel_rfl) (by kernel_rfl) rfl rfl (fun w' hw => by simp [go_sem]) ⟨A5.out.1.c0, cq⟩ (by simp [go_sem]; exact rfl) ?_
          refine pick_enter (i := 20) (f := 34) (args := #[.pointer (some ⟨d.G, 0, none⟩), .int .i64 1, .slice ad ks.length cp, .slice adm ms.length cpm, .int .i64 deep]) rfl (by kernel_rfl) rfl rfl (by simp [go_sem]) ?_
          refine (A5.out.nodes (HO.out deep 1 _ _ _ _ _ _ (by have := HD.out; omega) (by have := HD.out; omega) (A5.out.fit HF.out 10 (by omega)) A5.out.1 (HE.out.grew (G1.out.trans (G2.out.trans (G3.out.trans (G4.out.trans G5.out))))).down)).mono ?_
          rintro e X6 ⟨v6, n6, s6, t6, rfl, hn6, hl6, ha, hg⟩
          have A6 := hid ha
          have G6 := hid hg
          clear ha hg
          have N6 := hid (And.intro hn6 hl6)
          obtain ⟨ad6, cp6, rfl⟩ := hn6.is
          clear hn6 hl6
          have cq7 := (G6.out.cell (p := ⟨q, m3.toNat, none⟩) ⟨heap_lt RBn.out, (show q ≠ d.B by have := HQ.out.1; omega), (show q ≠ d.G by have := HQ.out.2; omega)⟩).trans cq
          refine ⟨_, rfl, ⟨A6.out.1.c0, cq7⟩, ?_⟩
          refine pick_frame (by simp [go_sem]; exact rfl) ?_
          have KV : Hid (KidsV d (X6.alloc (.cells #[.slice ad4 n4.length cp4, .slice ad6 n6.length cp6] 55)) (.slice (some ⟨X6.heap.size, 0, none⟩) 2 2) [(.slice ad4 n4.length cp4, n4), (.slice ad6 n6.length cp6, n6)]) := (kids_lit [(.slice ad4 n4.length cp4, n4), (.slice ad6 n6.length cp6, n6)] _ rfl A6.out.1.ltB A6.out.1.ltG (fun x hx => by simp at hx; rcases hx with rfl | rfl; exact (N4.out.1.grew (G5.out.trans G6.out)); exact N6.out.1))
          have A8 := hid (A6.out.alloc (.cells #[.slice ad4 n4.length cp4, .slice ad6 n6.length cp6] 55))
          have G8 := hid ((Grew.refl d X6).alloc (.cells #[.slice ad4 n4.length cp4, .slice ad6 n6.length cp6] 55))
          have cq9 := ((G6.out.trans G8.out).cell (p := ⟨q, m3.toNat, none⟩) ⟨heap_lt RBn.out, (show q ≠ d.B by have := HQ.out.1; omega), (show q ≠ d.G by have := HQ.out.2; omega)⟩).trans cq
          refine pick_make (i := 21) (v := .slice (some ⟨X6.heap.size, 0, none⟩) 2 2) (w1 := X6.alloc (.cells #[.slice ad4 n4.length cp4, .slice ad6 n6.length cp6] 55)) rfl (by kernel_rfl) rfl rfl (by simp [go_sem]) ⟨A8.out.1.c0, cq9⟩ (by simp [go_sem]; exact rfl) ?_
          generalize X6.alloc (.cells #[.slice ad4 n4.length cp4, .slice ad6 n6.length cp6] 55) = X8 at *
          refine pick_enter (i := 22) (f := 51) (args := #[.agg #[.int .i64 kv, .int .i64 0, .string ⟨#[]⟩, .string ⟨#[]⟩, .string ⟨#[]⟩, .int .i64 0], .slice (some ⟨X6.heap.size, 0, none⟩) 2 2]) rfl (by kernel_rfl) rfl rfl (by simp [go_sem]) ?_
          refine (A8.out.put_kids kv 0 0 ⟨#[]⟩ ⟨#[]⟩ ⟨#[]⟩ KV.out ⟨brief_none, brief_none, brief_none⟩ (by simp) (by have := A8.out.bound HF.out (by omega) (by decide); have := N4.out.2; have := N6.out.2; simp [flatL]; omega)).mono ?_
          rintro e X10 ⟨v10, n10, rfl, hn10, hl10, ha, hg⟩
          have A10 := hid ha
          have G10 := hid hg
          clear ha hg
          have N10 := hid (And.intro hn10 hl10)
          clear hn10 hl10
          have cq11 := ((G6.out.trans (G8.out.trans G10.out)).cell (p := ⟨q, m3.toNat, none⟩) ⟨heap_lt RBn.out, (show q ≠ d.B by have := HQ.out.1; omega), (show q ≠ d.G by have := HQ.out.2; omega)⟩).trans cq
          refine ⟨_, rfl, ⟨A10.out.1.c0, cq11⟩, ?_⟩
          refine pick_frame (by simp [go_sem]; exact rfl) ?_
          refine pick_op (i := 23) (v := v10) (by kernel_rfl) rfl (by kernel_rfl) (by kernel_rfl) rfl rfl (fun w' hw => by simp [go_sem]) ⟨A10.out.1.c0, cq11⟩ (by simp [go_sem]; exact rfl) ?_
          refine pick_end (by kernel_rfl) ?_
          go_wp2_with fail
          go_ret
          exact A10.out.done 1 N10.out.1 (by have := N10.out.2; have := N4.out.2; have := N6.out.2; simp [flatL] at *; omega) (by omega)
        · refine ⟨_, 34, #[.pointer (some ⟨d.G, 0, none⟩), .int .i64 1, .slice ad ks.length cp, .slice adm ms.length cpm, .int .i64 deep], rfl, rfl, by simp [go_sem], ?_⟩
          refine (A4.out.nodes (HO.out deep 1 _ _ _ _ _ _ (by have := HD.out; omega) (by have := HD.out; omega) (A4.out.fit HF.out 10 (by omega)) A4.out.1 (HE.out.grew (G1.out.trans (G2.out.trans (G3.out.trans G4.out)))).down)).mono ?_
          rintro e X5 ⟨v5, n5, s5, t5, rfl, hn5, hl5, ha, hg⟩
          have A5 := hid ha
          have G5 := hid hg
          clear ha hg
          have N5 := hid (And.intro hn5 hl5)
          obtain ⟨ad5, cp5, rfl⟩ := hn5.is
          clear hn5 hl5
          refine ⟨_, rfl, (A5.out.1.c0), ?_⟩
          refine pick_frame (by simp [go_sem]; exact rfl) ?_
          refine pick_fork (i := 0) (j := 21) (by kernel_rfl) ?_ ?_
          · have RB := hid (MapKept.heap_alloc X5 (.cells #[.int .i64 11, .int .i64 12] 3)).1
            have HQ := hid (And.intro A5.out.1.ltB A5.out.1.ltG)
            have A6 := hid (A5.out.alloc (.cells #[.int .i64 11, .int .i64 12] 3))
            have G6 := hid ((Grew.refl d X5).alloc (.cells #[.int .i64 11, .int .i64 12] 3))
            refine ⟨_, .slice (some ⟨X5.heap.size, 0, none⟩) 2 2, X5.alloc (.cells #[.int .i64 11, .int .i64 12] 3), rfl, rfl, by simp [go_sem], A6.out.1.c0, ?_⟩
            refine pick_frame (by simp [go_sem]; exact rfl) ?_
            generalize X5.alloc (.cells #[.int .i64 11, .int .i64 12] 3) = X6 at *
            obtain ⟨q, hq⟩ : ∃ q, X5.heap.size = q := ⟨_, rfl⟩
            rw [hq] at RB HQ ⊢
            clear hq
            obtain ⟨kv, hkv⟩ := two_get 11 12 m3 hm3 hM3
            have cq := (cell_of_heap RB.out m3.toNat).trans hkv
            have RBn := hid RB.out
            clear hkv
            refine pick_op (i := 6) (v := .pointer (some ⟨q, m3.toNat, none⟩)) (by kernel_rfl) rfl (by kernel_rfl) (by kernel_rfl) rfl rfl (fun w' hw => by simp [go_sem, hm3, hM3]) (A6.out.1.c0) (by simp [go_sem]; exact rfl) ?_
            refine pick_more (fun w' => w'.cell? ⟨d.G, 0, none⟩ = some (.pointer (some ⟨d.B, 0, none⟩)) ∧ w'.cell? ⟨q, m3.toNat, none⟩ = some (.int .i64 kv)) (fun w h => h.1) ?_
            refine pick_op (i := 7) (v := .int .i64 kv) (by kernel_rfl) rfl (by kernel_rfl) (by kernel_rfl) rfl rfl (fun w' hw => by simp [go_sem, hw.2]) ⟨A6.out.1.c0, cq⟩ (by simp [go_sem]; exact rfl) ?_
            refine pick_op (i := 8) (v := .agg #[.int .i64 kv, .int .i64 0, .string ⟨#[]⟩, .string ⟨#[]⟩, .string ⟨#[]⟩, .int .i64 0]) (by kernel_rfl) rfl (by kernel_rfl) (by kernel_rfl) rfl rfl (fun w' hw => by simp [go_sem]) ⟨A6.out.1.c0, cq⟩ (by simp [go_sem]; exact rfl) ?_
            have KV : Hid (KidsV d (X6.alloc (.cells #[.slice ad4 n4.length cp4, .slice ad5 n5.length cp5] 55)) (.slice (some ⟨X6.heap.size, 0, none⟩) 2 2) [(.slice ad4 n4.length cp4, n4), (.slice ad5 n5.length cp5, n5)]) := (kids_lit [(.slice ad4 n4.length cp4, n4), (.slice ad5 n5.length cp5, n5)] _ rfl A6.out.1.ltB A6.out.1.ltG (fun x hx => by simp at hx; rcases hx with rfl | rfl; exact (N4.out.1.grew (G5.out.trans G6.out)); exact (N5.out.1.grew G6.out)))
            have A7 := hid (A6.out.alloc (.cells #[.slice ad4 n4.length cp4, .slice ad5 n5.length cp5] 55))
            have G7 := hid ((Grew.refl d X6).alloc (.cells #[.slice ad4 n4.length cp4, .slice ad5 n5.length cp5] 55))
            have cq8 := (G7.out.cell (p := ⟨q, m3.toNat, none⟩) ⟨heap_lt RBn.out, (show q ≠ d.B by have := HQ.out.1; omega), (show q ≠ d.G by have := HQ.out.2; omega)⟩).trans cq
            refine pick_make (i := 21) (v := .slice (some ⟨X6.heap.size, 0, none⟩) 2 2) (w1 := X6.alloc (.cells #[.slice ad4 n4.length cp4, .slice ad5 n5.length cp5] 55)) rfl (by kernel_rfl) rfl rfl (by simp [go_sem]) ⟨A7.out.1.c0, cq8⟩ (by simp [go_sem]; exact rfl) ?_
            generalize X6.alloc (.cells #[.slice ad4 n4.length cp4, .slice ad5 n5.length cp5] 55) = X7 at *
            refine pick_enter (i := 22) (f := 51) (args := #[.agg #[.int .i64 kv, .int .i64 0, .string ⟨#[]⟩, .string ⟨#[]⟩, .string ⟨#[]⟩, .int .i64 0], .slice (some ⟨X6.heap.size, 0, none⟩) 2 2]) rfl (by kernel_rfl) rfl rfl (by simp [go_sem]) ?_
            refine (A7.out.put_kids kv 0 0 ⟨#[]⟩ ⟨#[]⟩ ⟨#[]⟩ KV.out ⟨brief_none, brief_none, brief_none⟩ (by simp) (by have := A7.out.bound HF.out (by omega) (by decide); have := N4.out.2; have := N5.out.2; simp [flatL]; omega)).mono ?_
            rintro e X9 ⟨v9, n9, rfl, hn9, hl9, ha, hg⟩
            have A9 := hid ha
            have G9 := hid hg
            clear ha hg
            have N9 := hid (And.intro hn9 hl9)
            clear hn9 hl9
            have cq10 := ((G7.out.trans G9.out).cell (p := ⟨q, m3.toNat, none⟩) ⟨heap_lt RBn.out, (show q ≠ d.B by have := HQ.out.1; omega), (show q ≠ d.G by have := HQ.out.2; omega)⟩).trans cq
            refine ⟨_, rfl, ⟨A9.out.1.c0, cq10⟩, ?_⟩
            refine pick_frame (by simp [go_sem]; exact rfl) ?_
            refine pick_op (i := 23) (v := v9) (by kernel_rfl) rfl (by kernel_rfl) (by kernel_rfl) rfl rfl (fun w' hw => by simp [go_sem]) ⟨A9.out.1.c0, cq10⟩ (by simp [go_sem]; exact rfl) ?_
            refine pick_end (by kernel_rfl) ?_
            go_wp2_with fail
            go_ret
            exact A9.out.done 1 N9.out.1 (by have := N9.out.2; have := N4.out.2; have := N5.out.2; simp [flatL] at *; omega) (by omega)
          · have KV : Hid (KidsV d (X5.alloc (.cells #[.slice ad4 n4.length cp4, .slice ad5 n5.length cp5] 55)) (.slice (some ⟨X5.heap.size, 0, none⟩) 2 2) [(.slice ad4 n4.length cp4, n4), (.slice ad5 n5.length cp5, n5)]) := (kids_lit [(.slice ad4 n4.length cp4, n4), (.slice ad5 n5.length cp5, n5)] _ rfl A5.out.1.ltB A5.out.1.ltG (fun x hx => by simp at hx; rcases hx with rfl | rfl; exact (N4.out.1.grew G5.out); exact N5.out.1))
            have A6 := hid (A5.out.alloc (.cells #[.slice ad4 n4.length cp4, .slice ad5 n5.length cp5] 55))
            have G6 := hid ((Grew.refl d X5).alloc (.cells #[.slice ad4 n4.length cp4, .slice ad5 n5.length cp5] 55))
            refine ⟨_, .slice (some ⟨X5.heap.size, 0, none⟩) 2 2, X5.alloc (.cells #[.slice ad4 n4.length cp4, .slice ad5 n5.length cp5] 55), rfl, rfl, by simp [go_sem], (A6.out.1.c0), ?_⟩
            refine pick_frame (by simp [go_sem]; exact rfl) ?_
            generalize X5.alloc (.cells #[.slice ad4 n4.length cp4, .slice ad5 n5.length cp5] 55) = X6 at *
            have RB := hid (MapKept.heap_alloc X6 (.cells #[.int .i64 11, .int .i64 12] 3)).1
            have HQ := hid (And.intro A6.out.1.ltB A6.out.1.ltG)
            have A7 := hid (A6.out.alloc (.cells #[.int .i64 11, .int .i64 12] 3))
            have G7 := hid ((Grew.refl d X6).alloc (.cells #[.int .i64 11, .int .i64 12] 3))
            refine pick_make (i := 0) (v := .slice (some ⟨X6.heap.size, 0, none⟩) 2 2) (w1 := X6.alloc (.cells #[.int .i64 11, .int .i64 12] 3)) rfl (by kernel_rfl) rfl rfl (by simp [go_sem]) A7.out.1.c0 (by simp [go_sem]; exact rfl) ?_
            generalize X6.alloc (.cells #[.int .i64 11, .int .i64 12] 3) = X7 at *
            obtain ⟨q, hq⟩ : ∃ q, X6.heap.size = q := ⟨_, rfl⟩
            rw [hq] at RB HQ ⊢
            clear hq
            obtain ⟨kv, hkv⟩ := two_get 11 12 m3 hm3 hM3
            have cq := (cell_of_heap RB.out m3.toNat).trans hkv
            have RBn := hid RB.out
            clear hkv
            refine pick_op (i := 6) (v := .pointer (some ⟨q, m3.toNat, none⟩)) (by kernel_rfl) rfl (by kernel_rfl) (by kernel_rfl) rfl rfl (fun w' hw => by simp [go_sem, hm3, hM3]) (A7.out.1.c0) (by simp [go_sem]; exact rfl) ?_
            refine pick_more (fun w' => w'.cell? ⟨d.G, 0, none⟩ = some (.pointer (some ⟨d.B, 0, none⟩)) ∧ w'.cell? ⟨q, m3.toNat, none⟩ = some (.int .i64 kv)) (fun w h => h.1) ?_
            refine pick_op (i := 7) (v := .int .i64 kv) (by kernel_rfl) rfl (by kernel_rfl) (by kernel_rfl) rfl rfl (fun w' hw => by simp [go_sem, hw.2]) ⟨A7.out.1.c0, cq⟩ (by simp [go_sem]; exact rfl) ?_
            refine pick_op (i := 8) (v := .agg #[.int .i64 kv, .int .i64 0, .string ⟨#[]⟩, .string ⟨#[]⟩, .string ⟨#[]⟩, .int .i64 0]) (by kernel_rfl) rfl (by kernel_rfl) (by kernel_rfl) rfl rfl (fun w' hw => by simp [go_sem]) ⟨A7.out.1.c0, cq⟩ (by simp [go_sem]; exact rfl) ?_
            refine pick_enter (i := 22) (f := 51) (args := #[.agg #[.int .i64 kv, .int .i64 0, .string ⟨#[]⟩, .string ⟨#[]⟩, .string ⟨#[]⟩, .int .i64 0], .slice (some ⟨X5.heap.size, 0, none⟩) 2 2]) rfl (by kernel_rfl) rfl rfl (by simp [go_sem]) ?_
            refine (A7.out.put_kids kv 0 0 ⟨#[]⟩ ⟨#[]⟩ ⟨#[]⟩ (KV.out.grew G7.out) ⟨brief_none, brief_none, brief_none⟩ (by simp) (by have := A7.out.bound HF.out (by omega) (by decide); have := N4.out.2; have := N5.out.2; simp [flatL]; omega)).mono ?_
            rintro e X8 ⟨v8, n8, rfl, hn8, hl8, ha, hg⟩
            have A8 := hid ha
            have G8 := hid hg
            clear ha hg
            have N8 := hid (And.intro hn8 hl8)
            clear hn8 hl8
            have cq9 := (G8.out.cell (p := ⟨q, m3.toNat, none⟩) ⟨heap_lt RBn.out, (show q ≠ d.B by have := HQ.out.1; omega), (show q ≠ d.G by have := HQ.out.2; omega)⟩).trans cq
            refine ⟨_, rfl, ⟨A8.out.1.c0, cq9⟩, ?_⟩
            refine pick_frame (by simp [go_sem]; exact rfl) ?_
            refine pick_op (i := 23) (v := v8) (by kernel_rfl) rfl (by kernel_rfl) (by kernel_rfl) rfl rfl (fun w' hw => by simp [go_sem]) ⟨A8.out.1.c0, cq9⟩ (by simp [go_sem]; exact rfl) ?_
            refine pick_end (by kernel_rfl) ?_
            go_wp2_with fail
            go_ret
            exact A8.out.done 1 N8.out.1 (by have := N8.out.2; have := N4.out.2; have := N5.out.2; simp [flatL] at *; omega) (by omega)

/-- What is drawn by its type. -/
theorem gown_calls {d : Dr} {ve v vm : Value} {es : List Ef} {W : World} {s : Cn} {ks : List Kn} {ms : List Bool} {D : Nat} (ty deep : Int) (hO : OfC d ve es D) (h1 : deep ≤ D) (h2 : -90 ≤ deep) (h3 : D ≤ 100) (h : Gen d ve W s) (hf : Fit s 100) (hE : Env d ve es W v ks vm ms (D + 1)) :
    Calls Tryd.prog 57 #[.pointer (some ⟨d.G, 0, none⟩), .int .i64 ty, v, vm, .int .i64 deep] W (NodesPost d ve W s 100) := by
  by_cases t1 : ty = 1
  · exact own1 ty t1 deep hO h1 h2 h3 h hf hE
  by_cases t2 : ty = 2
  · exact own2 ty t2 deep hO h1 h2 h3 h hf hE
  by_cases t3 : ty = 3
  · exact own3 ty t3 deep hO h1 h2 h3 h hf hE
  by_cases t4 : ty = 4
  · exact own4 ty t4 deep hO h1 h2 h3 h hf hE
  exact own5 ty t1 t2 t3 t4 deep hO h1 h2 h3 h hf hE
end Go.Proofs.YtegjdgiegnofhaaDoor
