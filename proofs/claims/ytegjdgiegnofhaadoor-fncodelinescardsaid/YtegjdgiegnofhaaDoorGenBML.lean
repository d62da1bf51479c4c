/- A name is drawn; a name that is known is drawn; a name more is known. -/
import Derived.Test.YtegjdgiegnofhaaDoorGenA
import Derived.Test.YtegjdgiegnofhaaDoorStg
import Derived.BigQuiet
namespace Go.Proofs.YtegjdgiegnofhaaDoor
open Go.RowKit Go.Deep

theorem Gen.setNext {d : Dr} {ve : Value} {W : World} {s : Cn} (h : Gen d ve W s) (x : Nat) : Gen d ve (W.setCell ⟨d.G, 3, none⟩ (.int .i64 (x : Int))) { s with next := x } ∧ Grew d W (W.setCell ⟨d.G, 3, none⟩ (.int .i64 (x : Int))) := by
  have ho : ∀ q, q ≠ d.G → (W.setCell ⟨d.G, 3, none⟩ (.int .i64 (x : Int))).heap[q]? = W.heap[q]? := fun q hq => Below.heap_setCell W ⟨d.G, 3, none⟩ _ q hq
  have hg : Grew d W (W.setCell ⟨d.G, 3, none⟩ (.int .i64 (x : Int))) := ⟨rfl, rfl, rfl, by simp [World.setCell], fun q hq => ho q hq.2.2⟩
  exact ⟨⟨h.rd.same hg (ho _ h.ne), by simp [World.setCell, Array.getElem?_modify, h.blk], h.ne⟩, hg⟩

theorem Gen.setLeft {d : Dr} {ve : Value} {W : World} {s : Cn} (h : Gen d ve W s) (x : Int) : Gen d ve (W.setCell ⟨d.G, 2, none⟩ (.int .i64 x)) { s with left := x } ∧ Grew d W (W.setCell ⟨d.G, 2, none⟩ (.int .i64 x)) := by
  have ho : ∀ q, q ≠ d.G → (W.setCell ⟨d.G, 2, none⟩ (.int .i64 x)).heap[q]? = W.heap[q]? := fun q hq => Below.heap_setCell W ⟨d.G, 2, none⟩ _ q hq
  have hg : Grew d W (W.setCell ⟨d.G, 2, none⟩ (.int .i64 x)) := ⟨rfl, rfl, rfl, by simp [World.setCell], fun q hq => ho q hq.2.2⟩
  exact ⟨⟨h.rd.same hg (ho _ h.ne), by simp [World.setCell, Array.getElem?_modify, h.blk], h.ne⟩, hg⟩

theorem Gen.ltG {d : Dr} {ve : Value} {W : World} {s : Cn} (h : Gen d ve W s) : d.G < W.heap.size := heap_lt h.blk
theorem Gen.ltB {d : Dr} {ve : Value} {W : World} {s : Cn} (h : Gen d ve W s) : d.B < W.heap.size := heap_lt h.rd.blk
theorem Gen.c0 {d : Dr} {ve : Value} {W : World} {s : Cn} (h : Gen d ve W s) : W.cell? ⟨d.G, 0, none⟩ = some (.pointer (some ⟨d.B, 0, none⟩)) := by rw [cell_of_heap h.blk]; rfl
theorem Gen.c1 {d : Dr} {ve : Value} {W : World} {s : Cn} (h : Gen d ve W s) : W.cell? ⟨d.G, 1, none⟩ = some ve := by rw [cell_of_heap h.blk]; rfl
theorem Gen.c2 {d : Dr} {ve : Value} {W : World} {s : Cn} (h : Gen d ve W s) : W.cell? ⟨d.G, 2, none⟩ = some (.int .i64 s.left) := by rw [cell_of_heap h.blk]; rfl
theorem Gen.c3 {d : Dr} {ve : Value} {W : World} {s : Cn} (h : Gen d ve W s) : W.cell? ⟨d.G, 3, none⟩ = some (.int .i64 (s.next : Int)) := by rw [cell_of_heap h.blk]; rfl
theorem Gen.f2 {d : Dr} {ve : Value} {W : World} {s : Cn} (h : Gen d ve W s) : W.frozen? ⟨d.G, 2, none⟩ = false := frozen_of_heap h.blk 2
theorem Gen.f3 {d : Dr} {ve : Value} {W : World} {s : Cn} (h : Gen d ve W s) : W.frozen? ⟨d.G, 3, none⟩ = false := frozen_of_heap h.blk 3

/-- A number is drawn by the drawer. -/
theorem gen_pick {d : Dr} {ve : Value} {W : World} {s : Cn} (h : Gen d ve W s) (hp : s.p ≤ 1000000) (n : Int) (hn : 0 < n) :
    Calls Tryd.prog 22 #[.pointer (some ⟨d.B, 0, none⟩), .int .i64 n] W fun e W' => ∃ m : Int, e = .returned (.int .i64 m) ∧ 0 ≤ m ∧ m < n ∧ Gen d ve W' { s with p := s.p + 1 } ∧ Grew d W W' := by
  refine (rdr_pick h.rd hp n hn).mono ?_
  rintro e W' ⟨m, rfl, h0, h1, hr, hg, -, ho⟩
  exact ⟨m, rfl, h0, h1, ⟨hr, (ho _ (Ne.symm h.ne)).trans h.blk, h.ne⟩, hg⟩

theorem cell_old {W : World} {o : Obj} {p : Addr} {v : Value} (hp : p.block < W.heap.size) (h : W.cell? p = some v) : (W.alloc o).cell? p = some v :=
  (((Below.refl W.heap.size W).alloc (Nat.le_refl _) o).cell hp).trans h

theorem digit_run (m : Int) (h0 : 0 < m) (h1 : m < 7) : ∃ s : ByteArray, s.size = 1 ∧ ∀ W : World, (convert 22 9 (.slice (some ⟨W.heap.size, 0, none⟩) 1 1)).run Tryd.prog (W.alloc (.cells #[.int .u8 (48 + m)] 5)) = .ok (.string s) (W.alloc (.cells #[.int .u8 (48 + m)] 5)) := by
  refine ⟨⟨#[UInt8.ofNat (48 + m.toNat)]⟩, rfl, fun W => ?_⟩
  have h := run_convert_bytes_back (P := Tryd.prog) (W.alloc (.cells #[.int .u8 (48 + m)] 5)) 22 9 5 ⟨W.heap.size, 0, none⟩ 1 [UInt8.ofNat (48 + m.toNat)] Tryd.underlying22 Tryd.underlying5 Tryd.underlying9 (fun i hi => by
    have h0 : i = 0 := by simpa using hi
    subst h0
    simp [Addr.add]
    omega)
  exact h

set_option maxRecDepth 100000 in
theorem digit_zero (W : World) : Calls Tryd.prog 18 #[.int .i64 0] W fun e W' => e = .returned (.string ⟨#[48]⟩) ∧ W' = W := by
  go_enter Tryd.func18, Tryd.ntmps18
  go_wp2_with fail
  go_ret
  exact ⟨rfl, rfl⟩

set_option maxRecDepth 100000 in
/-- A digit as a text: nothing is made but a block of one byte. -/
theorem digit_calls (m : Int) (x : ByteArray) (hx : x.size = 1) (h2 : 0 < m) (h1 : m < 7) (hr : ∀ W : World, (convert 22 9 (.slice (some ⟨W.heap.size, 0, none⟩) 1 1)).run Tryd.prog (W.alloc (.cells #[.int .u8 (48 + m)] 5)) = .ok (.string x) (W.alloc (.cells #[.int .u8 (48 + m)] 5))) (W : World) : Calls Tryd.prog 18 #[.int .i64 m] W fun e W' => e = .returned (.string (x ++ ⟨#[]⟩)) ∧ W' = W.alloc (.cells #[.int .u8 (48 + m)] 5) := by
  have hrun := hr W
  have hm : ¬ m = 0 := by omega
  have e0 : (m == 0) = false := by simp [hm]
  have e1 : m % 10 = m := by omega
  have e2 : m / 10 = 0 := by omega
  clear hr
  go_enter Tryd.func18, Tryd.ntmps18
  go_wp2_with fail
  refine wp_loop_rounds 2 ?_
  rw [rounds_succ]
  go_wp2_with fail
  rw [e2, rounds_succ]
  go_wp2_with fail
  go_ret
  exact ⟨rfl, rfl⟩

/-- A digit as a text. -/
theorem digit_any (m : Int) (h0 : 0 ≤ m) (h1 : m < 7) : ∃ x : ByteArray, x.size ≤ 50 ∧ ∀ W, Calls Tryd.prog 18 #[.int .i64 m] W fun e W' => e = .returned (.string x) ∧ Below W.heap.size W W' := by
  by_cases hm : m = 0
  · subst hm
    refine ⟨⟨#[48]⟩, by decide, fun W => (digit_zero W).mono ?_⟩
    rintro e W' ⟨rfl, rfl⟩
    exact ⟨rfl, Below.refl _ _⟩
  · obtain ⟨x, hx, hr⟩ := digit_run m (by omega) h1
    refine ⟨x ++ ⟨#[]⟩, ?_, fun W => (digit_calls m x hx (by omega) h1 hr W).mono ?_⟩
    · rw [ByteArray.size_append, hx]
      decide
    · rintro e W' ⟨rfl, rfl⟩
      exact ⟨rfl, (Below.refl _ _).alloc (Nat.le_refl _) _⟩

def sixV : Array Value := #[.string ⟨#[120]⟩, .string ⟨#[121]⟩, .string ⟨#[122]⟩, .string ⟨#[110]⟩, .string ⟨#[109]⟩, .string ⟨#[113]⟩]

theorem six_get (r : Int) (h0 : 0 ≤ r) (h1 : r < 6) : ∃ y : ByteArray, y.size = 1 ∧ sixV[r.toNat]? = some (.string y) := by
  have h : r = 0 ∨ r = 1 ∨ r = 2 ∨ r = 3 ∨ r = 4 ∨ r = 5 := by omega
  rcases h with rfl | rfl | rfl | rfl | rfl | rfl <;> exact ⟨_, rfl, rfl⟩

theorem six_cell {X : World} (r : Int) (y : ByteArray) (h : sixV[r.toNat]? = some (.string y)) : (X.alloc (.cells sixV 9)).cell? ⟨X.heap.size, r.toNat, none⟩ = some (.string y) := by
  rw [cell_of_heap (MapKept.heap_alloc X _).1, h]

set_option maxHeartbeats 4000000 in
set_option maxRecDepth 100000 in
/-- A name is drawn. -/
theorem name_calls {d : Dr} {ve : Value} {W : World} {s : Cn} (h : Gen d ve W s) (hn : s.next ≤ 1000000) :
    Calls Tryd.prog 52 #[.pointer (some ⟨d.G, 0, none⟩)] W fun e W' => ∃ x, e = .returned (.string x) ∧ Brief x ∧ Gen d ve W' { s with next := s.next + 1 } ∧ Grew d W W' := by
  have HG := hid h
  have HN := hid (h.setNext (s.next + 1))
  obtain ⟨n, hn'⟩ : ∃ n : Nat, s.next = n := ⟨_, rfl⟩
  have c3 := h.c3
  have f3 := h.f3
  rw [hn'] at c3 hn HN ⊢
  obtain ⟨G, hGe⟩ : ∃ G, d.G = G := ⟨_, rfl⟩
  rw [hGe] at c3 f3 HN ⊢
  go_enter Tryd.func52, Tryd.ntmps52
  go_wp2_with fail
  have e1 : ((n : Int) + 1) = ((n + 1 : Nat) : Int) := by omega
  rw [e1]
  have cN := HN.out.1.c3
  have hGl := HN.out.1.ltG
  rw [hGe] at cN hGl
  clear c3 f3 HG h e1
  generalize W.setCell ⟨G, 3, none⟩ (.int .i64 ((n + 1 : Nat) : Int)) = W1 at *
  dsimp only at cN
  have hN0 : (0 : Int) ≤ ((n + 1 : Nat) : Int) := by omega
  generalize hNe : ((n + 1 : Nat) : Int) = N at *
  obtain ⟨m, hm⟩ : ∃ m, N % 7 = m := ⟨_, rfl⟩
  have hm0 : 0 ≤ m := by omega
  have hm1 : m < 7 := by omega
  obtain ⟨x, hx, hD⟩ := digit_any m hm0 hm1
  have HD := hid hD
  have HX := hid hx
  obtain ⟨r, hr⟩ : ∃ r, N % 6 = r := ⟨_, rfl⟩
  have hr0 : 0 ≤ r := by omega
  have hr1 : r < 6 := by omega
  have ht6 : N.tmod 6 = r := (Int.tmod_eq_emod_of_nonneg hN0).trans hr
  have ht7 : N.tmod 7 = m := (Int.tmod_eq_emod_of_nonneg hN0).trans hm
  obtain ⟨y, hy, hsix⟩ := six_get r hr0 hr1
  have HY := hid hy
  have HN1 : Hid (Gen d ve W1.drew { s with next := n + 1 } ∧ Grew d W W1.drew) := ⟨HN.out.1.drew, HN.out.2.drew⟩
  have cD : W1.drew.cell? ⟨G, 3, none⟩ = some (.int .i64 N) := cN
  have hGD : G < W1.drew.heap.size := hGl
  clear hNe hn hn' hGe hm hm0 hm1 hr cN hGl HN hD hx
  refine pick_begin (S := fun w' => w'.cell? ⟨G, 3, none⟩ = some (.int .i64 N)) (by kernel_rfl) rfl rfl ?_
  generalize W1.drew = D at *
  refine pick_op (i := 1) (v := .pointer (some ⟨G, 0, none⟩)) (by kernel_rfl) rfl (by kernel_rfl) (by kernel_rfl) rfl rfl (fun w' hw => by simp [go_sem]) cD (by simp [go_sem]; exact rfl) ?_
  refine pick_op (i := 2) (v := .pointer (some ⟨G, 0, none⟩)) (by kernel_rfl) rfl (by kernel_rfl) (by kernel_rfl) rfl rfl (fun w' hw => by simp [go_sem]) cD (by simp [go_sem]; exact rfl) ?_
  refine pick_op (i := 3) (v := .pointer (some ⟨G, 3, none⟩)) (by kernel_rfl) rfl (by kernel_rfl) (by kernel_rfl) rfl rfl (fun w' hw => by simp [go_sem]) cD (by simp [go_sem]; exact rfl) ?_
  refine pick_op (i := 4) (v := .int .i64 N) (by kernel_rfl) rfl (by kernel_rfl) (by kernel_rfl) rfl rfl (fun w' hw => by simp [go_sem, hw]) cD (by simp [go_sem]; exact rfl) ?_
  refine pick_op (i := 5) (v := .int .i64 r) (by kernel_rfl) rfl (by kernel_rfl) (by kernel_rfl) rfl rfl (fun w' hw => by simp [go_sem, ht6]) cD (by simp [go_sem]; exact rfl) ?_
  refine pick_op (i := 8) (v := .pointer (some ⟨G, 0, none⟩)) (by kernel_rfl) rfl (by kernel_rfl) (by kernel_rfl) rfl rfl (fun w' hw => by simp [go_sem]) cD (by simp [go_sem]; exact rfl) ?_
  refine pick_op (i := 9) (v := .pointer (some ⟨G, 0, none⟩)) (by kernel_rfl) rfl (by kernel_rfl) (by kernel_rfl) rfl rfl (fun w' hw => by simp [go_sem]) cD (by simp [go_sem]; exact rfl) ?_
  refine pick_op (i := 10) (v := .pointer (some ⟨G, 3, none⟩)) (by kernel_rfl) rfl (by kernel_rfl) (by kernel_rfl) rfl rfl (fun w' hw => by simp [go_sem]) cD (by simp [go_sem]; exact rfl) ?_
  refine pick_op (i := 11) (v := .int .i64 N) (by kernel_rfl) rfl (by kernel_rfl) (by kernel_rfl) rfl rfl (fun w' hw => by simp [go_sem, hw]) cD (by simp [go_sem]; exact rfl) ?_
  refine pick_op (i := 12) (v := .int .i64 m) (by kernel_rfl) rfl (by kernel_rfl) (by kernel_rfl) rfl rfl (fun w' hw => by simp [go_sem, ht7]) cD (by simp [go_sem]; exact rfl) ?_
  have hx := HX.out
  refine pick_either (i := 0) (j := 13) (by kernel_rfl) ?_ ?_
  · have cy := six_cell (X := D) r y hsix
    have c1 := cell_old (o := .cells sixV 9) hGD cD
    have HB1 : Hid (Below D.heap.size D (D.alloc (.cells sixV 9))) := (Below.refl _ _).alloc (Nat.le_refl _) _
    have hq : D.heap.size < (D.alloc (.cells sixV 9)).heap.size := by simp
    refine ⟨_, .slice (some ⟨D.heap.size, 0, none⟩) 6 6, D.alloc (.cells sixV 9), rfl, rfl, by simp [go_sem, sixV], c1, ?_⟩
    refine pick_frame (by simp [go_sem]; exact rfl) ?_
    generalize D.alloc (.cells sixV 9) = X1 at *
    refine pick_op (i := 6) (v := .pointer (some ⟨D.heap.size, r.toNat, none⟩)) (by kernel_rfl) rfl (by kernel_rfl) (by kernel_rfl) rfl rfl (fun w' hw => by simp [go_sem, hr0, hr1]) c1 (by simp [go_sem]; exact rfl) ?_
    refine pick_more (fun w' => w'.cell? ⟨G, 3, none⟩ = some (.int .i64 N) ∧ w'.cell? ⟨D.heap.size, r.toNat, none⟩ = some (.string y)) (fun w h => h.1) ?_
    refine pick_op (i := 7) (v := .string y) (by kernel_rfl) rfl (by kernel_rfl) (by kernel_rfl) rfl rfl (fun w' hw => by simp [go_sem, hw.2]) ⟨c1, cy⟩ (by simp [go_sem]; exact rfl) ?_
    refine pick_enter (i := 13) (f := 18) (args := #[.int .i64 m]) rfl (by kernel_rfl) rfl rfl (by simp [go_sem]) ?_
    refine (HD.out X1).mono ?_
    rintro e X2 ⟨rfl, hb⟩
    have HB2 := hid hb
    have c2 := (hb.cell (p := ⟨G, 3, none⟩) (block_lt_of_cell c1)).trans c1
    have cy2 := (hb.cell (p := ⟨D.heap.size, r.toNat, none⟩) hq).trans cy
    clear hb
    refine ⟨_, rfl, ⟨c2, cy2⟩, ?_⟩
    refine pick_frame (by simp [go_sem]; exact rfl) ?_
    refine pick_op (i := 14) (v := .string (y ++ x)) (by kernel_rfl) rfl (by kernel_rfl) (by kernel_rfl) rfl rfl (fun w' hw => by simp [go_sem, HY.out]; omega) ⟨c2, cy2⟩ (by simp [go_sem]; exact rfl) ?_
    refine pick_op (i := 15) (v := .string (y ++ x)) (by kernel_rfl) rfl (by kernel_rfl) (by kernel_rfl) rfl rfl (fun w' hw => by simp [go_sem]) ⟨c2, cy2⟩ (by simp [go_sem]; exact rfl) ?_
    refine pick_end (by kernel_rfl) ?_
    go_wp2_with fail
    go_ret
    exact ⟨_, rfl, by unfold Brief; rw [ByteArray.size_append, HY.out]; have := HX.out; omega, (HN1.out.1.below HB1.out).below HB2.out, HN1.out.2.trans ((Grew.of_below HB1.out).trans (Grew.of_below HB2.out))⟩
  · refine ⟨_, 18, #[.int .i64 m], rfl, rfl, by simp [go_sem], ?_⟩
    refine (HD.out D).mono ?_
    rintro e X1 ⟨rfl, hb⟩
    have HB1 := hid hb
    have c1 := (hb.cell (p := ⟨G, 3, none⟩) hGD).trans cD
    have hGX : G < X1.heap.size := block_lt_of_cell c1
    clear hb
    refine ⟨_, rfl, c1, ?_⟩
    refine pick_frame (by simp [go_sem]; exact rfl) ?_
    have cy := six_cell (X := X1) r y hsix
    have c2 := cell_old (o := .cells sixV 9) hGX c1
    have HB2 : Hid (Below X1.heap.size X1 (X1.alloc (.cells sixV 9))) := (Below.refl _ _).alloc (Nat.le_refl _) _
    refine pick_make (i := 0) (v := .slice (some ⟨X1.heap.size, 0, none⟩) 6 6) (w1 := X1.alloc (.cells sixV 9)) rfl (by kernel_rfl) rfl rfl (by simp [go_sem, sixV]) c2 (by simp [go_sem]; exact rfl) ?_
    generalize X1.alloc (.cells sixV 9) = X2 at *
    refine pick_op (i := 6) (v := .pointer (some ⟨X1.heap.size, r.toNat, none⟩)) (by kernel_rfl) rfl (by kernel_rfl) (by kernel_rfl) rfl rfl (fun w' hw => by simp [go_sem, hr0, hr1]) c2 (by simp [go_sem]; exact rfl) ?_
    refine pick_more (fun w' => w'.cell? ⟨G, 3, none⟩ = some (.int .i64 N) ∧ w'.cell? ⟨X1.heap.size, r.toNat, none⟩ = some (.string y)) (fun w h => h.1) ?_
    refine pick_op (i := 7) (v := .string y) (by kernel_rfl) rfl (by kernel_rfl) (by kernel_rfl) rfl rfl (fun w' hw => by simp [go_sem, hw.2]) ⟨c2, cy⟩ (by simp [go_sem]; exact rfl) ?_
    refine pick_op (i := 14) (v := .string (y ++ x)) (by kernel_rfl) rfl (by kernel_rfl) (by kernel_rfl) rfl rfl (fun w' hw => by simp [go_sem, HY.out]; omega) ⟨c2, cy⟩ (by simp [go_sem]; exact rfl) ?_
    refine pick_op (i := 15) (v := .string (y ++ x)) (by kernel_rfl) rfl (by kernel_rfl) (by kernel_rfl) rfl rfl (fun w' hw => by simp [go_sem]) ⟨c2, cy⟩ (by simp [go_sem]; exact rfl) ?_
    refine pick_end (by kernel_rfl) ?_
    go_wp2_with fail
    go_ret
    exact ⟨_, rfl, by unfold Brief; rw [ByteArray.size_append, HY.out]; have := HX.out; omega, (HN1.out.1.below HB1.out).below HB2.out, HN1.out.2.trans ((Grew.of_below HB1.out).trans (Grew.of_below HB2.out))⟩
end Go.Proofs.YtegjdgiegnofhaaDoor
