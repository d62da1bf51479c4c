/- The specification's reader of words: whether an atom begins. -/
import Derived.Test.YtkdipppeljpgmaaGreatDoorPzName
import Derived.Test.YtkdipppeljpgmaaGreatDoorStagesG
import Derived.Deep.CutRange
import Derived.Deep.CutBlock
namespace Go.Proofs.YtkdipppeljpgmaaGreatDoor
open Go.RowKit Go.Deep
/-- Three cells are laid. -/
def lay3 (W : World) (g : Nat) (a b c : Value) : World := ((W.setCell ⟨g, 0, none⟩ a).setCell ⟨g, 1, none⟩ b).setCell ⟨g, 2, none⟩ c

theorem lay3_is {W : World} {g : Nat} {t : TypeId} {x y z : Value} (a b c : Value) (h : W.heap[g]? = some (.cells #[x, y, z] t)) : (lay3 W g a b c).heap[g]? = some (.cells #[a, b, c] t) ∧ ∀ n, n ≤ g → Below n W (lay3 W g a b c) := by
  refine ⟨set_block c (set_block b (set_block a h)), fun n hn => ?_⟩
  exact (((Below.refl n W).setCell (p := ⟨g, 0, none⟩) hn a).setCell (p := ⟨g, 1, none⟩) hn b).setCell (p := ⟨g, 2, none⟩) hn c

section
variable {d : Dr} {ws : List Wd} {ad : Option Addr} {cp : Nat}

set_option maxHeartbeats 4000000 in
set_option maxRecDepth 100000 in
theorem starts_calls (s : Ps) (W : World) (h : PsAt d ws ad cp s W) :
    Calls Tryz.prog 118 #[.pointer (some ⟨d.B, 0, none⟩)] W fun e W' => e = .returned (.bool (startsS ws s)) ∧ Below W.heap.size W W' := by
  have p0 := cell_of_heap h.blk 0
  have p1 := cell_of_heap h.blk 1
  have p2 := cell_of_heap h.blk 2
  simp at p0 p1 p2
  obtain ⟨L, hL⟩ : ∃ L, ws.length = L := ⟨_, rfl⟩
  have hle : s.at_ ≤ L := by rw [← hL]; exact h.lt
  have H := hid h
  have HL := hid hL
  rw [hL] at p0
  clear h hL
  obtain ⟨i, bad⟩ := s
  dsimp only at p1 p2 hle
  go_enter Tryz.func118, Tryz.ntmps118
  cases bad with
  | true =>
    have HN := hid (show startsS ws ⟨i, true⟩ = false from rfl)
    go_wp2_with fail
    go_quiet (fail)
    go_wp2_with fail
    go_ret
    rw [HN.out]
    exact ⟨rfl, below_drawn _ _ _⟩
  | false =>
    by_cases hi : L ≤ i
    · have HN := hid (show startsS ws ⟨i, false⟩ = false by unfold startsS; rw [decide_eq_false (by have := HL.out; dsimp only; omega)]; rfl)
      go_wp2_with fail
      go_quiet (fail)
      go_wp2_with fail
      go_ret
      rw [HN.out]
      exact ⟨rfl, below_drawn _ _ _⟩
    · have hlt : i < ws.length := by have := HL.out; omega
      obtain ⟨b, rfl, hw⟩ := H.out.lies (by omega)
      obtain ⟨w0, w1, w2⟩ := hw i hlt
      have hi0 : (0 : Int) ≤ (i : Int) := by omega
      have hd : decide (L ≤ i) = false := decide_eq_false hi
      have hi1 : i < L := by omega
      have HN := hid (show startsS ws ⟨i, false⟩ = begins (curW ws i) by unfold startsS; rw [decide_eq_true (show i < ws.length from hlt)]; rfl)
      generalize curW ws i = c at w0 w1 w2 HN
      obtain ⟨kd, tx, wa⟩ := c
      dsimp only at w0 w1 w2
      clear hw hlt
      go_wp2_with fail
      go_quiet (fail)
      go_upto_region 3 with fail
      generalize hY : W.drewN nq = Y
      have hB : Below W.heap.size W Y := by rw [← hY]; exact below_drawn _ _ _
      have HB := hid hB
      have hS : (fun w' : World => w'.cell? ⟨d.B, 0, none⟩ = some (.slice (some ⟨b, 0, none⟩) L cp) ∧ w'.cell? ⟨d.B, 1, none⟩ = some (.int .i64 (i : Int)) ∧ w'.cell? ⟨b, i * 3, none⟩ = some (.int .i64 kd) ∧ w'.cell? ⟨b, i * 3 + 1, none⟩ = some (.string tx) ∧ w'.cell? ⟨b, i * 3 + 2, none⟩ = some (.int .i64 wa)) Y.drew := by
        rw [← hY]
        exact ⟨p0, p1, w0, w1, w2⟩
      refine pick_begin (S := fun w' : World => w'.cell? ⟨d.B, 0, none⟩ = some (.slice (some ⟨b, 0, none⟩) L cp) ∧ w'.cell? ⟨d.B, 1, none⟩ = some (.int .i64 (i : Int)) ∧ w'.cell? ⟨b, i * 3, none⟩ = some (.int .i64 kd) ∧ w'.cell? ⟨b, i * 3 + 1, none⟩ = some (.string tx) ∧ w'.cell? ⟨b, i * 3 + 2, none⟩ = some (.int .i64 wa)) (by kernel_rfl) rfl rfl ?_
      generalize hZ : Y.drew = Z at hS ⊢
      have HZ := hid (show Below W.heap.size W Z by rw [← hZ]; exact HB.out.drew)
      have hsz : d.B < Z.heap.size ∧ b < Z.heap.size := ⟨block_lt_of_cell hS.1, block_lt_of_cell hS.2.2.1⟩
      clear hB hY hZ p0 p1 p2 w0 w1 w2
      refine pick_op (i := 0) (v := .pointer (some ⟨d.B, 0, none⟩)) (by kernel_rfl) rfl (by kernel_rfl) (by kernel_rfl) rfl rfl (fun w' _ => by simp [go_sem]) hS (by simp [go_sem]; exact rfl) ?_
      refine pick_op (i := 1) (v := .pointer (some ⟨d.B, 0, none⟩)) (by kernel_rfl) rfl (by kernel_rfl) (by kernel_rfl) rfl rfl (fun w' _ => by simp [go_sem]) hS (by simp [go_sem]; exact rfl) ?_
      refine pick_op (i := 2) (v := .pointer (some ⟨d.B, 0, none⟩)) (by kernel_rfl) rfl (by kernel_rfl) (by kernel_rfl) rfl rfl (fun w' _ => by simp [go_sem]) hS (by simp [go_sem]; exact rfl) ?_
      refine pick_op (i := 3) (v := .slice (some ⟨b, 0, none⟩) L cp) (by kernel_rfl) rfl (by kernel_rfl) (by kernel_rfl) rfl rfl (fun w' h => by simp [go_sem, h.1]) hS (by simp [go_sem]; exact rfl) ?_
      refine pick_op (i := 4) (v := .pointer (some ⟨d.B, 0, none⟩)) (by kernel_rfl) rfl (by kernel_rfl) (by kernel_rfl) rfl rfl (fun w' _ => by simp [go_sem]) hS (by simp [go_sem]; exact rfl) ?_
      refine pick_op (i := 5) (v := .pointer (some ⟨d.B, 0, none⟩)) (by kernel_rfl) rfl (by kernel_rfl) (by kernel_rfl) rfl rfl (fun w' _ => by simp [go_sem]) hS (by simp [go_sem]; exact rfl) ?_
      refine pick_op (i := 6) (v := .pointer (some ⟨d.B, 1, none⟩)) (by kernel_rfl) rfl (by kernel_rfl) (by kernel_rfl) rfl rfl (fun w' _ => by simp [go_sem]) hS (by simp [go_sem]; exact rfl) ?_
      refine pick_op (i := 7) (v := .int .i64 (i : Int)) (by kernel_rfl) rfl (by kernel_rfl) (by kernel_rfl) rfl rfl (fun w' h => by simp [go_sem, h.2.1]) hS (by simp [go_sem]; exact rfl) ?_
      refine pick_op (i := 8) (v := .pointer (some ⟨b, i * 3, none⟩)) (by kernel_rfl) rfl (by kernel_rfl) (by kernel_rfl) rfl rfl (fun w' _ => by simp [go_sem, hi1]) hS (by simp [go_sem]; exact rfl) ?_
      refine pick_op (i := 9) (v := .agg #[.int .i64 kd, .string tx, .int .i64 wa]) (by kernel_rfl) rfl (by kernel_rfl) (by kernel_rfl) rfl rfl (fun w' h => by simp [go_sem, h.2.2.1, h.2.2.2.1, h.2.2.2.2]) hS (by simp [go_sem]; exact rfl) ?_
      have hbA := (Below.refl Z.heap.size Z).alloc (Nat.le_refl _) (.cells #[.int .i64 0, .string ⟨#[]⟩, .int .i64 0] 43)
      have hSA : (fun w' : World => w'.cell? ⟨d.B, 0, none⟩ = some (.slice (some ⟨b, 0, none⟩) L cp) ∧ w'.cell? ⟨d.B, 1, none⟩ = some (.int .i64 (i : Int)) ∧ w'.cell? ⟨b, i * 3, none⟩ = some (.int .i64 kd) ∧ w'.cell? ⟨b, i * 3 + 1, none⟩ = some (.string tx) ∧ w'.cell? ⟨b, i * 3 + 2, none⟩ = some (.int .i64 wa)) (Z.alloc (.cells #[.int .i64 0, .string ⟨#[]⟩, .int .i64 0] 43)) :=
        ⟨(hbA.cell hsz.1).trans hS.1, (hbA.cell hsz.1).trans hS.2.1, (hbA.cell hsz.2).trans hS.2.2.1, (hbA.cell hsz.2).trans hS.2.2.2.1, (hbA.cell hsz.2).trans hS.2.2.2.2⟩
      refine pick_make (i := 10) (v := .pointer (some ⟨Z.heap.size, 0, none⟩)) (w1 := Z.alloc (.cells #[.int .i64 0, .string ⟨#[]⟩, .int .i64 0] 43)) rfl (by kernel_rfl) rfl rfl (by simp [go_sem]) hSA (by simp [go_sem]; exact rfl) ?_
      have hkA := (MapKept.heap_alloc Z (.cells #[.int .i64 0, .string ⟨#[]⟩, .int .i64 0] 43)).1
      obtain ⟨hl1, hl2⟩ := lay3_is (.int .i64 kd) (.string tx) (.int .i64 wa) hkA
      have hb3 : Below W.heap.size W (lay3 (Z.alloc (.cells #[.int .i64 0, .string ⟨#[]⟩, .int .i64 0] 43)) Z.heap.size (.int .i64 kd) (.string tx) (.int .i64 wa)) := HZ.out.trans ((hbA.trans (hl2 Z.heap.size (Nat.le_refl _))).mono HZ.out.size)
      have hS3 : (fun w' : World => w'.cell? ⟨d.B, 0, none⟩ = some (.slice (some ⟨b, 0, none⟩) L cp) ∧ w'.cell? ⟨d.B, 1, none⟩ = some (.int .i64 (i : Int)) ∧ w'.cell? ⟨b, i * 3, none⟩ = some (.int .i64 kd) ∧ w'.cell? ⟨b, i * 3 + 1, none⟩ = some (.string tx) ∧ w'.cell? ⟨b, i * 3 + 2, none⟩ = some (.int .i64 wa)) (lay3 (Z.alloc (.cells #[.int .i64 0, .string ⟨#[]⟩, .int .i64 0] 43)) Z.heap.size (.int .i64 kd) (.string tx) (.int .i64 wa)) := by
        have hb := hbA.trans (hl2 Z.heap.size (Nat.le_refl _))
        exact ⟨(hb.cell hsz.1).trans hS.1, (hb.cell hsz.1).trans hS.2.1, (hb.cell hsz.2).trans hS.2.2.1, (hb.cell hsz.2).trans hS.2.2.2.1, (hb.cell hsz.2).trans hS.2.2.2.2⟩
      refine pick_skip (i := 11) rfl (w1 := lay3 (Z.alloc (.cells #[.int .i64 0, .string ⟨#[]⟩, .int .i64 0] 43)) Z.heap.size (.int .i64 kd) (.string tx) (.int .i64 wa)) rfl (by kernel_rfl) rfl rfl (by simp [go_sem, lay3]) hS3 ?_
      refine pick_end (by kernel_rfl) ?_
      generalize lay3 (Z.alloc (.cells #[.int .i64 0, .string ⟨#[]⟩, .int .i64 0] 43)) Z.heap.size (.int .i64 kd) (.string tx) (.int .i64 wa) = X at hl1 hb3 ⊢
      generalize Z.heap.size = g at hl1 ⊢
      have HB3 := hid hb3
      have c0 := cell_of_heap hl1 0
      have c1 := cell_of_heap hl1 1
      simp at c0 c1
      clear hl1 hl2 hb3 hS3 hSA hS hsz hbA hkA
      by_cases k1 : kd = 1
      · have HT := hid (show begins ⟨kd, tx, wa⟩ = true by simp [begins, k1])
        subst k1
        go_wp2_with fail
        go_ret
        rw [HN.out, HT.out]
        exact ⟨rfl, HB3.out⟩
      by_cases k2 : kd = 2
      · have HT := hid (show begins ⟨kd, tx, wa⟩ = true by simp [begins, k2])
        subst k2
        go_wp2_with fail
        go_ret
        rw [HN.out, HT.out]
        exact ⟨rfl, HB3.out⟩
      have K1 := hid k1
      have K2 := hid k2
      have hd1 : (kd == 1) = false := by simpa using k1
      have hd2 : (kd == 2) = false := by simpa using k2
      by_cases g0 : (tx.toList == ([40] : List UInt8)) = true
      · have HT := hid (show begins ⟨kd, tx, wa⟩ = true by
          have : (tx.toList == gOpen) = true := g0
          simp [begins, this])
        clear k1 k2
        go_wp2_with fail
        go_ret
        rw [HN.out, HT.out]
        exact ⟨rfl, HB3.out⟩
      have e0 : (tx.toList == ([40] : List UInt8)) = false := by
        cases hx : (tx.toList == ([40] : List UInt8)) with
        | true => exact absurd hx g0
        | false => rfl
      clear g0
      by_cases g1 : (tx.toList == ([116, 114, 117, 101] : List UInt8)) = true
      · have HT := hid (show begins ⟨kd, tx, wa⟩ = true by
          have : (tx.toList == kTrue) = true := g1
          simp [begins, this])
        clear k1 k2
        go_wp2_with fail
        go_ret
        rw [HN.out, HT.out]
        exact ⟨rfl, HB3.out⟩
      have e1 : (tx.toList == ([116, 114, 117, 101] : List UInt8)) = false := by
        cases hx : (tx.toList == ([116, 114, 117, 101] : List UInt8)) with
        | true => exact absurd hx g1
        | false => rfl
      clear g1
      by_cases g2 : (tx.toList == ([102, 97, 108, 115, 101] : List UInt8)) = true
      · have HT := hid (show begins ⟨kd, tx, wa⟩ = true by
          have : (tx.toList == kFalse) = true := g2
          simp [begins, this])
        clear k1 k2
        go_wp2_with fail
        go_ret
        rw [HN.out, HT.out]
        exact ⟨rfl, HB3.out⟩
      have e2 : (tx.toList == ([102, 97, 108, 115, 101] : List UInt8)) = false := by
        cases hx : (tx.toList == ([102, 97, 108, 115, 101] : List UInt8)) with
        | true => exact absurd hx g2
        | false => rfl
      clear g2
      by_cases g3 : (tx.toList == ([110, 105, 108] : List UInt8)) = true
      · have HT := hid (show begins ⟨kd, tx, wa⟩ = true by
          have : (tx.toList == kNil) = true := g3
          simp [begins, this])
        clear k1 k2
        go_wp2_with fail
        go_ret
        rw [HN.out, HT.out]
        exact ⟨rfl, HB3.out⟩
      have e3 : (tx.toList == ([110, 105, 108] : List UInt8)) = false := by
        cases hx : (tx.toList == ([110, 105, 108] : List UInt8)) with
        | true => exact absurd hx g3
        | false => rfl
      clear g3
      by_cases g4 : (tx.toList == ([104, 97, 110, 100, 108, 101] : List UInt8)) = true
      · have HT := hid (show begins ⟨kd, tx, wa⟩ = true by
          have : (tx.toList == kHandle) = true := g4
          simp [begins, this])
        clear k1 k2
        go_wp2_with fail
        go_ret
        rw [HN.out, HT.out]
        exact ⟨rfl, HB3.out⟩
      have e4 : (tx.toList == ([104, 97, 110, 100, 108, 101] : List UInt8)) = false := by
        cases hx : (tx.toList == ([104, 97, 110, 100, 108, 101] : List UInt8)) with
        | true => exact absurd hx g4
        | false => rfl
      clear g4
      by_cases g5 : (tx.toList == ([115, 104, 97, 108, 108, 111, 119] : List UInt8)) = true
      · have HT := hid (show begins ⟨kd, tx, wa⟩ = true by
          have : (tx.toList == kShallow) = true := g5
          simp [begins, this])
        clear k1 k2
        go_wp2_with fail
        go_ret
        rw [HN.out, HT.out]
        exact ⟨rfl, HB3.out⟩
      have e5 : (tx.toList == ([115, 104, 97, 108, 108, 111, 119] : List UInt8)) = false := by
        cases hx : (tx.toList == ([115, 104, 97, 108, 108, 111, 119] : List UInt8)) with
        | true => exact absurd hx g5
        | false => rfl
      clear g5
      have HT := hid (show begins ⟨kd, tx, wa⟩ = false by
        have x0 : (tx.toList == gOpen) = false := e0
        have x1 : (tx.toList == kTrue) = false := e1
        have x2 : (tx.toList == kFalse) = false := e2
        have x3 : (tx.toList == kNil) = false := e3
        have x4 : (tx.toList == kHandle) = false := e4
        have x5 : (tx.toList == kShallow) = false := e5
        unfold begins
        rw [decide_eq_false K1.out, decide_eq_false K2.out, x0, x1, x2, x3, x4, x5]
        rfl)
      clear k1 k2
      go_wp2_with fail
      go_ret
      rw [HN.out, HT.out]
      exact ⟨rfl, HB3.out⟩
end
end Go.Proofs.YtkdipppeljpgmaaGreatDoor
