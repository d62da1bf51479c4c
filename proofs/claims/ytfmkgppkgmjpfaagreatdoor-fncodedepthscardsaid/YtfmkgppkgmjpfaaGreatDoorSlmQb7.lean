import Derived.Test.YtfmkgppkgmjpfaaGreatDoorSlmQb6
import Derived.Maps.AppendAt
import Derived.WalkKit
import Derived.LaidEql
import Derived.Stop.Asserts
import Derived.RowKitTokens
namespace Go.Proofs.YtfmkgppkgmjpfaaGreatDoor
section
open Go.RowKit Go.Conc
theorem fl_slice {W : World} {B : Nat} {e : TypeId} {sz : Nat} {v : Value} {n : Nat} {xs : List Value} (h : W.ownsRow B e sz v n xs) : ∃ ad c, v = .slice ad n c := by
 obtain ⟨-, ⟨rfl, rfl⟩ | ⟨g', cap, cur, rfl, -⟩⟩ := h
 · exact ⟨_, _, rfl⟩
 · exact ⟨_, _, rfl⟩
def exC (e : Int × Sq) : List Value := [.int .i64 e.1, .int .i64 e.2.n, .int .i64 e.2.v, .int .i64 e.2.p]
def rowE : List (Int × Sq) → List Value
 | [] => []
 | e :: r => exC e ++ rowE r
theorem rowE_app : ∀ (a b : List (Int × Sq)), rowE (a ++ b) = rowE a ++ rowE b
 | [], _ => rfl
 | e :: r, b => by simp [rowE, rowE_app r b]
theorem rowE_get : ∀ (es : List (Int × Sq)) (j : Nat), j < es.length → (rowE es)[j * 4]? = some (.int .i64 (es.getD j (0, ⟨0, 0, 0⟩)).1) ∧ (rowE es)[j * 4 + 1]? = some (.int .i64 (es.getD j (0, ⟨0, 0, 0⟩)).2.n) ∧ (rowE es)[j * 4 + 2]? = some (.int .i64 (es.getD j (0, ⟨0, 0, 0⟩)).2.v) ∧ (rowE es)[j * 4 + 3]? = some (.int .i64 (es.getD j (0, ⟨0, 0, 0⟩)).2.p)
 | [], j, h => absurd h (by simp)
 | e :: r, 0, _ => ⟨rfl, rfl, rfl, rfl⟩
 | e :: r, j + 1, h => by
   have ih := rowE_get r j (by simpa using h)
   have e0 : (j + 1) * 4 = j * 4 + 4 := by omega
   rw [e0]
   have sh : ∀ c, (rowE (e :: r))[j * 4 + 4 + c]? = (rowE r)[j * 4 + c]? := fun c => by
     show (exC e ++ rowE r)[j * 4 + 4 + c]? = _
     rw [List.getElem?_append_right (by simp [exC]; omega)]
     congr 1
     simp [exC]
     omega
   have s0 := sh 0
   simp only [Nat.add_zero] at s0
   rw [s0, sh 1, sh 2, sh 3]
   exact ih
theorem exits_owns {W X : World} {v : Value} {es : List (Int × Sq)} (hb : Below W.heap.size W X) (hr : X.ownsRow W.heap.size 67 4 v es.length (rowE es)) : ExitsP es W (.returned v) X := by
 refine ⟨hb, ?_⟩
 obtain ⟨h1, ⟨rfl, h0⟩ | ⟨g, cap, cur, rfl, -, hg, -, -, -, ht⟩⟩ := hr
 · exact ⟨none, 0, by rw [h0], Or.inl (List.eq_nil_of_length_eq_zero h0)⟩
 · refine ⟨_, cap, rfl, Or.inr ⟨g, rfl, cur, hg, fun j hj => ?_⟩⟩
   have hc : ∀ i, i < es.length * 4 → cur[i]? = (rowE es)[i]? := fun i hi => by
     rw [← ht, List.getElem?_take_of_lt hi, Array.getElem?_toList]
   rw [hc _ (by omega), hc _ (by omega), hc _ (by omega), hc _ (by omega)]
   exact rowE_get es j hj
theorem grown_cells {X5 X6 : World} {B n : Nat} {va : Value} {xs : List Value} (hr : X5.ownsRow B 67 4 va n xs) (hg : X5.grownBy X6 va.ownBlock) {q : Nat} {cs : Array Value} {t : TypeId} (hq : X5.heap[q]? = some (.cells cs t)) (ht : t ≠ 67) : X6.heap[q]? = some (.cells cs t) :=
 (hg.block q (z26 hq) (fun e => by
   obtain ⟨-, ⟨rfl, -⟩ | ⟨g, cap, cur, rfl, -, hc, -⟩⟩ := hr
   · cases e
   · cases e
     rw [hq] at hc
     cases hc
     exact ht rfl)).trans hq
theorem info_exit : (Tryz.prog.info? 67).map (fun i => (i.zero, i.size, i.bytes)) = some (some (.agg #[.int .i64 0, .int .i64 0, .int .i64 0, .int .i64 0]), 4, 32) := by kernel_rfl
theorem lit_cells (w : World) (l : List Value) (t : TypeId) : ∀ j u, l[j]? = some u → (w.alloc (.cells l.toArray t)).cell? ((⟨w.heap.size, 0, none⟩ : Addr).add j) = some u := fun j u hu => by
 have e : ((⟨w.heap.size, 0, none⟩ : Addr).add j) = ⟨w.heap.size, j, none⟩ := by
   unfold Addr.add
   split
   · rename_i h
     subst h
     rfl
   · simp
 rw [e, z11 (MapKept.heap_alloc w (.cells l.toArray t)).1 j]
 simpa using hu

structure Rw4 (W X : World) (b5 b6 : Nat) (op a b c n v p : Int) (es : List (Int × Sq)) (ve : Value) : Prop where
 bx : Boxed W X b5 b6 op a b c n v p
 row : X.ownsRow W.heap.size 67 4 ve es.length (rowE es)
theorem Rw4.below {W X X' : World} {b5 b6 : Nat} {op a b c n v p : Int} {es : List (Int × Sq)} {ve : Value} (h : Rw4 W X b5 b6 op a b c n v p es ve) (hb : Below X.heap.size X X') : Rw4 W X' b5 b6 op a b c n v p es ve :=
 ⟨⟨h.bx.bel.trans (hb.mono h.bx.bel.size), (hb.block _ (z26 h.bx.i)).trans h.bx.i, (hb.block _ (z26 h.bx.s)).trans h.bx.s⟩, z58 h.row hb⟩
theorem Rw4.more {W X X1 X2 : World} {b5 b6 : Nat} {op a b c n v p : Int} {es es' : List (Int × Sq)} {ve ve' : Value} (h : Rw4 W X b5 b6 op a b c n v p es ve) (hb : Below X.heap.size X X1) (ho : X2.ownsRow W.heap.size 67 4 ve' (es.length + es'.length) (rowE es ++ rowE es')) (hg : X1.grownBy X2 ve.ownBlock) : Rw4 W X2 b5 b6 op a b c n v p (es ++ es') ve' := by
 have h1 := h.below hb
 have ne : ∀ {q : Nat} {cs : Array Value} {t : TypeId}, X1.heap[q]? = some (.cells cs t) → t ≠ 67 → X2.heap[q]? = some (.cells cs t) := fun {q cs t} hq ht => (hg.block q (z26 hq) (fun e => by
   obtain ⟨-, ⟨rfl, -⟩ | ⟨g, cap, cur, rfl, -, hc, -⟩⟩ := h1.row
   · cases e
   · cases e
     rw [hq] at hc
     cases hc
     exact ht rfl)).trans hq
 have bl : Below W.heap.size W X2 := ⟨hg.os.trans h1.bx.bel.os, hg.tape.trans h1.bx.bel.tape, hg.output.trans h1.bx.bel.output, Nat.le_trans h1.bx.bel.size hg.size, fun q hq => (hg.block q (Nat.lt_of_lt_of_le hq h1.bx.bel.size) (fun e => by
   obtain ⟨-, ⟨rfl, -⟩ | ⟨g, cap, cur, rfl, hB, -⟩⟩ := h1.row
   · cases e
   · cases e
     have hq' : g < W.heap.size := hq
     omega)).trans (h1.bx.bel.block q hq)⟩
 refine ⟨⟨bl, ne h1.bx.i (by decide), ne h1.bx.s (by decide)⟩, ?_⟩
 rw [List.length_append, rowE_app]
 exact ho
set_option maxRecDepth 100000 in
set_option maxHeartbeats 16000000 in
theorem handleI_calls {W : World} {Fb bc oc cc gs N k : Nat} {is : List In} {a b c n v p : Int} (hk0 : (0 : Int) ≤ (k : Int)) (hk1 : (k : Int) < (N : Int)) (hkN : k ≤ 1500) (hn0 : 0 ≤ n) (hn1 : n ≤ 100) (hv0 : 0 ≤ v) (hv1 : v ≤ 100) (f0 : W.cell? ⟨Fb, 0, none⟩ = some (.slice (some ⟨bc, oc, none⟩) N cc)) (f1 : W.cell? ⟨Fb, 1, none⟩ = some (.slice (some ⟨gs, 0, none⟩) N N)) (f2 : W.cell? ⟨bc, oc + k * 4, none⟩ = some (.int .i64 21)) (f3 : W.cell? ⟨bc, oc + k * 4 + 1, none⟩ = some (.int .i64 a)) (f4 : W.cell? ⟨bc, oc + k * 4 + 2, none⟩ = some (.int .i64 b)) (f5 : W.cell? ⟨bc, oc + k * 4 + 3, none⟩ = some (.int .i64 c)) (f6 : W.cell? ⟨gs, k * 3, none⟩ = some (.int .i64 n)) (f7 : W.cell? ⟨gs, k * 3 + 1, none⟩ = some (.int .i64 v)) (f8 : W.cell? ⟨gs, k * 3 + 2, none⟩ = some (.int .i64 p)) (hNi : N = is.length) (hin : InsAt W bc oc is) (hcc : N ≤ cc) (hN15 : N ≤ 1500) (hall : ∀ i ∈ is, i.ok = true) (hT : tableZ is a = true) (ha : 0 ≤ a) :
   Calls Tryz.prog 68 #[.pointer (some ⟨Fb, 0, none⟩), .int .i64 (k : Int)] W (ExitsP (handleZ is k ⟨21, a, b, c⟩ ⟨n, v, p⟩) W) := by
 subst hNi
 obtain ⟨t1, t2, t3, t4, t5⟩ := table_parts hT
 obtain ⟨ka, hka⟩ : ∃ ka : Nat, a = (ka : Int) := ⟨a.toNat, by omega⟩
 have hkl : ka < is.length := by omega
 have hti := z41 hall hkl
 have hT1 := hin ka hkl 1 (by omega)
 have hT2 := hin ka hkl 2 (by omega)
 have e1 : is.getD a.toNat default = is.getD ka default := by rw [hka, Int.toNat_natCast]
 rw [e1] at t2 t3 t4
 obtain ⟨⟨top, ta, tb, tc⟩, hie⟩ : ∃ i, is.getD ka default = i := ⟨_, rfl⟩
 rw [hie] at hT1 hT2 hti t2 t3 t4
 simp only [In.cell] at hT1 hT2
 dsimp only at t2 t3 t4
 subst t2
 have hnum := ok_nums hti (by dsimp only; decide) (by dsimp only; decide) (by dsimp only; decide)
 dsimp only at hnum
 obtain ⟨B, hB⟩ : ∃ B : Nat, tb = (B : Int) := ⟨tb.toNat, by omega⟩
 subst hB
 have HBk : Hid (ka + B < is.length ∧ B ≤ 4 ∧ is.length ≤ cc ∧ is.length ≤ 1500 ∧ a = (ka : Int) ∧ is.getD ka default = ⟨24, ta, (B : Int), tc⟩ ∧ bc < W.heap.size ∧ InsAt W bc oc is) := ⟨by omega, by omega, hcc, hN15, hka, hie, z28 f2, hin⟩
 have HZ : Hid (handleZ is k ⟨21, a, b, c⟩ ⟨n, v, p⟩ = ((ta, (⟨n + 1, 0, 2⟩ : Sq)) :: (clausesZ is (ka : Int)).map (fun c => (c.b, (⟨n + 2, 0, 2⟩ : Sq)))) ++ [((k : Int) + 1, (⟨n, 0, 3⟩ : Sq)), (c, ⟨n + 0, v + 1, p⟩)]) := by
   show _ = _
   unfold handleZ
   dsimp only
   rw [e1, hie, hka]
   rfl
 have F0 := hid f0
 have FT := hid hT1
 have FT2 := hid hT2
 have ha0 : (0 : Int) ≤ a := ha
 have ha1 : a < (is.length : Int) := t1
 have hat : a.toNat = ka := by rw [hka, Int.toNat_natCast]
 obtain ⟨N, hNe⟩ : ∃ N, is.length = N := ⟨_, rfl⟩
 have HNe := hid hNe
 rw [hNe] at f0 f1 hk1 ha1 F0
 clear t1 t3 t4 t5 hkl hti hT1 hT2 e1 hie hnum hin hcc hN15 hall hT ha hka hNe
 have w1 : wrap64 ((k : Int) + 1) = (k : Int) + 1 := by rw [wrap64]; omega
 have w2 : wrap64 (n + 1) = n + 1 := by rw [wrap64]; omega
 have w3 : wrap64 (n + 2) = n + 2 := by rw [wrap64]; omega
 have HM : Hid (0 ≤ n ∧ n ≤ 100 ∧ 0 ≤ v ∧ v ≤ 100) := ⟨hn0, hn1, hv0, hv1⟩
 clear hn0 hn1 hv0 hv1 hkN
 go_enter Tryz.func68, Tryz.ntmps68
 go_wp2_with fail
 have hD : Below W.heap.size W W.drew := (Below.refl _ _).drew
 have HCl : Hid (∀ X, Below W.heap.size W X → (fun w' : World => w'.cell? ⟨Fb, 0, none⟩ = some (.slice (some ⟨bc, oc, none⟩) N cc) ∧ w'.cell? ⟨Fb, 1, none⟩ = some (.slice (some ⟨gs, 0, none⟩) N N) ∧ w'.cell? ⟨bc, oc + k * 4, none⟩ = some (.int .i64 21) ∧ w'.cell? ⟨bc, oc + k * 4 + 1, none⟩ = some (.int .i64 a) ∧ w'.cell? ⟨bc, oc + k * 4 + 2, none⟩ = some (.int .i64 b) ∧ w'.cell? ⟨bc, oc + k * 4 + 3, none⟩ = some (.int .i64 c) ∧ w'.cell? ⟨gs, k * 3, none⟩ = some (.int .i64 n) ∧ w'.cell? ⟨gs, k * 3 + 1, none⟩ = some (.int .i64 v) ∧ w'.cell? ⟨gs, k * 3 + 2, none⟩ = some (.int .i64 p)) X) := fun X hX => ⟨(hX.cell (z28 f0)).trans f0, (hX.cell (z28 f1)).trans f1, (hX.cell (z28 f2)).trans f2, (hX.cell (z28 f3)).trans f3, (hX.cell (z28 f4)).trans f4, (hX.cell (z28 f5)).trans f5, (hX.cell (z28 f6)).trans f6, (hX.cell (z28 f7)).trans f7, (hX.cell (z28 f8)).trans f8⟩
 have hS := HCl.out W.drew hD
 refine z33 (S := (fun w' : World => w'.cell? ⟨Fb, 0, none⟩ = some (.slice (some ⟨bc, oc, none⟩) N cc) ∧ w'.cell? ⟨Fb, 1, none⟩ = some (.slice (some ⟨gs, 0, none⟩) N N) ∧ w'.cell? ⟨bc, oc + k * 4, none⟩ = some (.int .i64 21) ∧ w'.cell? ⟨bc, oc + k * 4 + 1, none⟩ = some (.int .i64 a) ∧ w'.cell? ⟨bc, oc + k * 4 + 2, none⟩ = some (.int .i64 b) ∧ w'.cell? ⟨bc, oc + k * 4 + 3, none⟩ = some (.int .i64 c) ∧ w'.cell? ⟨gs, k * 3, none⟩ = some (.int .i64 n) ∧ w'.cell? ⟨gs, k * 3 + 1, none⟩ = some (.int .i64 v) ∧ w'.cell? ⟨gs, k * 3 + 2, none⟩ = some (.int .i64 p))) (by kernel_rfl) rfl rfl ?_
 refine pick_o 0 (.pointer (some ⟨Fb, 0, none⟩)) hS ?_
 refine pick_o 1 (.pointer (some ⟨Fb, 0, none⟩)) hS ?_
 refine pick_o 2 (.pointer (some ⟨Fb, 0, none⟩)) hS ?_
 refine pick_o (hy := fun w' h => by simp [go_sem, h.1]) 3 (.slice (some ⟨bc, oc, none⟩) N cc) hS ?_
 refine pick_o 4 (.int .i64 (k : Int)) hS ?_
 refine pick_o (hy := fun w' _ => by simp [go_sem, hk0, hk1]) 5 (.pointer (some ⟨bc, oc + k * 4, none⟩)) hS ?_
 refine pick_o (hy := fun w' h => by simp [go_sem, h.2.2.1, h.2.2.2.1, h.2.2.2.2.1, h.2.2.2.2.2.1]) 6 (.agg #[.int .i64 21, .int .i64 a, .int .i64 b, .int .i64 c]) hS ?_
 refine pick_o 7 (.pointer (some ⟨Fb, 0, none⟩)) hS ?_
 refine pick_o 8 (.pointer (some ⟨Fb, 0, none⟩)) hS ?_
 refine pick_o 9 (.pointer (some ⟨Fb, 1, none⟩)) hS ?_
 refine pick_o (hy := fun w' h => by simp [go_sem, h.2.1]) 10 (.slice (some ⟨gs, 0, none⟩) N N) hS ?_
 refine pick_o 11 (.int .i64 (k : Int)) hS ?_
 refine pick_o (hy := fun w' _ => by simp [go_sem, hk0, hk1]) 12 (.pointer (some ⟨gs, k * 3, none⟩)) hS ?_
 refine pick_o (hy := fun w' h => by simp [go_sem, h.2.2.2.2.2.2.1, h.2.2.2.2.2.2.2.1, h.2.2.2.2.2.2.2.2]) 13 (.agg #[.int .i64 n, .int .i64 v, .int .i64 p]) hS ?_
 refine pick_fork (i := 14) (j := 15) (by kernel_rfl) ?_ ?_
 · have hB1 : Below W.heap.size W (W.drew.alloc (.cells #[.int .i64 0, .int .i64 0, .int .i64 0, .int .i64 0] 31)) := hD.alloc hD.size _
   have hB2 : Below W.heap.size W ((W.drew.alloc (.cells #[.int .i64 0, .int .i64 0, .int .i64 0, .int .i64 0] 31)).alloc (.cells #[.int .i64 0, .int .i64 0, .int .i64 0] 43)) := hB1.alloc hB1.size _
   refine ⟨_, .pointer (some ⟨W.heap.size, 0, none⟩), (W.drew.alloc (.cells #[.int .i64 0, .int .i64 0, .int .i64 0, .int .i64 0] 31)), rfl, rfl, by simp [go_sem], HCl.out _ hB1, ?_⟩
   refine z15 (by simp [go_sem]; exact rfl) ?_
   refine z29 (i := 15) (v := .pointer (some ⟨W.heap.size + 1, 0, none⟩)) (w1 := ((W.drew.alloc (.cells #[.int .i64 0, .int .i64 0, .int .i64 0, .int .i64 0] 31)).alloc (.cells #[.int .i64 0, .int .i64 0, .int .i64 0] 43))) rfl (by kernel_rfl) rfl rfl (by simp [go_sem]) (HCl.out _ hB2) (by simp [go_sem]; exact rfl) ?_
   have g5 : ((W.drew.alloc (.cells #[.int .i64 0, .int .i64 0, .int .i64 0, .int .i64 0] 31)).alloc (.cells #[.int .i64 0, .int .i64 0, .int .i64 0] 43)).heap[W.heap.size]? = some (.cells #[.int .i64 0, .int .i64 0, .int .i64 0, .int .i64 0] 31) := (two_new W.drew _ _).1
   have g6 : ((W.drew.alloc (.cells #[.int .i64 0, .int .i64 0, .int .i64 0, .int .i64 0] 31)).alloc (.cells #[.int .i64 0, .int .i64 0, .int .i64 0] 43)).heap[W.heap.size + 1]? = some (.cells #[.int .i64 0, .int .i64 0, .int .i64 0] 43) := (two_new W.drew _ _).2
   have HBx := hid (boxed hB2 g5 g6 (by omega) (by omega) 21 a b c n v p)
   have HB4 : Hid (Below W.heap.size W (put4 ((W.drew.alloc (.cells #[.int .i64 0, .int .i64 0, .int .i64 0, .int .i64 0] 31)).alloc (.cells #[.int .i64 0, .int .i64 0, .int .i64 0] 43)) (W.heap.size) (.int .i64 21) (.int .i64 a) (.int .i64 b) (.int .i64 c))) := by
     obtain ⟨p1, p2, p3, p4, p5, p6⟩ := put4_is g5 (.int .i64 21) (.int .i64 a) (.int .i64 b) (.int .i64 c)
     exact ⟨p4.trans hB2.os, p5.trans hB2.tape, p6.trans hB2.output, by rw [p3]; exact hB2.size, fun q hq => (p2 q (by omega)).trans (hB2.block q hq)⟩
   refine z40 (i := 16) rfl (w1 := put4 ((W.drew.alloc (.cells #[.int .i64 0, .int .i64 0, .int .i64 0, .int .i64 0] 31)).alloc (.cells #[.int .i64 0, .int .i64 0, .int .i64 0] 43)) (W.heap.size) (.int .i64 21) (.int .i64 a) (.int .i64 b) (.int .i64 c)) rfl (by kernel_rfl) rfl rfl (by simp [go_sem, put4]) (HCl.out _ HB4.out) ?_
   refine z40 (i := 17) rfl (w1 := put3 (put4 ((W.drew.alloc (.cells #[.int .i64 0, .int .i64 0, .int .i64 0, .int .i64 0] 31)).alloc (.cells #[.int .i64 0, .int .i64 0, .int .i64 0] 43)) (W.heap.size) (.int .i64 21) (.int .i64 a) (.int .i64 b) (.int .i64 c)) (W.heap.size + 1) (.int .i64 n) (.int .i64 v) (.int .i64 p)) rfl (by kernel_rfl) rfl rfl (by simp [go_sem, put4, put3]) (HCl.out _ HBx.out.bel) ?_
   refine z32 (by kernel_rfl) ?_
   obtain ⟨X, hX⟩ : ∃ X, put3 (put4 ((W.drew.alloc (.cells #[.int .i64 0, .int .i64 0, .int .i64 0, .int .i64 0] 31)).alloc (.cells #[.int .i64 0, .int .i64 0, .int .i64 0] 43)) (W.heap.size) (.int .i64 21) (.int .i64 a) (.int .i64 b) (.int .i64 c)) (W.heap.size + 1) (.int .i64 n) (.int .i64 v) (.int .i64 p) = X := ⟨_, rfl⟩
   rw [hX] at HBx ⊢
   obtain ⟨b5, hb5⟩ : ∃ x, W.heap.size = x := ⟨_, rfl⟩
   obtain ⟨b6, hb6⟩ : ∃ x, W.heap.size + 1 = x := ⟨_, rfl⟩
   rw [hb6] at HBx ⊢
   rw [hb5] at HBx ⊢
   clear hX hb5 hb6 g5 g6 hB1 hB2 HB4 hS HCl hD
   clear f0 f1 f2 f3 f4 f5 f6 f7 f8
   have i1 := z11 HBx.out.i 1
   have s0 := z11 HBx.out.s 0
   simp at i1 s0
   have g0 := (HBx.out.bel.cell (z28 F0.out)).trans F0.out
   have gt := (HBx.out.bel.cell (z28 FT.out)).trans FT.out
   go_wp2_with fail
   have HCl : Hid (∀ Z, Below X.heap.size X Z → (fun w' : World => w'.cell? ⟨Fb, 0, none⟩ = some (.slice (some ⟨bc, oc, none⟩) N cc) ∧ w'.cell? ⟨b5, 1, none⟩ = some (.int .i64 a) ∧ w'.cell? ⟨b6, 0, none⟩ = some (.int .i64 n) ∧ w'.cell? ⟨bc, oc + ka * 4 + 1, none⟩ = some (.int .i64 ta)) Z) := fun Z hZ => ⟨(hZ.cell (z28 g0)).trans g0, (hZ.cell (z28 i1)).trans i1, (hZ.cell (z28 s0)).trans s0, (hZ.cell (z28 gt)).trans gt⟩
   have HD : Hid (Below X.heap.size X X.drew) := (Below.refl _ _).drew
   have hS := HCl.out _ HD.out
   clear i1 s0 g0 gt
   refine z33 (S := (fun w' : World => w'.cell? ⟨Fb, 0, none⟩ = some (.slice (some ⟨bc, oc, none⟩) N cc) ∧ w'.cell? ⟨b5, 1, none⟩ = some (.int .i64 a) ∧ w'.cell? ⟨b6, 0, none⟩ = some (.int .i64 n) ∧ w'.cell? ⟨bc, oc + ka * 4 + 1, none⟩ = some (.int .i64 ta))) (by kernel_rfl) rfl rfl ?_
   refine pick_o 0 (.pointer (some ⟨Fb, 0, none⟩)) hS ?_
   refine pick_o 1 (.pointer (some ⟨Fb, 0, none⟩)) hS ?_
   refine pick_o 2 (.pointer (some ⟨Fb, 0, none⟩)) hS ?_
   refine pick_o (hy := fun w' h => by simp [go_sem, h.1]) 3 (.slice (some ⟨bc, oc, none⟩) N cc) hS ?_
   refine pick_o 4 (.pointer (some ⟨b5, 1, none⟩)) hS ?_
   refine pick_o (hy := fun w' h => by simp [go_sem, h.2.1]) 5 (.int .i64 a) hS ?_
   refine pick_o (hy := fun w' _ => by simp [go_sem, ha0, ha1, hat]) 6 (.pointer (some ⟨bc, oc + ka * 4, none⟩)) hS ?_
   refine pick_o 7 (.pointer (some ⟨bc, oc + ka * 4 + 1, none⟩)) hS ?_
   refine pick_o (hy := fun w' h => by simp [go_sem, h.2.2.2]) 8 (.int .i64 ta) hS ?_
   refine pick_o 9 (.pointer (some ⟨b6, 0, none⟩)) hS ?_
   refine pick_o (hy := fun w' h => by simp [go_sem, h.2.2.1]) 10 (.int .i64 n) hS ?_
   refine z12 (i := 11) (v := .int .i64 (n + 1)) (by kernel_rfl) rfl (by kernel_rfl) (by kernel_rfl) rfl rfl (fun w' _ => by simp [go_sem]; exact (IntWalk.i64_left _).trans w2) hS (by simp [go_sem]; exact rfl) ?_
   refine z27 (i := 12) (f := 67) (args := #[.int .i64 (n + 1)]) rfl (by kernel_rfl) rfl rfl (by simp [go_sem]) ?_
   refine (z43 (n + 1) _).mono ?_
   rintro e X1 ⟨rfl, hbx⟩
   have HX1 := hid (HD.out.trans (hbx.mono HD.out.size))
   clear hbx hS
   have hS := HCl.out _ HX1.out
   refine ⟨_, rfl, hS, ?_⟩
   refine z15 (by simp [go_sem]; exact rfl) ?_
   refine pick_o 13 (.agg #[.int .i64 ta, .int .i64 (n + 1), .int .i64 0, .int .i64 2]) hS ?_
   have HA : Hid (Below X.heap.size X (X1.alloc (.cells #[.int .i64 ta, .int .i64 (n + 1), .int .i64 0, .int .i64 2] 67))) := HX1.out.alloc HX1.out.size _
   refine z29 (i := 14) (v := .slice (some ⟨X1.heap.size, 0, none⟩) 1 1) (w1 := X1.alloc (.cells #[.int .i64 ta, .int .i64 (n + 1), .int .i64 0, .int .i64 2] 67)) rfl (by kernel_rfl) rfl rfl (by simp [go_sem]) (HCl.out _ HA.out) (by simp [go_sem]; exact rfl) ?_
   refine z29 (i := 15) (v := .slice (some ⟨X1.heap.size, 0, none⟩) 1 1) (w1 := X1.alloc (.cells #[.int .i64 ta, .int .i64 (n + 1), .int .i64 0, .int .i64 2] 67)) rfl (by kernel_rfl) rfl rfl (by simp [go_sem]) (HCl.out _ HA.out) (by simp [go_sem]; exact rfl) ?_
   refine z32 (by kernel_rfl) ?_
   have HR0 : Hid (Rw4 W (X1.alloc (.cells #[.int .i64 ta, .int .i64 (n + 1), .int .i64 0, .int .i64 2] 67)) b5 b6 21 a b c n v p [(ta, ⟨n + 1, 0, 2⟩)] (.slice (some ⟨X1.heap.size, 0, none⟩) 1 1)) := ⟨⟨HBx.out.bel.trans (HA.out.mono HBx.out.bel.size), (HA.out.block _ (z26 HBx.out.i)).trans HBx.out.i, (HA.out.block _ (z26 HBx.out.s)).trans HBx.out.s⟩, World.ownsRow_lit X1 _ 1 (Nat.le_trans HBx.out.bel.size HX1.out.size) (by decide) rfl⟩
   generalize (.slice (some ⟨X1.heap.size, 0, none⟩) 1 1 : Value) = va at *
   obtain ⟨X2, hX2⟩ : ∃ X2, X1.alloc (.cells #[.int .i64 ta, .int .i64 (n + 1), .int .i64 0, .int .i64 2] 67) = X2 := ⟨_, rfl⟩
   rw [hX2] at HR0 ⊢
   clear hX2 hS HCl HA HD HX1 HBx
   have i1 := z11 HR0.out.bx.i 1
   simp at i1
   go_wp2_with fail
   clear i1
   have HC : Hid (Calls Tryz.prog 88 #[.pointer (some ⟨Fb, 0, none⟩), .int .i64 a] X2 (ClauseP bc oc ka B X2)) := by
     show Calls _ _ _ _ _
     have h1 := HBk.out
     rw [h1.2.2.2.2.1]
     exact tabClauses_calls ((HR0.out.bx.bel.cell (z28 F0.out)).trans F0.out) ((HR0.out.bx.bel.cell (z28 FT2.out)).trans FT2.out) (by have := HNe.out; omega) (by have := HNe.out; omega) (by have := HNe.out; omega)
   refine HC.out.mono ?_
   rintro e X3 ⟨ad, cp, rfl, had, hb3⟩
   have HAd := hid had
   have HR1 := hid (HR0.out.below hb3)
   clear had hb3 HC HR0
   have HL : Hid (∀ j, j < B → (clausesZ is (ka : Int)).take (j + 1) = (clausesZ is (ka : Int)).take j ++ [is.getD (ka + (j + 1)) default]) := fun j hj => linesI_next (by rw [HBk.out.2.2.2.2.2.1]) HBk.out.1 hj
   have HLl : Hid ((clausesZ is (ka : Int)).length = B) := linesI_len (by rw [HBk.out.2.2.2.2.2.1]) HBk.out.1
   go_wp2_with fail
   go_loopw [7, 44] (fun va i wr => ∃ j : Nat, i = .int .i64 (j : Int) ∧ j ≤ B ∧ Hid (Rw4 W wr b5 b6 21 a b c n v p ((ta, (⟨n + 1, 0, 2⟩ : Sq)) :: ((clausesZ is (ka : Int)).take j).map (fun c => (c.b, (⟨n + 2, 0, 2⟩ : Sq)))) va)) (fun _ i _ => B - (intOf i).toNat)
   case atStart => exact ⟨0, rfl, Nat.zero_le _, HR1⟩
   case round =>
     clear HR1
     obtain ⟨j, rfl, hj, HRr⟩ := hrel
     have HEl : Hid (((ta, (⟨n + 1, 0, 2⟩ : Sq)) :: ((clausesZ is (ka : Int)).take j).map (fun c => (c.b, (⟨n + 2, 0, 2⟩ : Sq)))).length ≤ 10) := by
       show _ ≤ _
       simp only [List.length_cons, List.length_map, List.length_take]
       have := HBk.out
       omega
     by_cases hlt : (j : Int) < (B : Int)
     · have hjB : j < B := by omega
       have hkj : ka + (j + 1) < is.length := by have := HBk.out; omega
       have hinW := HBk.out.2.2.2.2.2.2.2.below HRr.out.bx.bel HBk.out.2.2.2.2.2.2.1
       have f0 := hinW (ka + (j + 1)) hkj 0 (by omega)
       have f1 := hinW (ka + (j + 1)) hkj 1 (by omega)
       have f2 := hinW (ka + (j + 1)) hkj 2 (by omega)
       have f3 := hinW (ka + (j + 1)) hkj 3 (by omega)
       have hnx := HL.out j hjB
       obtain ⟨⟨fop, fa, fb, fc⟩, hf⟩ : ∃ i, is.getD (ka + (j + 1)) default = i := ⟨_, rfl⟩
       rw [hf] at f0 f1 f2 f3 hnx
       have eo : oc + (ka + (j + 1)) * 4 = oc + (ka + 1) * 4 + j * 4 := by omega
       rw [eo] at f0 f1 f2 f3
       simp only [In.cell, Nat.add_zero] at f0 f1 f2 f3
       have had := HAd.out (by omega)
       subst had
       have hj0 : (0 : Int) ≤ (j : Int) := by omega
       have hst : B - (intOf (.int .i64 ((j + 1 : Nat) : Int))).toNat < B - (intOf (.int .i64 (j : Int))).toNat := by simp only [intOf, Int.toNat_natCast]; omega
       have HNx := hid hnx
       have HSt := hid hst
       have HJB := hid hjB
       obtain ⟨off, hoff⟩ : ∃ off, oc + (ka + 1) * 4 = off := ⟨_, rfl⟩
       rw [hoff] at f0 f1 f2 f3 ⊢
       have hA5 := (MapKept.heap_alloc wr (.cells #[.int .i64 fop, .int .i64 fa, .int .i64 fb, .int .i64 fc] 31)).1
       have hB5 := (Below.refl wr.heap.size wr).alloc (Nat.le_refl _) (.cells #[.int .i64 fop, .int .i64 fa, .int .i64 fb, .int .i64 fc] 31)
       obtain ⟨V, hV⟩ : ∃ V, wr.alloc (.cells #[.int .i64 fop, .int .i64 fa, .int .i64 fb, .int .i64 fc] 31) = V := ⟨_, rfl⟩
       rw [hV] at hA5 hB5
       obtain ⟨Tb, hTb⟩ : ∃ Tb, wr.heap.size = Tb := ⟨_, rfl⟩
       have HRv := hid (HRr.out.below hB5)
       rw [hTb] at hA5
       have HV := hid hV
       have HTb := hid hA5
       clear hnx hf hinW hst eo hkj hjB hj hoff hB5 hV
       go_wp2_with fail
       rw [HV.out]
       have t2 := z11 hA5 2
       have s0 := z11 HRv.out.bx.s 0
       simp at t2 s0
       have HCl : Hid (∀ Z, Below V.heap.size V Z → (fun w' : World => w'.cell? ⟨Tb, 2, none⟩ = some (.int .i64 fb) ∧ w'.cell? ⟨b6, 0, none⟩ = some (.int .i64 n)) Z) := fun Z hZ => ⟨(hZ.cell (z28 t2)).trans t2, (hZ.cell (z28 s0)).trans s0⟩
       have HD : Hid (Below V.heap.size V V.drew) := (Below.refl _ _).drew
       have hS := HCl.out _ HD.out
       clear t2 s0 HV hTb f0 f1 f2 f3 hA5
       refine z33 (S := (fun w' : World => w'.cell? ⟨Tb, 2, none⟩ = some (.int .i64 fb) ∧ w'.cell? ⟨b6, 0, none⟩ = some (.int .i64 n))) (by kernel_rfl) rfl rfl ?_
       refine pick_o 0 u7 hS ?_
       refine pick_o 1 (.pointer (some ⟨Tb, 2, none⟩)) hS ?_
       refine pick_o (hy := fun w' h => by simp [go_sem, h.1]) 2 (.int .i64 fb) hS ?_
       refine pick_o 3 (.pointer (some ⟨b6, 0, none⟩)) hS ?_
       refine pick_o (hy := fun w' h => by simp [go_sem, h.2]) 4 (.int .i64 n) hS ?_
       refine z12 (i := 5) (v := .int .i64 (n + 2)) (by kernel_rfl) rfl (by kernel_rfl) (by kernel_rfl) rfl rfl (fun w' _ => by simp [go_sem]; exact (IntWalk.i64_left _).trans w3) hS (by simp [go_sem]; exact rfl) ?_
       refine z27 (i := 6) (f := 67) (args := #[.int .i64 (n + 2)]) rfl (by kernel_rfl) rfl rfl (by simp [go_sem]) ?_
       refine (z43 (n + 2) _).mono ?_
       rintro e X4 ⟨rfl, hbx⟩
       have HX4 := hid (HD.out.trans (hbx.mono HD.out.size))
       clear hbx hS
       have hS := HCl.out _ HX4.out
       refine ⟨_, rfl, hS, ?_⟩
       refine z15 (by simp [go_sem]; exact rfl) ?_
       refine pick_o 7 (.agg #[.int .i64 fb, .int .i64 (n + 2), .int .i64 0, .int .i64 2]) hS ?_
       have hAX5 := (MapKept.heap_alloc X4 (.cells #[.int .i64 fb, .int .i64 (n + 2), .int .i64 0, .int .i64 2] 67)).1
       have HBX5 : Hid (Below V.heap.size V (X4.alloc (.cells #[.int .i64 fb, .int .i64 (n + 2), .int .i64 0, .int .i64 2] 67))) := HX4.out.alloc HX4.out.size _
       refine z29 (i := 8) (v := .slice (some ⟨X4.heap.size, 0, none⟩) 1 1) (w1 := X4.alloc (.cells #[.int .i64 fb, .int .i64 (n + 2), .int .i64 0, .int .i64 2] 67)) rfl (by kernel_rfl) rfl rfl (by simp [go_sem]) (HCl.out _ HBX5.out) (by simp [go_sem]; exact rfl) ?_
       have HLc := hid (lit_cells X4 [.int .i64 fb, .int .i64 (n + 2), .int .i64 0, .int .i64 2] 67)
       have HRb := hid (HRv.out.below HBX5.out)
       obtain ⟨X5, hX5⟩ : ∃ X, X4.alloc (.cells #[.int .i64 fb, .int .i64 (n + 2), .int .i64 0, .int .i64 2] 67) = X := ⟨_, rfl⟩
       have HLc2 : Hid (∀ j u, [.int .i64 fb, .int .i64 (n + 2), .int .i64 0, .int .i64 2][j]? = some u → X5.cell? ((⟨X4.heap.size, 0, none⟩ : Addr).add j) = some u) := by
         rw [← hX5]
         exact HLc.out
       rw [hX5] at HRb HBX5 ⊢
       clear hX5 hAX5 HLc
       obtain ⟨i0, hi, hz0, hz1, hz2⟩ := info_parts info_exit
       obtain ⟨va2, X6, hrun, hown, hgrow, -, hat2⟩ := run_append_own_at (P := Tryz.prog) X5 W.heap.size 95 95 67 i0 _ 4 32 Tryz.underlying95 hi hz0 hz1 hz2 rfl (by decide) u7 (((ta, (⟨n + 1, 0, 2⟩ : Sq)) :: ((clausesZ is (ka : Int)).take j).map (fun c => (c.b, (⟨n + 2, 0, 2⟩ : Sq)))).length) (rowE ((ta, (⟨n + 1, 0, 2⟩ : Sq)) :: ((clausesZ is (ka : Int)).take j).map (fun c => (c.b, (⟨n + 2, 0, 2⟩ : Sq))))) HRb.out.row ⟨X4.heap.size, 0, none⟩ 1 1 [.int .i64 fb, .int .i64 (n + 2), .int .i64 0, .int .i64 2] rfl HLc2.out (fun u hu => by
         simp only [List.mem_cons, List.not_mem_nil, or_false] at hu
         rcases hu with rfl | rfl | rfl | rfl <;> rfl) (by unfold maxLen; have := HEl.out; omega) (by have := HEl.out; omega) HRb.out.bx.bel.size
       have HR6 := hid (HRb.out.more (es' := [(fb, ⟨n + 2, 0, 2⟩)]) (Below.refl _ _) hown hgrow)
       obtain ⟨av, ln, cv, hva⟩ : ∃ av ln cv, va2 = .slice av ln cv := by
         obtain ⟨a', c', h'⟩ := fl_slice HR6.out.row
         exact ⟨a', _, c', h'⟩
       subst hva
       have hT6 := grown_cells HRb.out.row hgrow ((HBX5.out.block Tb (z26 HTb.out)).trans HTb.out) (by decide)
       have t26 := z11 hT6 2
       have s06 := z11 HR6.out.bx.s 0
       simp at t26 s06
       have hS6 : (fun w' : World => w'.cell? ⟨Tb, 2, none⟩ = some (.int .i64 fb) ∧ w'.cell? ⟨b6, 0, none⟩ = some (.int .i64 n)) X6 := ⟨t26, s06⟩
       clear hT6 t26 s06
       refine z29 (i := 9) (v := .slice av ln cv) (w1 := X6) rfl (by kernel_rfl) rfl rfl (z52 (s := .tmp 48) (x := .tmp 56) (t := 95) rfl rfl rfl hrun) hS6 (by simp [go_sem]; exact rfl) ?_
       refine z29 (i := 10) (v := .slice av ln cv) (w1 := X6) rfl (by kernel_rfl) rfl rfl (by simp [go_sem]) hS6 (by simp [go_sem]; exact rfl) ?_
       refine z32 (by kernel_rfl) ?_
       clear hrun hown hgrow hat2 hi hz0 hz1 hz2 hS6 hS
       go_wp2_with fail
       try rw [z69 HJB.out (by have := HBk.out; omega)]
       refine ⟨⟨j + 1, rfl, HJB.out, ?_⟩, HSt.out⟩
       show Rw4 _ _ _ _ _ _ _ _ _ _ _ _ _
       rw [HNx.out, List.map_append, ← List.cons_append]
       exact HR6.out
     · have hjB : j = B := by omega
       subst hjB
       have HEs : Hid (((ta, (⟨n + 1, 0, 2⟩ : Sq)) :: ((clausesZ is (ka : Int)).take j).map (fun c => (c.b, (⟨n + 2, 0, 2⟩ : Sq)))) = (ta, (⟨n + 1, 0, 2⟩ : Sq)) :: (clausesZ is (ka : Int)).map (fun c => (c.b, (⟨n + 2, 0, 2⟩ : Sq)))) := by
         show _ = _
         rw [List.take_of_length_le (by rw [HLl.out]; exact Nat.le_refl _)]
       clear hlt hj
       obtain ⟨V, hVe⟩ : ∃ V, wr = V := ⟨_, rfl⟩
       have i3 := z11 HRr.out.bx.i 3
       have s0 := z11 HRr.out.bx.s 0
       have s1 := z11 HRr.out.bx.s 1
       have s2 := z11 HRr.out.bx.s 2
       simp at i3 s0 s1 s2
       go_wp2_with fail
       subst hVe
       have HCl : Hid (∀ Z, Below wr.heap.size wr Z → (fun w' : World => w'.cell? ⟨b5, 3, none⟩ = some (.int .i64 c) ∧ w'.cell? ⟨b6, 0, none⟩ = some (.int .i64 n) ∧ w'.cell? ⟨b6, 1, none⟩ = some (.int .i64 v) ∧ w'.cell? ⟨b6, 2, none⟩ = some (.int .i64 p)) Z) := fun Z hZ => ⟨(hZ.cell (z28 i3)).trans i3, (hZ.cell (z28 s0)).trans s0, (hZ.cell (z28 s1)).trans s1, (hZ.cell (z28 s2)).trans s2⟩
       have HD : Hid (Below wr.heap.size wr wr.drew) := (Below.refl _ _).drew
       have hS := HCl.out _ HD.out
       clear i3 s0 s1 s2
       refine z33 (S := (fun w' : World => w'.cell? ⟨b5, 3, none⟩ = some (.int .i64 c) ∧ w'.cell? ⟨b6, 0, none⟩ = some (.int .i64 n) ∧ w'.cell? ⟨b6, 1, none⟩ = some (.int .i64 v) ∧ w'.cell? ⟨b6, 2, none⟩ = some (.int .i64 p))) (by kernel_rfl) rfl rfl ?_
       refine pick_o 0 u7 hS ?_
       refine pick_o 1 (.int .i64 (k : Int)) hS ?_
       refine z12 (i := 2) (v := .int .i64 ((k : Int) + 1)) (by kernel_rfl) rfl (by kernel_rfl) (by kernel_rfl) rfl rfl (fun w' _ => by simp [go_sem]; exact (IntWalk.i64_left _).trans w1) hS (by simp [go_sem]; exact rfl) ?_
       refine pick_o 3 (.pointer (some ⟨b6, 0, none⟩)) hS ?_
       refine pick_o (hy := fun w' h => by simp [go_sem, h.2.1]) 4 (.int .i64 n) hS ?_
       refine pick_o 5 (.agg #[.int .i64 n, .int .i64 0, .int .i64 3]) hS ?_
       refine pick_o 6 (.agg #[.int .i64 ((k : Int) + 1), .int .i64 n, .int .i64 0, .int .i64 3]) hS ?_
       refine pick_o 7 (.pointer (some ⟨b5, 3, none⟩)) hS ?_
       refine pick_o (hy := fun w' h => by simp [go_sem, h.1]) 8 (.int .i64 c) hS ?_
       refine pick_o (hy := fun w' h => by simp [go_sem, h.2.1, h.2.2.1, h.2.2.2]) 9 (.agg #[.int .i64 n, .int .i64 v, .int .i64 p]) hS ?_
       refine z27 (i := 10) (f := 66) (args := #[.agg #[.int .i64 n, .int .i64 v, .int .i64 p], .int .i64 0, .int .i64 1]) rfl (by kernel_rfl) rfl rfl (by simp [go_sem]) ?_
       refine (z42 n v p (0) (1) _ (by have := HM.out; rw [wrap64]; omega) (by have := HM.out; rw [wrap64]; omega)).mono ?_
       rintro e X4 ⟨rfl, hbx⟩
       have HX4 := hid (HD.out.trans (hbx.mono HD.out.size))
       clear hbx hS
       have hS := HCl.out _ HX4.out
       refine ⟨_, rfl, hS, ?_⟩
       refine z15 (by simp [go_sem]; exact rfl) ?_
       refine pick_o 11 (.agg #[.int .i64 c, .int .i64 (n + 0), .int .i64 (v + 1), .int .i64 p]) hS ?_
       have hAX5 := (MapKept.heap_alloc X4 (.cells #[.int .i64 ((k : Int) + 1), .int .i64 n, .int .i64 0, .int .i64 3, .int .i64 c, .int .i64 (n + 0), .int .i64 (v + 1), .int .i64 p] 67)).1
       have HBX5 : Hid (Below wr.heap.size wr (X4.alloc (.cells #[.int .i64 ((k : Int) + 1), .int .i64 n, .int .i64 0, .int .i64 3, .int .i64 c, .int .i64 (n + 0), .int .i64 (v + 1), .int .i64 p] 67))) := HX4.out.alloc HX4.out.size _
       refine z29 (i := 12) (v := .slice (some ⟨X4.heap.size, 0, none⟩) 2 2) (w1 := X4.alloc (.cells #[.int .i64 ((k : Int) + 1), .int .i64 n, .int .i64 0, .int .i64 3, .int .i64 c, .int .i64 (n + 0), .int .i64 (v + 1), .int .i64 p] 67)) rfl (by kernel_rfl) rfl rfl (by simp [go_sem]) (HCl.out _ HBX5.out) (by simp [go_sem]; exact rfl) ?_
       have HLc := hid (lit_cells X4 [.int .i64 ((k : Int) + 1), .int .i64 n, .int .i64 0, .int .i64 3, .int .i64 c, .int .i64 (n + 0), .int .i64 (v + 1), .int .i64 p] 67)
       have HRb := hid (HRr.out.below HBX5.out)
       obtain ⟨X5, hX5⟩ : ∃ X, X4.alloc (.cells #[.int .i64 ((k : Int) + 1), .int .i64 n, .int .i64 0, .int .i64 3, .int .i64 c, .int .i64 (n + 0), .int .i64 (v + 1), .int .i64 p] 67) = X := ⟨_, rfl⟩
       have HLc2 : Hid (∀ j u, [.int .i64 ((k : Int) + 1), .int .i64 n, .int .i64 0, .int .i64 3, .int .i64 c, .int .i64 (n + 0), .int .i64 (v + 1), .int .i64 p][j]? = some u → X5.cell? ((⟨X4.heap.size, 0, none⟩ : Addr).add j) = some u) := by
         rw [← hX5]
         exact HLc.out
       rw [hX5] at HRb HBX5 ⊢
       clear hX5 hAX5 HLc
       obtain ⟨i0, hi, hz0, hz1, hz2⟩ := info_parts info_exit
       obtain ⟨va2, X6, hrun, hown, hgrow, -, hat2⟩ := run_append_own_at (P := Tryz.prog) X5 W.heap.size 95 95 67 i0 _ 4 32 Tryz.underlying95 hi hz0 hz1 hz2 rfl (by decide) u7 (((ta, (⟨n + 1, 0, 2⟩ : Sq)) :: ((clausesZ is (ka : Int)).take j).map (fun c => (c.b, (⟨n + 2, 0, 2⟩ : Sq)))).length) (rowE ((ta, (⟨n + 1, 0, 2⟩ : Sq)) :: ((clausesZ is (ka : Int)).take j).map (fun c => (c.b, (⟨n + 2, 0, 2⟩ : Sq))))) HRb.out.row ⟨X4.heap.size, 0, none⟩ 2 2 [.int .i64 ((k : Int) + 1), .int .i64 n, .int .i64 0, .int .i64 3, .int .i64 c, .int .i64 (n + 0), .int .i64 (v + 1), .int .i64 p] rfl HLc2.out (fun u hu => by
         simp only [List.mem_cons, List.not_mem_nil, or_false] at hu
         rcases hu with rfl | rfl | rfl | rfl | rfl | rfl | rfl | rfl <;> rfl) (by unfold maxLen; have := HEl.out; omega) (by have := HEl.out; omega) HRb.out.bx.bel.size
       have HR6 := hid (HRb.out.more (es' := [((k : Int) + 1, ⟨n, 0, 3⟩), (c, ⟨n + 0, v + 1, p⟩)]) (Below.refl _ _) hown hgrow)
       obtain ⟨av, ln, cv, hva⟩ : ∃ av ln cv, va2 = .slice av ln cv := by
         obtain ⟨a', c', h'⟩ := fl_slice HR6.out.row
         exact ⟨a', _, c', h'⟩
       subst hva
       have i36 := z11 HR6.out.bx.i 3
       have s06 := z11 HR6.out.bx.s 0
       have s16 := z11 HR6.out.bx.s 1
       have s26 := z11 HR6.out.bx.s 2
       simp at i36 s06 s16 s26
       have hS6 : (fun w' : World => w'.cell? ⟨b5, 3, none⟩ = some (.int .i64 c) ∧ w'.cell? ⟨b6, 0, none⟩ = some (.int .i64 n) ∧ w'.cell? ⟨b6, 1, none⟩ = some (.int .i64 v) ∧ w'.cell? ⟨b6, 2, none⟩ = some (.int .i64 p)) X6 := ⟨i36, s06, s16, s26⟩
       clear i36 s06 s16 s26
       refine z29 (i := 13) (v := .slice av ln cv) (w1 := X6) rfl (by kernel_rfl) rfl rfl (z52 (s := .tmp 59) (x := .tmp 71) (t := 95) rfl rfl rfl hrun) hS6 (by simp [go_sem]; exact rfl) ?_
       refine z29 (i := 14) (v := .slice av ln cv) (w1 := X6) rfl (by kernel_rfl) rfl rfl (by simp [go_sem]) hS6 (by simp [go_sem]; exact rfl) ?_
       refine z32 (by kernel_rfl) ?_
       clear hrun hown hgrow hat2 hi hz0 hz1 hz2 hS6 hS
       go_wp2_with fail
       go_ret
       rw [HZ.out, ← HEs.out]
       exact exits_owns HR6.out.bx.bel HR6.out.row
 · have hB1 : Below W.heap.size W (W.drew.alloc (.cells #[.int .i64 0, .int .i64 0, .int .i64 0] 43)) := hD.alloc hD.size _
   have hB2 : Below W.heap.size W ((W.drew.alloc (.cells #[.int .i64 0, .int .i64 0, .int .i64 0] 43)).alloc (.cells #[.int .i64 0, .int .i64 0, .int .i64 0, .int .i64 0] 31)) := hB1.alloc hB1.size _
   refine ⟨_, .pointer (some ⟨W.heap.size, 0, none⟩), (W.drew.alloc (.cells #[.int .i64 0, .int .i64 0, .int .i64 0] 43)), rfl, rfl, by simp [go_sem], HCl.out _ hB1, ?_⟩
   refine z15 (by simp [go_sem]; exact rfl) ?_
   refine z29 (i := 14) (v := .pointer (some ⟨W.heap.size + 1, 0, none⟩)) (w1 := ((W.drew.alloc (.cells #[.int .i64 0, .int .i64 0, .int .i64 0] 43)).alloc (.cells #[.int .i64 0, .int .i64 0, .int .i64 0, .int .i64 0] 31))) rfl (by kernel_rfl) rfl rfl (by simp [go_sem]) (HCl.out _ hB2) (by simp [go_sem]; exact rfl) ?_
   have g5 : ((W.drew.alloc (.cells #[.int .i64 0, .int .i64 0, .int .i64 0] 43)).alloc (.cells #[.int .i64 0, .int .i64 0, .int .i64 0, .int .i64 0] 31)).heap[W.heap.size + 1]? = some (.cells #[.int .i64 0, .int .i64 0, .int .i64 0, .int .i64 0] 31) := (two_new W.drew _ _).2
   have g6 : ((W.drew.alloc (.cells #[.int .i64 0, .int .i64 0, .int .i64 0] 43)).alloc (.cells #[.int .i64 0, .int .i64 0, .int .i64 0, .int .i64 0] 31)).heap[W.heap.size]? = some (.cells #[.int .i64 0, .int .i64 0, .int .i64 0] 43) := (two_new W.drew _ _).1
   have HBx := hid (boxed hB2 g5 g6 (by omega) (by omega) 21 a b c n v p)
   have HB4 : Hid (Below W.heap.size W (put4 ((W.drew.alloc (.cells #[.int .i64 0, .int .i64 0, .int .i64 0] 43)).alloc (.cells #[.int .i64 0, .int .i64 0, .int .i64 0, .int .i64 0] 31)) (W.heap.size + 1) (.int .i64 21) (.int .i64 a) (.int .i64 b) (.int .i64 c))) := by
     obtain ⟨p1, p2, p3, p4, p5, p6⟩ := put4_is g5 (.int .i64 21) (.int .i64 a) (.int .i64 b) (.int .i64 c)
     exact ⟨p4.trans hB2.os, p5.trans hB2.tape, p6.trans hB2.output, by rw [p3]; exact hB2.size, fun q hq => (p2 q (by omega)).trans (hB2.block q hq)⟩
   refine z40 (i := 16) rfl (w1 := put4 ((W.drew.alloc (.cells #[.int .i64 0, .int .i64 0, .int .i64 0] 43)).alloc (.cells #[.int .i64 0, .int .i64 0, .int .i64 0, .int .i64 0] 31)) (W.heap.size + 1) (.int .i64 21) (.int .i64 a) (.int .i64 b) (.int .i64 c)) rfl (by kernel_rfl) rfl rfl (by simp [go_sem, put4]) (HCl.out _ HB4.out) ?_
   refine z40 (i := 17) rfl (w1 := put3 (put4 ((W.drew.alloc (.cells #[.int .i64 0, .int .i64 0, .int .i64 0] 43)).alloc (.cells #[.int .i64 0, .int .i64 0, .int .i64 0, .int .i64 0] 31)) (W.heap.size + 1) (.int .i64 21) (.int .i64 a) (.int .i64 b) (.int .i64 c)) (W.heap.size) (.int .i64 n) (.int .i64 v) (.int .i64 p)) rfl (by kernel_rfl) rfl rfl (by simp [go_sem, put4, put3]) (HCl.out _ HBx.out.bel) ?_
   refine z32 (by kernel_rfl) ?_
   obtain ⟨X, hX⟩ : ∃ X, put3 (put4 ((W.drew.alloc (.cells #[.int .i64 0, .int .i64 0, .int .i64 0] 43)).alloc (.cells #[.int .i64 0, .int .i64 0, .int .i64 0, .int .i64 0] 31)) (W.heap.size + 1) (.int .i64 21) (.int .i64 a) (.int .i64 b) (.int .i64 c)) (W.heap.size) (.int .i64 n) (.int .i64 v) (.int .i64 p) = X := ⟨_, rfl⟩
   rw [hX] at HBx ⊢
   obtain ⟨b5, hb5⟩ : ∃ x, W.heap.size + 1 = x := ⟨_, rfl⟩
   obtain ⟨b6, hb6⟩ : ∃ x, W.heap.size = x := ⟨_, rfl⟩
   rw [hb5] at HBx ⊢
   rw [hb6] at HBx ⊢
   clear hX hb5 hb6 g5 g6 hB1 hB2 HB4 hS HCl hD
   clear f0 f1 f2 f3 f4 f5 f6 f7 f8
   have i1 := z11 HBx.out.i 1
   have s0 := z11 HBx.out.s 0
   simp at i1 s0
   have g0 := (HBx.out.bel.cell (z28 F0.out)).trans F0.out
   have gt := (HBx.out.bel.cell (z28 FT.out)).trans FT.out
   go_wp2_with fail
   have HCl : Hid (∀ Z, Below X.heap.size X Z → (fun w' : World => w'.cell? ⟨Fb, 0, none⟩ = some (.slice (some ⟨bc, oc, none⟩) N cc) ∧ w'.cell? ⟨b5, 1, none⟩ = some (.int .i64 a) ∧ w'.cell? ⟨b6, 0, none⟩ = some (.int .i64 n) ∧ w'.cell? ⟨bc, oc + ka * 4 + 1, none⟩ = some (.int .i64 ta)) Z) := fun Z hZ => ⟨(hZ.cell (z28 g0)).trans g0, (hZ.cell (z28 i1)).trans i1, (hZ.cell (z28 s0)).trans s0, (hZ.cell (z28 gt)).trans gt⟩
   have HD : Hid (Below X.heap.size X X.drew) := (Below.refl _ _).drew
   have hS := HCl.out _ HD.out
   clear i1 s0 g0 gt
   refine z33 (S := (fun w' : World => w'.cell? ⟨Fb, 0, none⟩ = some (.slice (some ⟨bc, oc, none⟩) N cc) ∧ w'.cell? ⟨b5, 1, none⟩ = some (.int .i64 a) ∧ w'.cell? ⟨b6, 0, none⟩ = some (.int .i64 n) ∧ w'.cell? ⟨bc, oc + ka * 4 + 1, none⟩ = some (.int .i64 ta))) (by kernel_rfl) rfl rfl ?_
   refine pick_o 0 (.pointer (some ⟨Fb, 0, none⟩)) hS ?_
   refine pick_o 1 (.pointer (some ⟨Fb, 0, none⟩)) hS ?_
   refine pick_o 2 (.pointer (some ⟨Fb, 0, none⟩)) hS ?_
   refine pick_o (hy := fun w' h => by simp [go_sem, h.1]) 3 (.slice (some ⟨bc, oc, none⟩) N cc) hS ?_
   refine pick_o 4 (.pointer (some ⟨b5, 1, none⟩)) hS ?_
   refine pick_o (hy := fun w' h => by simp [go_sem, h.2.1]) 5 (.int .i64 a) hS ?_
   refine pick_o (hy := fun w' _ => by simp [go_sem, ha0, ha1, hat]) 6 (.pointer (some ⟨bc, oc + ka * 4, none⟩)) hS ?_
   refine pick_o 7 (.pointer (some ⟨bc, oc + ka * 4 + 1, none⟩)) hS ?_
   refine pick_o (hy := fun w' h => by simp [go_sem, h.2.2.2]) 8 (.int .i64 ta) hS ?_
   refine pick_o 9 (.pointer (some ⟨b6, 0, none⟩)) hS ?_
   refine pick_o (hy := fun w' h => by simp [go_sem, h.2.2.1]) 10 (.int .i64 n) hS ?_
   refine z12 (i := 11) (v := .int .i64 (n + 1)) (by kernel_rfl) rfl (by kernel_rfl) (by kernel_rfl) rfl rfl (fun w' _ => by simp [go_sem]; exact (IntWalk.i64_left _).trans w2) hS (by simp [go_sem]; exact rfl) ?_
   refine z27 (i := 12) (f := 67) (args := #[.int .i64 (n + 1)]) rfl (by kernel_rfl) rfl rfl (by simp [go_sem]) ?_
   refine (z43 (n + 1) _).mono ?_
   rintro e X1 ⟨rfl, hbx⟩
   have HX1 := hid (HD.out.trans (hbx.mono HD.out.size))
   clear hbx hS
   have hS := HCl.out _ HX1.out
   refine ⟨_, rfl, hS, ?_⟩
   refine z15 (by simp [go_sem]; exact rfl) ?_
   refine pick_o 13 (.agg #[.int .i64 ta, .int .i64 (n + 1), .int .i64 0, .int .i64 2]) hS ?_
   have HA : Hid (Below X.heap.size X (X1.alloc (.cells #[.int .i64 ta, .int .i64 (n + 1), .int .i64 0, .int .i64 2] 67))) := HX1.out.alloc HX1.out.size _
   refine z29 (i := 14) (v := .slice (some ⟨X1.heap.size, 0, none⟩) 1 1) (w1 := X1.alloc (.cells #[.int .i64 ta, .int .i64 (n + 1), .int .i64 0, .int .i64 2] 67)) rfl (by kernel_rfl) rfl rfl (by simp [go_sem]) (HCl.out _ HA.out) (by simp [go_sem]; exact rfl) ?_
   refine z29 (i := 15) (v := .slice (some ⟨X1.heap.size, 0, none⟩) 1 1) (w1 := X1.alloc (.cells #[.int .i64 ta, .int .i64 (n + 1), .int .i64 0, .int .i64 2] 67)) rfl (by kernel_rfl) rfl rfl (by simp [go_sem]) (HCl.out _ HA.out) (by simp [go_sem]; exact rfl) ?_
   refine z32 (by kernel_rfl) ?_
   have HR0 : Hid (Rw4 W (X1.alloc (.cells #[.int .i64 ta, .int .i64 (n + 1), .int .i64 0, .int .i64 2] 67)) b5 b6 21 a b c n v p [(ta, ⟨n + 1, 0, 2⟩)] (.slice (some ⟨X1.heap.size, 0, none⟩) 1 1)) := ⟨⟨HBx.out.bel.trans (HA.out.mono HBx.out.bel.size), (HA.out.block _ (z26 HBx.out.i)).trans HBx.out.i, (HA.out.block _ (z26 HBx.out.s)).trans HBx.out.s⟩, World.ownsRow_lit X1 _ 1 (Nat.le_trans HBx.out.bel.size HX1.out.size) (by decide) rfl⟩
   generalize (.slice (some ⟨X1.heap.size, 0, none⟩) 1 1 : Value) = va at *
   obtain ⟨X2, hX2⟩ : ∃ X2, X1.alloc (.cells #[.int .i64 ta, .int .i64 (n + 1), .int .i64 0, .int .i64 2] 67) = X2 := ⟨_, rfl⟩
   rw [hX2] at HR0 ⊢
   clear hX2 hS HCl HA HD HX1 HBx
   have i1 := z11 HR0.out.bx.i 1
   simp at i1
   go_wp2_with fail
   clear i1
   have HC : Hid (Calls Tryz.prog 88 #[.pointer (some ⟨Fb, 0, none⟩), .int .i64 a] X2 (ClauseP bc oc ka B X2)) := by
     show Calls _ _ _ _ _
     have h1 := HBk.out
     rw [h1.2.2.2.2.1]
     exact tabClauses_calls ((HR0.out.bx.bel.cell (z28 F0.out)).trans F0.out) ((HR0.out.bx.bel.cell (z28 FT2.out)).trans FT2.out) (by have := HNe.out; omega) (by have := HNe.out; omega) (by have := HNe.out; omega)
   refine HC.out.mono ?_
   rintro e X3 ⟨ad, cp, rfl, had, hb3⟩
   have HAd := hid had
   have HR1 := hid (HR0.out.below hb3)
   clear had hb3 HC HR0
   have HL : Hid (∀ j, j < B → (clausesZ is (ka : Int)).take (j + 1) = (clausesZ is (ka : Int)).take j ++ [is.getD (ka + (j + 1)) default]) := fun j hj => linesI_next (by rw [HBk.out.2.2.2.2.2.1]) HBk.out.1 hj
   have HLl : Hid ((clausesZ is (ka : Int)).length = B) := linesI_len (by rw [HBk.out.2.2.2.2.2.1]) HBk.out.1
   go_wp2_with fail
   go_loopw [7, 44] (fun va i wr => ∃ j : Nat, i = .int .i64 (j : Int) ∧ j ≤ B ∧ Hid (Rw4 W wr b5 b6 21 a b c n v p ((ta, (⟨n + 1, 0, 2⟩ : Sq)) :: ((clausesZ is (ka : Int)).take j).map (fun c => (c.b, (⟨n + 2, 0, 2⟩ : Sq)))) va)) (fun _ i _ => B - (intOf i).toNat)
   case atStart => exact ⟨0, rfl, Nat.zero_le _, HR1⟩
   case round =>
     clear HR1
     obtain ⟨j, rfl, hj, HRr⟩ := hrel
     have HEl : Hid (((ta, (⟨n + 1, 0, 2⟩ : Sq)) :: ((clausesZ is (ka : Int)).take j).map (fun c => (c.b, (⟨n + 2, 0, 2⟩ : Sq)))).length ≤ 10) := by
       show _ ≤ _
       simp only [List.length_cons, List.length_map, List.length_take]
       have := HBk.out
       omega
     by_cases hlt : (j : Int) < (B : Int)
     · have hjB : j < B := by omega
       have hkj : ka + (j + 1) < is.length := by have := HBk.out; omega
       have hinW := HBk.out.2.2.2.2.2.2.2.below HRr.out.bx.bel HBk.out.2.2.2.2.2.2.1
       have f0 := hinW (ka + (j + 1)) hkj 0 (by omega)
       have f1 := hinW (ka + (j + 1)) hkj 1 (by omega)
       have f2 := hinW (ka + (j + 1)) hkj 2 (by omega)
       have f3 := hinW (ka + (j + 1)) hkj 3 (by omega)
       have hnx := HL.out j hjB
       obtain ⟨⟨fop, fa, fb, fc⟩, hf⟩ : ∃ i, is.getD (ka + (j + 1)) default = i := ⟨_, rfl⟩
       rw [hf] at f0 f1 f2 f3 hnx
       have eo : oc + (ka + (j + 1)) * 4 = oc + (ka + 1) * 4 + j * 4 := by omega
       rw [eo] at f0 f1 f2 f3
       simp only [In.cell, Nat.add_zero] at f0 f1 f2 f3
       have had := HAd.out (by omega)
       subst had
       have hj0 : (0 : Int) ≤ (j : Int) := by omega
       have hst : B - (intOf (.int .i64 ((j + 1 : Nat) : Int))).toNat < B - (intOf (.int .i64 (j : Int))).toNat := by simp only [intOf, Int.toNat_natCast]; omega
       have HNx := hid hnx
       have HSt := hid hst
       have HJB := hid hjB
       obtain ⟨off, hoff⟩ : ∃ off, oc + (ka + 1) * 4 = off := ⟨_, rfl⟩
       rw [hoff] at f0 f1 f2 f3 ⊢
       have hA5 := (MapKept.heap_alloc wr (.cells #[.int .i64 fop, .int .i64 fa, .int .i64 fb, .int .i64 fc] 31)).1
       have hB5 := (Below.refl wr.heap.size wr).alloc (Nat.le_refl _) (.cells #[.int .i64 fop, .int .i64 fa, .int .i64 fb, .int .i64 fc] 31)
       obtain ⟨V, hV⟩ : ∃ V, wr.alloc (.cells #[.int .i64 fop, .int .i64 fa, .int .i64 fb, .int .i64 fc] 31) = V := ⟨_, rfl⟩
       rw [hV] at hA5 hB5
       obtain ⟨Tb, hTb⟩ : ∃ Tb, wr.heap.size = Tb := ⟨_, rfl⟩
       have HRv := hid (HRr.out.below hB5)
       rw [hTb] at hA5
       have HV := hid hV
       have HTb := hid hA5
       clear hnx hf hinW hst eo hkj hjB hj hoff hB5 hV
       go_wp2_with fail
       rw [HV.out]
       have t2 := z11 hA5 2
       have s0 := z11 HRv.out.bx.s 0
       simp at t2 s0
       have HCl : Hid (∀ Z, Below V.heap.size V Z → (fun w' : World => w'.cell? ⟨Tb, 2, none⟩ = some (.int .i64 fb) ∧ w'.cell? ⟨b6, 0, none⟩ = some (.int .i64 n)) Z) := fun Z hZ => ⟨(hZ.cell (z28 t2)).trans t2, (hZ.cell (z28 s0)).trans s0⟩
       have HD : Hid (Below V.heap.size V V.drew) := (Below.refl _ _).drew
       have hS := HCl.out _ HD.out
       clear t2 s0 HV hTb f0 f1 f2 f3 hA5
       refine z33 (S := (fun w' : World => w'.cell? ⟨Tb, 2, none⟩ = some (.int .i64 fb) ∧ w'.cell? ⟨b6, 0, none⟩ = some (.int .i64 n))) (by kernel_rfl) rfl rfl ?_
       refine pick_o 0 u7 hS ?_
       refine pick_o 1 (.pointer (some ⟨Tb, 2, none⟩)) hS ?_
       refine pick_o (hy := fun w' h => by simp [go_sem, h.1]) 2 (.int .i64 fb) hS ?_
       refine pick_o 3 (.pointer (some ⟨b6, 0, none⟩)) hS ?_
       refine pick_o (hy := fun w' h => by simp [go_sem, h.2]) 4 (.int .i64 n) hS ?_
       refine z12 (i := 5) (v := .int .i64 (n + 2)) (by kernel_rfl) rfl (by kernel_rfl) (by kernel_rfl) rfl rfl (fun w' _ => by simp [go_sem]; exact (IntWalk.i64_left _).trans w3) hS (by simp [go_sem]; exact rfl) ?_
       refine z27 (i := 6) (f := 67) (args := #[.int .i64 (n + 2)]) rfl (by kernel_rfl) rfl rfl (by simp [go_sem]) ?_
       refine (z43 (n + 2) _).mono ?_
       rintro e X4 ⟨rfl, hbx⟩
       have HX4 := hid (HD.out.trans (hbx.mono HD.out.size))
       clear hbx hS
       have hS := HCl.out _ HX4.out
       refine ⟨_, rfl, hS, ?_⟩
       refine z15 (by simp [go_sem]; exact rfl) ?_
       refine pick_o 7 (.agg #[.int .i64 fb, .int .i64 (n + 2), .int .i64 0, .int .i64 2]) hS ?_
       have hAX5 := (MapKept.heap_alloc X4 (.cells #[.int .i64 fb, .int .i64 (n + 2), .int .i64 0, .int .i64 2] 67)).1
       have HBX5 : Hid (Below V.heap.size V (X4.alloc (.cells #[.int .i64 fb, .int .i64 (n + 2), .int .i64 0, .int .i64 2] 67))) := HX4.out.alloc HX4.out.size _
       refine z29 (i := 8) (v := .slice (some ⟨X4.heap.size, 0, none⟩) 1 1) (w1 := X4.alloc (.cells #[.int .i64 fb, .int .i64 (n + 2), .int .i64 0, .int .i64 2] 67)) rfl (by kernel_rfl) rfl rfl (by simp [go_sem]) (HCl.out _ HBX5.out) (by simp [go_sem]; exact rfl) ?_
       have HLc := hid (lit_cells X4 [.int .i64 fb, .int .i64 (n + 2), .int .i64 0, .int .i64 2] 67)
       have HRb := hid (HRv.out.below HBX5.out)
       obtain ⟨X5, hX5⟩ : ∃ X, X4.alloc (.cells #[.int .i64 fb, .int .i64 (n + 2), .int .i64 0, .int .i64 2] 67) = X := ⟨_, rfl⟩
       have HLc2 : Hid (∀ j u, [.int .i64 fb, .int .i64 (n + 2), .int .i64 0, .int .i64 2][j]? = some u → X5.cell? ((⟨X4.heap.size, 0, none⟩ : Addr).add j) = some u) := by
         rw [← hX5]
         exact HLc.out
       rw [hX5] at HRb HBX5 ⊢
       clear hX5 hAX5 HLc
       obtain ⟨i0, hi, hz0, hz1, hz2⟩ := info_parts info_exit
       obtain ⟨va2, X6, hrun, hown, hgrow, -, hat2⟩ := run_append_own_at (P := Tryz.prog) X5 W.heap.size 95 95 67 i0 _ 4 32 Tryz.underlying95 hi hz0 hz1 hz2 rfl (by decide) u7 (((ta, (⟨n + 1, 0, 2⟩ : Sq)) :: ((clausesZ is (ka : Int)).take j).map (fun c => (c.b, (⟨n + 2, 0, 2⟩ : Sq)))).length) (rowE ((ta, (⟨n + 1, 0, 2⟩ : Sq)) :: ((clausesZ is (ka : Int)).take j).map (fun c => (c.b, (⟨n + 2, 0, 2⟩ : Sq))))) HRb.out.row ⟨X4.heap.size, 0, none⟩ 1 1 [.int .i64 fb, .int .i64 (n + 2), .int .i64 0, .int .i64 2] rfl HLc2.out (fun u hu => by
         simp only [List.mem_cons, List.not_mem_nil, or_false] at hu
         rcases hu with rfl | rfl | rfl | rfl <;> rfl) (by unfold maxLen; have := HEl.out; omega) (by have := HEl.out; omega) HRb.out.bx.bel.size
       have HR6 := hid (HRb.out.more (es' := [(fb, ⟨n + 2, 0, 2⟩)]) (Below.refl _ _) hown hgrow)
       obtain ⟨av, ln, cv, hva⟩ : ∃ av ln cv, va2 = .slice av ln cv := by
         obtain ⟨a', c', h'⟩ := fl_slice HR6.out.row
         exact ⟨a', _, c', h'⟩
       subst hva
       have hT6 := grown_cells HRb.out.row hgrow ((HBX5.out.block Tb (z26 HTb.out)).trans HTb.out) (by decide)
       have t26 := z11 hT6 2
       have s06 := z11 HR6.out.bx.s 0
       simp at t26 s06
       have hS6 : (fun w' : World => w'.cell? ⟨Tb, 2, none⟩ = some (.int .i64 fb) ∧ w'.cell? ⟨b6, 0, none⟩ = some (.int .i64 n)) X6 := ⟨t26, s06⟩
       clear hT6 t26 s06
       refine z29 (i := 9) (v := .slice av ln cv) (w1 := X6) rfl (by kernel_rfl) rfl rfl (z52 (s := .tmp 48) (x := .tmp 56) (t := 95) rfl rfl rfl hrun) hS6 (by simp [go_sem]; exact rfl) ?_
       refine z29 (i := 10) (v := .slice av ln cv) (w1 := X6) rfl (by kernel_rfl) rfl rfl (by simp [go_sem]) hS6 (by simp [go_sem]; exact rfl) ?_
       refine z32 (by kernel_rfl) ?_
       clear hrun hown hgrow hat2 hi hz0 hz1 hz2 hS6 hS
       go_wp2_with fail
       try rw [z69 HJB.out (by have := HBk.out; omega)]
       refine ⟨⟨j + 1, rfl, HJB.out, ?_⟩, HSt.out⟩
       show Rw4 _ _ _ _ _ _ _ _ _ _ _ _ _
       rw [HNx.out, List.map_append, ← List.cons_append]
       exact HR6.out
     · have hjB : j = B := by omega
       subst hjB
       have HEs : Hid (((ta, (⟨n + 1, 0, 2⟩ : Sq)) :: ((clausesZ is (ka : Int)).take j).map (fun c => (c.b, (⟨n + 2, 0, 2⟩ : Sq)))) = (ta, (⟨n + 1, 0, 2⟩ : Sq)) :: (clausesZ is (ka : Int)).map (fun c => (c.b, (⟨n + 2, 0, 2⟩ : Sq)))) := by
         show _ = _
         rw [List.take_of_length_le (by rw [HLl.out]; exact Nat.le_refl _)]
       clear hlt hj
       obtain ⟨V, hVe⟩ : ∃ V, wr = V := ⟨_, rfl⟩
       have i3 := z11 HRr.out.bx.i 3
       have s0 := z11 HRr.out.bx.s 0
       have s1 := z11 HRr.out.bx.s 1
       have s2 := z11 HRr.out.bx.s 2
       simp at i3 s0 s1 s2
       go_wp2_with fail
       subst hVe
       have HCl : Hid (∀ Z, Below wr.heap.size wr Z → (fun w' : World => w'.cell? ⟨b5, 3, none⟩ = some (.int .i64 c) ∧ w'.cell? ⟨b6, 0, none⟩ = some (.int .i64 n) ∧ w'.cell? ⟨b6, 1, none⟩ = some (.int .i64 v) ∧ w'.cell? ⟨b6, 2, none⟩ = some (.int .i64 p)) Z) := fun Z hZ => ⟨(hZ.cell (z28 i3)).trans i3, (hZ.cell (z28 s0)).trans s0, (hZ.cell (z28 s1)).trans s1, (hZ.cell (z28 s2)).trans s2⟩
       have HD : Hid (Below wr.heap.size wr wr.drew) := (Below.refl _ _).drew
       have hS := HCl.out _ HD.out
       clear i3 s0 s1 s2
       refine z33 (S := (fun w' : World => w'.cell? ⟨b5, 3, none⟩ = some (.int .i64 c) ∧ w'.cell? ⟨b6, 0, none⟩ = some (.int .i64 n) ∧ w'.cell? ⟨b6, 1, none⟩ = some (.int .i64 v) ∧ w'.cell? ⟨b6, 2, none⟩ = some (.int .i64 p))) (by kernel_rfl) rfl rfl ?_
       refine pick_o 0 u7 hS ?_
       refine pick_o 1 (.int .i64 (k : Int)) hS ?_
       refine z12 (i := 2) (v := .int .i64 ((k : Int) + 1)) (by kernel_rfl) rfl (by kernel_rfl) (by kernel_rfl) rfl rfl (fun w' _ => by simp [go_sem]; exact (IntWalk.i64_left _).trans w1) hS (by simp [go_sem]; exact rfl) ?_
       refine pick_o 3 (.pointer (some ⟨b6, 0, none⟩)) hS ?_
       refine pick_o (hy := fun w' h => by simp [go_sem, h.2.1]) 4 (.int .i64 n) hS ?_
       refine pick_o 5 (.agg #[.int .i64 n, .int .i64 0, .int .i64 3]) hS ?_
       refine pick_o 6 (.agg #[.int .i64 ((k : Int) + 1), .int .i64 n, .int .i64 0, .int .i64 3]) hS ?_
       refine pick_o 7 (.pointer (some ⟨b5, 3, none⟩)) hS ?_
       refine pick_o (hy := fun w' h => by simp [go_sem, h.1]) 8 (.int .i64 c) hS ?_
       refine pick_o (hy := fun w' h => by simp [go_sem, h.2.1, h.2.2.1, h.2.2.2]) 9 (.agg #[.int .i64 n, .int .i64 v, .int .i64 p]) hS ?_
       refine z27 (i := 10) (f := 66) (args := #[.agg #[.int .i64 n, .int .i64 v, .int .i64 p], .int .i64 0, .int .i64 1]) rfl (by kernel_rfl) rfl rfl (by simp [go_sem]) ?_
       refine (z42 n v p (0) (1) _ (by have := HM.out; rw [wrap64]; omega) (by have := HM.out; rw [wrap64]; omega)).mono ?_
       rintro e X4 ⟨rfl, hbx⟩
       have HX4 := hid (HD.out.trans (hbx.mono HD.out.size))
       clear hbx hS
       have hS := HCl.out _ HX4.out
       refine ⟨_, rfl, hS, ?_⟩
       refine z15 (by simp [go_sem]; exact rfl) ?_
       refine pick_o 11 (.agg #[.int .i64 c, .int .i64 (n + 0), .int .i64 (v + 1), .int .i64 p]) hS ?_
       have hAX5 := (MapKept.heap_alloc X4 (.cells #[.int .i64 ((k : Int) + 1), .int .i64 n, .int .i64 0, .int .i64 3, .int .i64 c, .int .i64 (n + 0), .int .i64 (v + 1), .int .i64 p] 67)).1
       have HBX5 : Hid (Below wr.heap.size wr (X4.alloc (.cells #[.int .i64 ((k : Int) + 1), .int .i64 n, .int .i64 0, .int .i64 3, .int .i64 c, .int .i64 (n + 0), .int .i64 (v + 1), .int .i64 p] 67))) := HX4.out.alloc HX4.out.size _
       refine z29 (i := 12) (v := .slice (some ⟨X4.heap.size, 0, none⟩) 2 2) (w1 := X4.alloc (.cells #[.int .i64 ((k : Int) + 1), .int .i64 n, .int .i64 0, .int .i64 3, .int .i64 c, .int .i64 (n + 0), .int .i64 (v + 1), .int .i64 p] 67)) rfl (by kernel_rfl) rfl rfl (by simp [go_sem]) (HCl.out _ HBX5.out) (by simp [go_sem]; exact rfl) ?_
       have HLc := hid (lit_cells X4 [.int .i64 ((k : Int) + 1), .int .i64 n, .int .i64 0, .int .i64 3, .int .i64 c, .int .i64 (n + 0), .int .i64 (v + 1), .int .i64 p] 67)
       have HRb := hid (HRr.out.below HBX5.out)
       obtain ⟨X5, hX5⟩ : ∃ X, X4.alloc (.cells #[.int .i64 ((k : Int) + 1), .int .i64 n, .int .i64 0, .int .i64 3, .int .i64 c, .int .i64 (n + 0), .int .i64 (v + 1), .int .i64 p] 67) = X := ⟨_, rfl⟩
       have HLc2 : Hid (∀ j u, [.int .i64 ((k : Int) + 1), .int .i64 n, .int .i64 0, .int .i64 3, .int .i64 c, .int .i64 (n + 0), .int .i64 (v + 1), .int .i64 p][j]? = some u → X5.cell? ((⟨X4.heap.size, 0, none⟩ : Addr).add j) = some u) := by
         rw [← hX5]
         exact HLc.out
       rw [hX5] at HRb HBX5 ⊢
       clear hX5 hAX5 HLc
       obtain ⟨i0, hi, hz0, hz1, hz2⟩ := info_parts info_exit
       obtain ⟨va2, X6, hrun, hown, hgrow, -, hat2⟩ := run_append_own_at (P := Tryz.prog) X5 W.heap.size 95 95 67 i0 _ 4 32 Tryz.underlying95 hi hz0 hz1 hz2 rfl (by decide) u7 (((ta, (⟨n + 1, 0, 2⟩ : Sq)) :: ((clausesZ is (ka : Int)).take j).map (fun c => (c.b, (⟨n + 2, 0, 2⟩ : Sq)))).length) (rowE ((ta, (⟨n + 1, 0, 2⟩ : Sq)) :: ((clausesZ is (ka : Int)).take j).map (fun c => (c.b, (⟨n + 2, 0, 2⟩ : Sq))))) HRb.out.row ⟨X4.heap.size, 0, none⟩ 2 2 [.int .i64 ((k : Int) + 1), .int .i64 n, .int .i64 0, .int .i64 3, .int .i64 c, .int .i64 (n + 0), .int .i64 (v + 1), .int .i64 p] rfl HLc2.out (fun u hu => by
         simp only [List.mem_cons, List.not_mem_nil, or_false] at hu
         rcases hu with rfl | rfl | rfl | rfl | rfl | rfl | rfl | rfl <;> rfl) (by unfold maxLen; have := HEl.out; omega) (by have := HEl.out; omega) HRb.out.bx.bel.size
       have HR6 := hid (HRb.out.more (es' := [((k : Int) + 1, ⟨n, 0, 3⟩), (c, ⟨n + 0, v + 1, p⟩)]) (Below.refl _ _) hown hgrow)
       obtain ⟨av, ln, cv, hva⟩ : ∃ av ln cv, va2 = .slice av ln cv := by
         obtain ⟨a', c', h'⟩ := fl_slice HR6.out.row
         exact ⟨a', _, c', h'⟩
       subst hva
       have i36 := z11 HR6.out.bx.i 3
       have s06 := z11 HR6.out.bx.s 0
       have s16 := z11 HR6.out.bx.s 1
       have s26 := z11 HR6.out.bx.s 2
       simp at i36 s06 s16 s26
       have hS6 : (fun w' : World => w'.cell? ⟨b5, 3, none⟩ = some (.int .i64 c) ∧ w'.cell? ⟨b6, 0, none⟩ = some (.int .i64 n) ∧ w'.cell? ⟨b6, 1, none⟩ = some (.int .i64 v) ∧ w'.cell? ⟨b6, 2, none⟩ = some (.int .i64 p)) X6 := ⟨i36, s06, s16, s26⟩
       clear i36 s06 s16 s26
       refine z29 (i := 13) (v := .slice av ln cv) (w1 := X6) rfl (by kernel_rfl) rfl rfl (z52 (s := .tmp 59) (x := .tmp 71) (t := 95) rfl rfl rfl hrun) hS6 (by simp [go_sem]; exact rfl) ?_
       refine z29 (i := 14) (v := .slice av ln cv) (w1 := X6) rfl (by kernel_rfl) rfl rfl (by simp [go_sem]) hS6 (by simp [go_sem]; exact rfl) ?_
       refine z32 (by kernel_rfl) ?_
       clear hrun hown hgrow hat2 hi hz0 hz1 hz2 hS6 hS
       go_wp2_with fail
       go_ret
       rw [HZ.out, ← HEs.out]
       exact exits_owns HR6.out.bx.bel HR6.out.row
end
section
open Go.RowKit Go.Conc
set_option maxRecDepth 100000 in
set_option maxHeartbeats 80000000 in
theorem exits_any {W : World} {Fb bc oc cc gs N k : Nat} {is : List In} {a b c n v p : Int} (hk0 : (0 : Int) ≤ (k : Int)) (hk1 : (k : Int) < (N : Int)) (hkN : k ≤ 1500) (hn0 : 0 ≤ n) (hn1 : n ≤ 100) (hv0 : 0 ≤ v) (hv1 : v ≤ 100) {op : Int} (f0 : W.cell? ⟨Fb, 0, none⟩ = some (.slice (some ⟨bc, oc, none⟩) N cc)) (f1 : W.cell? ⟨Fb, 1, none⟩ = some (.slice (some ⟨gs, 0, none⟩) N N)) (f2 : W.cell? ⟨bc, oc + k * 4, none⟩ = some (.int .i64 op)) (f3 : W.cell? ⟨bc, oc + k * 4 + 1, none⟩ = some (.int .i64 a)) (f4 : W.cell? ⟨bc, oc + k * 4 + 2, none⟩ = some (.int .i64 b)) (f5 : W.cell? ⟨bc, oc + k * 4 + 3, none⟩ = some (.int .i64 c)) (f6 : W.cell? ⟨gs, k * 3, none⟩ = some (.int .i64 n)) (f7 : W.cell? ⟨gs, k * 3 + 1, none⟩ = some (.int .i64 v)) (f8 : W.cell? ⟨gs, k * 3 + 2, none⟩ = some (.int .i64 p)) (hH : ∀ X, op = 21 → Below W.heap.size W X → Calls Tryz.prog 68 #[.pointer (some ⟨Fb, 0, none⟩), .int .i64 (k : Int)] X (ExitsP (exitsZ is k ⟨21, a, b, c⟩ ⟨n, v, p⟩) X)) (hop : (op = 1 ∨ op = 2 ∨ op = 3 ∨ op = 4 ∨ op = 5) ∨ (op = 8 ∨ op = 14 ∨ op = 15 ∨ op = 18) ∨ (op = 12) ∨ (op = 13) ∨ (op = 11) ∨ (op = 16 ∨ op = 17 ∨ op = 20 ∨ op = 22) ∨ (op = 0 ∨ op = 9 ∨ op = 23 ∨ op = 24 ∨ op = 25) ∨ (op = 6) ∨ (op = 7) ∨ (op = 10) ∨ (op = 19) ∨ (op = 21)) :
   Calls Tryz.prog 36 #[.pointer (some ⟨Fb, 0, none⟩), .int .i64 (k : Int)] W (ExitsP (exitsZ is k ⟨op, a, b, c⟩ ⟨n, v, p⟩) W) := by
 have HH := hid hH
 have HO := hid hop
 clear hH hop
 have w1 : wrap64 ((k : Int) + 1) = (k : Int) + 1 := by rw [wrap64]; omega
 have w2 : wrap64 (n + 1) = n + 1 := by rw [wrap64]; omega
 have w3 : wrap64 (n + 2) = n + 2 := by rw [wrap64]; omega
 have HM : Hid (0 ≤ n ∧ n ≤ 100 ∧ 0 ≤ v ∧ v ≤ 100) := ⟨hn0, hn1, hv0, hv1⟩
 clear hn0 hn1 hv0 hv1 hkN
 go_enter Tryz.func36, Tryz.ntmps36
 go_wp2_with fail
 have hD : Below W.heap.size W W.drew := (Below.refl _ _).drew
 have HCl : Hid (∀ X, Below W.heap.size W X → (fun w' : World => w'.cell? ⟨Fb, 0, none⟩ = some (.slice (some ⟨bc, oc, none⟩) N cc) ∧ w'.cell? ⟨Fb, 1, none⟩ = some (.slice (some ⟨gs, 0, none⟩) N N) ∧ w'.cell? ⟨bc, oc + k * 4, none⟩ = some (.int .i64 op) ∧ w'.cell? ⟨bc, oc + k * 4 + 1, none⟩ = some (.int .i64 a) ∧ w'.cell? ⟨bc, oc + k * 4 + 2, none⟩ = some (.int .i64 b) ∧ w'.cell? ⟨bc, oc + k * 4 + 3, none⟩ = some (.int .i64 c) ∧ w'.cell? ⟨gs, k * 3, none⟩ = some (.int .i64 n) ∧ w'.cell? ⟨gs, k * 3 + 1, none⟩ = some (.int .i64 v) ∧ w'.cell? ⟨gs, k * 3 + 2, none⟩ = some (.int .i64 p)) X) := fun X hX => ⟨(hX.cell (z28 f0)).trans f0, (hX.cell (z28 f1)).trans f1, (hX.cell (z28 f2)).trans f2, (hX.cell (z28 f3)).trans f3, (hX.cell (z28 f4)).trans f4, (hX.cell (z28 f5)).trans f5, (hX.cell (z28 f6)).trans f6, (hX.cell (z28 f7)).trans f7, (hX.cell (z28 f8)).trans f8⟩
 have hS := HCl.out W.drew hD
 refine z33 (S := (fun w' : World => w'.cell? ⟨Fb, 0, none⟩ = some (.slice (some ⟨bc, oc, none⟩) N cc) ∧ w'.cell? ⟨Fb, 1, none⟩ = some (.slice (some ⟨gs, 0, none⟩) N N) ∧ w'.cell? ⟨bc, oc + k * 4, none⟩ = some (.int .i64 op) ∧ w'.cell? ⟨bc, oc + k * 4 + 1, none⟩ = some (.int .i64 a) ∧ w'.cell? ⟨bc, oc + k * 4 + 2, none⟩ = some (.int .i64 b) ∧ w'.cell? ⟨bc, oc + k * 4 + 3, none⟩ = some (.int .i64 c) ∧ w'.cell? ⟨gs, k * 3, none⟩ = some (.int .i64 n) ∧ w'.cell? ⟨gs, k * 3 + 1, none⟩ = some (.int .i64 v) ∧ w'.cell? ⟨gs, k * 3 + 2, none⟩ = some (.int .i64 p))) (by kernel_rfl) rfl rfl ?_
 refine pick_o 0 (.pointer (some ⟨Fb, 0, none⟩)) hS ?_
 refine pick_o 1 (.pointer (some ⟨Fb, 0, none⟩)) hS ?_
 refine pick_o 2 (.pointer (some ⟨Fb, 0, none⟩)) hS ?_
 refine pick_o (hy := fun w' h => by simp [go_sem, h.1]) 3 (.slice (some ⟨bc, oc, none⟩) N cc) hS ?_
 refine pick_o 4 (.int .i64 (k : Int)) hS ?_
 refine pick_o (hy := fun w' _ => by simp [go_sem, hk0, hk1]) 5 (.pointer (some ⟨bc, oc + k * 4, none⟩)) hS ?_
 refine pick_o (hy := fun w' h => by simp [go_sem, h.2.2.1, h.2.2.2.1, h.2.2.2.2.1, h.2.2.2.2.2.1]) 6 (.agg #[.int .i64 op, .int .i64 a, .int .i64 b, .int .i64 c]) hS ?_
 refine pick_o 7 (.pointer (some ⟨Fb, 0, none⟩)) hS ?_
 refine pick_o 8 (.pointer (some ⟨Fb, 0, none⟩)) hS ?_
 refine pick_o 9 (.pointer (some ⟨Fb, 1, none⟩)) hS ?_
 refine pick_o (hy := fun w' h => by simp [go_sem, h.2.1]) 10 (.slice (some ⟨gs, 0, none⟩) N N) hS ?_
 refine pick_o 11 (.int .i64 (k : Int)) hS ?_
 refine pick_o (hy := fun w' _ => by simp [go_sem, hk0, hk1]) 12 (.pointer (some ⟨gs, k * 3, none⟩)) hS ?_
 refine pick_o (hy := fun w' h => by simp [go_sem, h.2.2.2.2.2.2.1, h.2.2.2.2.2.2.2.1, h.2.2.2.2.2.2.2.2]) 13 (.agg #[.int .i64 n, .int .i64 v, .int .i64 p]) hS ?_
 refine pick_o 14 (.int .i64 (k : Int)) hS ?_
 refine z12 (i := 15) (v := .int .i64 ((k : Int) + 1)) (by kernel_rfl) rfl (by kernel_rfl) (by kernel_rfl) rfl rfl (fun w' _ => by simp [go_sem]; exact (IntWalk.i64_left _).trans w1) hS (by simp [go_sem]; exact rfl) ?_
 refine pick_fork (i := 16) (j := 17) (by kernel_rfl) ?A ?B
 case' A =>
   have hB1 : Below W.heap.size W (W.drew.alloc (.cells #[.int .i64 0, .int .i64 0, .int .i64 0, .int .i64 0] 31)) := hD.alloc hD.size _
   have hB2 : Below W.heap.size W ((W.drew.alloc (.cells #[.int .i64 0, .int .i64 0, .int .i64 0, .int .i64 0] 31)).alloc (.cells #[.int .i64 0, .int .i64 0, .int .i64 0] 43)) := hB1.alloc hB1.size _
   refine ⟨_, .pointer (some ⟨W.heap.size, 0, none⟩), (W.drew.alloc (.cells #[.int .i64 0, .int .i64 0, .int .i64 0, .int .i64 0] 31)), rfl, rfl, by simp [go_sem], HCl.out _ hB1, ?_⟩
   refine z15 (by simp [go_sem]; exact rfl) ?_
   refine z29 (i := 17) (v := .pointer (some ⟨W.heap.size + 1, 0, none⟩)) (w1 := ((W.drew.alloc (.cells #[.int .i64 0, .int .i64 0, .int .i64 0, .int .i64 0] 31)).alloc (.cells #[.int .i64 0, .int .i64 0, .int .i64 0] 43))) rfl (by kernel_rfl) rfl rfl (by simp [go_sem]) (HCl.out _ hB2) (by simp [go_sem]; exact rfl) ?_
   have g5 : ((W.drew.alloc (.cells #[.int .i64 0, .int .i64 0, .int .i64 0, .int .i64 0] 31)).alloc (.cells #[.int .i64 0, .int .i64 0, .int .i64 0] 43)).heap[W.heap.size]? = some (.cells #[.int .i64 0, .int .i64 0, .int .i64 0, .int .i64 0] 31) := (two_new W.drew _ _).1
   have g6 : ((W.drew.alloc (.cells #[.int .i64 0, .int .i64 0, .int .i64 0, .int .i64 0] 31)).alloc (.cells #[.int .i64 0, .int .i64 0, .int .i64 0] 43)).heap[W.heap.size + 1]? = some (.cells #[.int .i64 0, .int .i64 0, .int .i64 0] 43) := (two_new W.drew _ _).2
   have HBx := hid (boxed hB2 g5 g6 (by omega) (by omega) op a b c n v p)
   have HB4 : Hid (Below W.heap.size W (put4 ((W.drew.alloc (.cells #[.int .i64 0, .int .i64 0, .int .i64 0, .int .i64 0] 31)).alloc (.cells #[.int .i64 0, .int .i64 0, .int .i64 0] 43)) (W.heap.size) (.int .i64 op) (.int .i64 a) (.int .i64 b) (.int .i64 c))) := by
     obtain ⟨p1, p2, p3, p4, p5, p6⟩ := put4_is g5 (.int .i64 op) (.int .i64 a) (.int .i64 b) (.int .i64 c)
     exact ⟨p4.trans hB2.os, p5.trans hB2.tape, p6.trans hB2.output, by rw [p3]; exact hB2.size, fun q hq => (p2 q (by omega)).trans (hB2.block q hq)⟩
   refine z40 (i := 18) rfl (w1 := put4 ((W.drew.alloc (.cells #[.int .i64 0, .int .i64 0, .int .i64 0, .int .i64 0] 31)).alloc (.cells #[.int .i64 0, .int .i64 0, .int .i64 0] 43)) (W.heap.size) (.int .i64 op) (.int .i64 a) (.int .i64 b) (.int .i64 c)) rfl (by kernel_rfl) rfl rfl (by simp [go_sem, put4]) (HCl.out _ HB4.out) ?_
   refine z40 (i := 19) rfl (w1 := put3 (put4 ((W.drew.alloc (.cells #[.int .i64 0, .int .i64 0, .int .i64 0, .int .i64 0] 31)).alloc (.cells #[.int .i64 0, .int .i64 0, .int .i64 0] 43)) (W.heap.size) (.int .i64 op) (.int .i64 a) (.int .i64 b) (.int .i64 c)) (W.heap.size + 1) (.int .i64 n) (.int .i64 v) (.int .i64 p)) rfl (by kernel_rfl) rfl rfl (by simp [go_sem, put4, put3]) (HCl.out _ HBx.out.bel) ?_
   refine z29 (i := 20) (v := .int .i64 ((k : Int) + 1)) (w1 := put3 (put4 ((W.drew.alloc (.cells #[.int .i64 0, .int .i64 0, .int .i64 0, .int .i64 0] 31)).alloc (.cells #[.int .i64 0, .int .i64 0, .int .i64 0] 43)) (W.heap.size) (.int .i64 op) (.int .i64 a) (.int .i64 b) (.int .i64 c)) (W.heap.size + 1) (.int .i64 n) (.int .i64 v) (.int .i64 p)) rfl (by kernel_rfl) rfl rfl (by simp [go_sem]) (HCl.out _ HBx.out.bel) (by simp [go_sem]; exact rfl) ?_
   refine z32 (by kernel_rfl) ?_
   obtain ⟨X, hX⟩ : ∃ X, put3 (put4 ((W.drew.alloc (.cells #[.int .i64 0, .int .i64 0, .int .i64 0, .int .i64 0] 31)).alloc (.cells #[.int .i64 0, .int .i64 0, .int .i64 0] 43)) (W.heap.size) (.int .i64 op) (.int .i64 a) (.int .i64 b) (.int .i64 c)) (W.heap.size + 1) (.int .i64 n) (.int .i64 v) (.int .i64 p) = X := ⟨_, rfl⟩
   rw [hX] at HBx ⊢
   obtain ⟨b5, hb5⟩ : ∃ x, W.heap.size = x := ⟨_, rfl⟩
   obtain ⟨b6, hb6⟩ : ∃ x, W.heap.size + 1 = x := ⟨_, rfl⟩
   rw [hb6] at HBx ⊢
   rw [hb5] at HBx ⊢
   clear hX hb5 hb6 g5 g6 hB1 hB2 HB4 hS HCl hD
   clear f0 f1 f2 f3 f4 f5 f6 f7 f8
 case' B =>
   have hB1 : Below W.heap.size W (W.drew.alloc (.cells #[.int .i64 0, .int .i64 0, .int .i64 0] 43)) := hD.alloc hD.size _
   have hB2 : Below W.heap.size W ((W.drew.alloc (.cells #[.int .i64 0, .int .i64 0, .int .i64 0] 43)).alloc (.cells #[.int .i64 0, .int .i64 0, .int .i64 0, .int .i64 0] 31)) := hB1.alloc hB1.size _
   refine ⟨_, .pointer (some ⟨W.heap.size, 0, none⟩), (W.drew.alloc (.cells #[.int .i64 0, .int .i64 0, .int .i64 0] 43)), rfl, rfl, by simp [go_sem], HCl.out _ hB1, ?_⟩
   refine z15 (by simp [go_sem]; exact rfl) ?_
   refine z29 (i := 16) (v := .pointer (some ⟨W.heap.size + 1, 0, none⟩)) (w1 := ((W.drew.alloc (.cells #[.int .i64 0, .int .i64 0, .int .i64 0] 43)).alloc (.cells #[.int .i64 0, .int .i64 0, .int .i64 0, .int .i64 0] 31))) rfl (by kernel_rfl) rfl rfl (by simp [go_sem]) (HCl.out _ hB2) (by simp [go_sem]; exact rfl) ?_
   have g5 : ((W.drew.alloc (.cells #[.int .i64 0, .int .i64 0, .int .i64 0] 43)).alloc (.cells #[.int .i64 0, .int .i64 0, .int .i64 0, .int .i64 0] 31)).heap[W.heap.size + 1]? = some (.cells #[.int .i64 0, .int .i64 0, .int .i64 0, .int .i64 0] 31) := (two_new W.drew _ _).2
   have g6 : ((W.drew.alloc (.cells #[.int .i64 0, .int .i64 0, .int .i64 0] 43)).alloc (.cells #[.int .i64 0, .int .i64 0, .int .i64 0, .int .i64 0] 31)).heap[W.heap.size]? = some (.cells #[.int .i64 0, .int .i64 0, .int .i64 0] 43) := (two_new W.drew _ _).1
   have HBx := hid (boxed hB2 g5 g6 (by omega) (by omega) op a b c n v p)
   have HB4 : Hid (Below W.heap.size W (put4 ((W.drew.alloc (.cells #[.int .i64 0, .int .i64 0, .int .i64 0] 43)).alloc (.cells #[.int .i64 0, .int .i64 0, .int .i64 0, .int .i64 0] 31)) (W.heap.size + 1) (.int .i64 op) (.int .i64 a) (.int .i64 b) (.int .i64 c))) := by
     obtain ⟨p1, p2, p3, p4, p5, p6⟩ := put4_is g5 (.int .i64 op) (.int .i64 a) (.int .i64 b) (.int .i64 c)
     exact ⟨p4.trans hB2.os, p5.trans hB2.tape, p6.trans hB2.output, by rw [p3]; exact hB2.size, fun q hq => (p2 q (by omega)).trans (hB2.block q hq)⟩
   refine z40 (i := 18) rfl (w1 := put4 ((W.drew.alloc (.cells #[.int .i64 0, .int .i64 0, .int .i64 0] 43)).alloc (.cells #[.int .i64 0, .int .i64 0, .int .i64 0, .int .i64 0] 31)) (W.heap.size + 1) (.int .i64 op) (.int .i64 a) (.int .i64 b) (.int .i64 c)) rfl (by kernel_rfl) rfl rfl (by simp [go_sem, put4]) (HCl.out _ HB4.out) ?_
   refine z40 (i := 19) rfl (w1 := put3 (put4 ((W.drew.alloc (.cells #[.int .i64 0, .int .i64 0, .int .i64 0] 43)).alloc (.cells #[.int .i64 0, .int .i64 0, .int .i64 0, .int .i64 0] 31)) (W.heap.size + 1) (.int .i64 op) (.int .i64 a) (.int .i64 b) (.int .i64 c)) (W.heap.size) (.int .i64 n) (.int .i64 v) (.int .i64 p)) rfl (by kernel_rfl) rfl rfl (by simp [go_sem, put4, put3]) (HCl.out _ HBx.out.bel) ?_
   refine z29 (i := 20) (v := .int .i64 ((k : Int) + 1)) (w1 := put3 (put4 ((W.drew.alloc (.cells #[.int .i64 0, .int .i64 0, .int .i64 0] 43)).alloc (.cells #[.int .i64 0, .int .i64 0, .int .i64 0, .int .i64 0] 31)) (W.heap.size + 1) (.int .i64 op) (.int .i64 a) (.int .i64 b) (.int .i64 c)) (W.heap.size) (.int .i64 n) (.int .i64 v) (.int .i64 p)) rfl (by kernel_rfl) rfl rfl (by simp [go_sem]) (HCl.out _ HBx.out.bel) (by simp [go_sem]; exact rfl) ?_
   refine z32 (by kernel_rfl) ?_
   obtain ⟨X, hX⟩ : ∃ X, put3 (put4 ((W.drew.alloc (.cells #[.int .i64 0, .int .i64 0, .int .i64 0] 43)).alloc (.cells #[.int .i64 0, .int .i64 0, .int .i64 0, .int .i64 0] 31)) (W.heap.size + 1) (.int .i64 op) (.int .i64 a) (.int .i64 b) (.int .i64 c)) (W.heap.size) (.int .i64 n) (.int .i64 v) (.int .i64 p) = X := ⟨_, rfl⟩
   rw [hX] at HBx ⊢
   obtain ⟨b5, hb5⟩ : ∃ x, W.heap.size + 1 = x := ⟨_, rfl⟩
   obtain ⟨b6, hb6⟩ : ∃ x, W.heap.size = x := ⟨_, rfl⟩
   rw [hb5] at HBx ⊢
   rw [hb6] at HBx ⊢
   clear hX hb5 hb6 g5 g6 hB1 hB2 HB4 hS HCl hD
   clear f0 f1 f2 f3 f4 f5 f6 f7 f8
 all_goals
   rcases HO.out with h | h | h | h | h | h | h | h | h | h | h | h
   · have HX := hid (show exitsZ is k ⟨op, a, b, c⟩ ⟨n, v, p⟩ = [((k : Int) + 1, (⟨n + 0, v + 1, p⟩ : Sq))] from by rcases h with rfl | rfl | rfl | rfl | rfl <;> simp [exitsZ, Sq.more])
     rcases h with rfl | rfl | rfl | rfl | rfl
     all_goals
       have i0 := z11 HBx.out.i 0
       have i1 := z11 HBx.out.i 1
       have i3 := z11 HBx.out.i 3
       have s0 := z11 HBx.out.s 0
       have s1 := z11 HBx.out.s 1
       have s2 := z11 HBx.out.s 2
       simp at i0 i1 i3 s0 s1 s2
       go_wp2_with fail
       refine (z42 n v p (0) (1) _ (by have := HM.out; rw [wrap64]; omega) (by have := HM.out; rw [wrap64]; omega)).mono ?_
       rintro e X2 ⟨rfl, hb2⟩
       have HB2 := hid (HBx.out.bel.trans (hb2.mono HBx.out.bel.size))
       clear hb2 i0 i1 i3 s0 s1 s2 HBx
       go_wp2_with fail
       go_ret
       rw [HX.out]
       exact exits_one HB2.out (by first | rfl | simp)
   · have HX := hid (show exitsZ is k ⟨op, a, b, c⟩ ⟨n, v, p⟩ = [((k : Int) + 1, (⟨n + 0, v + (-1), p⟩ : Sq))] from by rcases h with rfl | rfl | rfl | rfl <;> simp [exitsZ, Sq.more])
     rcases h with rfl | rfl | rfl | rfl
     all_goals
       have i0 := z11 HBx.out.i 0
       have i1 := z11 HBx.out.i 1
       have i3 := z11 HBx.out.i 3
       have s0 := z11 HBx.out.s 0
       have s1 := z11 HBx.out.s 1
       have s2 := z11 HBx.out.s 2
       simp at i0 i1 i3 s0 s1 s2
       go_wp2_with fail
       refine (z42 n v p (0) (-1) _ (by have := HM.out; rw [wrap64]; omega) (by have := HM.out; rw [wrap64]; omega)).mono ?_
       rintro e X2 ⟨rfl, hb2⟩
       have HB2 := hid (HBx.out.bel.trans (hb2.mono HBx.out.bel.size))
       clear hb2 i0 i1 i3 s0 s1 s2 HBx
       go_wp2_with fail
       go_ret
       rw [HX.out]
       exact exits_one HB2.out (by first | rfl | simp)
   · have HX := hid (show exitsZ is k ⟨op, a, b, c⟩ ⟨n, v, p⟩ = [((k : Int) + 1, (⟨n + 1, v + (-1), p⟩ : Sq))] from by subst h; simp [exitsZ, Sq.more])
     subst h
     have i0 := z11 HBx.out.i 0
     have i1 := z11 HBx.out.i 1
     have i3 := z11 HBx.out.i 3
     have s0 := z11 HBx.out.s 0
     have s1 := z11 HBx.out.s 1
     have s2 := z11 HBx.out.s 2
     simp at i0 i1 i3 s0 s1 s2
     go_wp2_with fail
     refine (z42 n v p (1) (-1) _ (by have := HM.out; rw [wrap64]; omega) (by have := HM.out; rw [wrap64]; omega)).mono ?_
     rintro e X2 ⟨rfl, hb2⟩
     have HB2 := hid (HBx.out.bel.trans (hb2.mono HBx.out.bel.size))
     clear hb2 i0 i1 i3 s0 s1 s2 HBx
     go_wp2_with fail
     go_ret
     rw [HX.out]
     exact exits_one HB2.out (by first | rfl | simp)
   · have HX := hid (show exitsZ is k ⟨op, a, b, c⟩ ⟨n, v, p⟩ = [((k : Int) + 1, (⟨n + (-1), v + 0, p⟩ : Sq))] from by subst h; simp [exitsZ, Sq.more])
     subst h
     have i0 := z11 HBx.out.i 0
     have i1 := z11 HBx.out.i 1
     have i3 := z11 HBx.out.i 3
     have s0 := z11 HBx.out.s 0
     have s1 := z11 HBx.out.s 1
     have s2 := z11 HBx.out.s 2
     simp at i0 i1 i3 s0 s1 s2
     go_wp2_with fail
     refine (z42 n v p (-1) (0) _ (by have := HM.out; rw [wrap64]; omega) (by have := HM.out; rw [wrap64]; omega)).mono ?_
     rintro e X2 ⟨rfl, hb2⟩
     have HB2 := hid (HBx.out.bel.trans (hb2.mono HBx.out.bel.size))
     clear hb2 i0 i1 i3 s0 s1 s2 HBx
     go_wp2_with fail
     go_ret
     rw [HX.out]
     exact exits_one HB2.out (by first | rfl | simp)
   · have HX := hid (show exitsZ is k ⟨op, a, b, c⟩ ⟨n, v, p⟩ = [(a, (⟨n, v, p⟩ : Sq))] from by subst h; simp [exitsZ])
     subst h
     have i0 := z11 HBx.out.i 0
     have i1 := z11 HBx.out.i 1
     have i3 := z11 HBx.out.i 3
     have s0 := z11 HBx.out.s 0
     have s1 := z11 HBx.out.s 1
     have s2 := z11 HBx.out.s 2
     simp at i0 i1 i3 s0 s1 s2
     go_wp2_with fail
     go_ret
     rw [HX.out]
     exact exits_one HBx.out.bel rfl
   · have HX := hid (show exitsZ is k ⟨op, a, b, c⟩ ⟨n, v, p⟩ = [((k : Int) + 1, (⟨n, v, p⟩ : Sq))] from by rcases h with rfl | rfl | rfl | rfl <;> simp [exitsZ])
     rcases h with rfl | rfl | rfl | rfl
     all_goals
       have i0 := z11 HBx.out.i 0
       have i1 := z11 HBx.out.i 1
       have i3 := z11 HBx.out.i 3
       have s0 := z11 HBx.out.s 0
       have s1 := z11 HBx.out.s 1
       have s2 := z11 HBx.out.s 2
       simp at i0 i1 i3 s0 s1 s2
       go_wp2_with fail
       go_ret
       rw [HX.out]
       exact exits_one HBx.out.bel rfl
   · have HX := hid (show exitsZ is k ⟨op, a, b, c⟩ ⟨n, v, p⟩ = [] from by rcases h with rfl | rfl | rfl | rfl | rfl <;> simp [exitsZ])
     rcases h with rfl | rfl | rfl | rfl | rfl
     all_goals
       have i0 := z11 HBx.out.i 0
       have i1 := z11 HBx.out.i 1
       have i3 := z11 HBx.out.i 3
       have s0 := z11 HBx.out.s 0
       have s1 := z11 HBx.out.s 1
       have s2 := z11 HBx.out.s 2
       simp at i0 i1 i3 s0 s1 s2
       go_wp2_with fail
       go_ret
       rw [HX.out]
       exact exits_none HBx.out.bel
   · have HX := hid (show exitsZ is k ⟨op, a, b, c⟩ ⟨n, v, p⟩ = [(a, (⟨n + 1, 0, 2⟩ : Sq)), ((k : Int) + 1, (⟨n + 0, v + 1, p⟩ : Sq))] from by subst h; simp [exitsZ, Sq.more])
     subst h
     have i0 := z11 HBx.out.i 0
     have i1 := z11 HBx.out.i 1
     have i3 := z11 HBx.out.i 3
     have s0 := z11 HBx.out.s 0
     have s1 := z11 HBx.out.s 1
     have s2 := z11 HBx.out.s 2
     simp at i0 i1 i3 s0 s1 s2
     go_wp2_with fail
     have HCl : Hid (∀ Z, Below X.heap.size X Z → (fun w' : World => w'.cell? ⟨b5, 1, none⟩ = some (.int .i64 a) ∧ w'.cell? ⟨b6, 0, none⟩ = some (.int .i64 n) ∧ w'.cell? ⟨b6, 1, none⟩ = some (.int .i64 v) ∧ w'.cell? ⟨b6, 2, none⟩ = some (.int .i64 p)) Z) := fun Z hZ => ⟨(hZ.cell (z28 i1)).trans i1, (hZ.cell (z28 s0)).trans s0, (hZ.cell (z28 s1)).trans s1, (hZ.cell (z28 s2)).trans s2⟩
     have HD : Hid (Below X.heap.size X X.drew) := (Below.refl _ _).drew
     have hS := HCl.out _ HD.out
     clear i0 i1 i3 s0 s1 s2
     refine z33 (S := (fun w' : World => w'.cell? ⟨b5, 1, none⟩ = some (.int .i64 a) ∧ w'.cell? ⟨b6, 0, none⟩ = some (.int .i64 n) ∧ w'.cell? ⟨b6, 1, none⟩ = some (.int .i64 v) ∧ w'.cell? ⟨b6, 2, none⟩ = some (.int .i64 p))) (by kernel_rfl) rfl rfl ?_
     refine pick_o 0 (.pointer (some ⟨b5, 1, none⟩)) hS ?_
     refine pick_o (hy := fun w' h => by simp [go_sem, h.1]) 1 (.int .i64 a) hS ?_
     refine pick_o 2 (.pointer (some ⟨b6, 0, none⟩)) hS ?_
     refine pick_o (hy := fun w' h => by simp [go_sem, h.2.1]) 3 (.int .i64 n) hS ?_
     refine z12 (i := 4) (v := .int .i64 (n + 1)) (by kernel_rfl) rfl (by kernel_rfl) (by kernel_rfl) rfl rfl (fun w' _ => by simp [go_sem]; exact (IntWalk.i64_left _).trans w2) hS (by simp [go_sem]; exact rfl) ?_
     refine pick_o 7 (.int .i64 ((k : Int) + 1)) hS ?_
     refine pick_o (hy := fun w' h => by simp [go_sem, h.2.1, h.2.2.1, h.2.2.2]) 8 (.agg #[.int .i64 n, .int .i64 v, .int .i64 p]) hS ?_
     refine z27 (i := 5) (f := 67) (args := #[.int .i64 (n + 1)]) rfl (by kernel_rfl) rfl rfl (by simp [go_sem]) ?_
     refine (z43 (n + 1) _).mono ?_
     rintro e X1 ⟨rfl, hbx⟩
     have HX1 := hid (HD.out.trans (hbx.mono HD.out.size))
     clear hbx hS
     have hS := HCl.out _ HX1.out
     refine ⟨_, rfl, hS, ?_⟩
     refine z15 (by simp [go_sem]; exact rfl) ?_
     refine pick_o 6 (.agg #[.int .i64 a, .int .i64 (n + 1), .int .i64 0, .int .i64 2]) hS ?_
     refine z27 (i := 9) (f := 66) (args := #[.agg #[.int .i64 n, .int .i64 v, .int .i64 p], .int .i64 0, .int .i64 1]) rfl (by kernel_rfl) rfl rfl (by simp [go_sem]) ?_
     refine (z42 n v p (0) (1) _ (by have := HM.out; rw [wrap64]; omega) (by have := HM.out; rw [wrap64]; omega)).mono ?_
     rintro e X2 ⟨rfl, hbx⟩
     have HX2 := hid (HX1.out.trans (hbx.mono HX1.out.size))
     clear hbx hS
     have hS := HCl.out _ HX2.out
     refine ⟨_, rfl, hS, ?_⟩
     refine z15 (by simp [go_sem]; exact rfl) ?_
     refine pick_o 10 (.agg #[.int .i64 ((k : Int) + 1), .int .i64 (n + 0), .int .i64 (v + 1), .int .i64 p]) hS ?_
     have HA3 : Hid (Below X.heap.size X (X2.alloc (.cells #[.int .i64 a, .int .i64 (n + 1), .int .i64 0, .int .i64 2, .int .i64 ((k : Int) + 1), .int .i64 (n + 0), .int .i64 (v + 1), .int .i64 p] 67))) := HX2.out.alloc HX2.out.size _
     refine z29 (i := 11) (v := .slice (some ⟨X2.heap.size, 0, none⟩) 2 2) (w1 := X2.alloc (.cells #[.int .i64 a, .int .i64 (n + 1), .int .i64 0, .int .i64 2, .int .i64 ((k : Int) + 1), .int .i64 (n + 0), .int .i64 (v + 1), .int .i64 p] 67)) rfl (by kernel_rfl) rfl rfl (by simp [go_sem]) (HCl.out _ HA3.out) (by simp [go_sem]; exact rfl) ?_
     refine z29 (i := 12) (v := .slice (some ⟨X2.heap.size, 0, none⟩) 2 2) (w1 := X2.alloc (.cells #[.int .i64 a, .int .i64 (n + 1), .int .i64 0, .int .i64 2, .int .i64 ((k : Int) + 1), .int .i64 (n + 0), .int .i64 (v + 1), .int .i64 p] 67)) rfl (by kernel_rfl) rfl rfl (by simp [go_sem]) (HCl.out _ HA3.out) (by simp [go_sem]; exact rfl) ?_
     refine z32 (by kernel_rfl) ?_
     have HE := hid (exits_two (W := W) (X := X2) (t := a) (n := (n + 1)) (v := 0) (p := 2) (t' := ((k : Int) + 1)) (n' := (n + 0)) (v' := (v + 1)) (p' := p) (HBx.out.bel.trans (HX2.out.mono HBx.out.bel.size)) rfl rfl)
     obtain ⟨X3, hX3⟩ : ∃ X3, X2.alloc (.cells #[.int .i64 a, .int .i64 (n + 1), .int .i64 0, .int .i64 2, .int .i64 ((k : Int) + 1), .int .i64 (n + 0), .int .i64 (v + 1), .int .i64 p] 67) = X3 := ⟨_, rfl⟩
     rw [hX3] at HE ⊢
     clear hX3 hS HA3
     go_wp2_with fail
     go_ret
     rw [HX.out]
     exact HE.out
   · have HX := hid (show exitsZ is k ⟨op, a, b, c⟩ ⟨n, v, p⟩ = [(a, (⟨n + 2, 0, 2⟩ : Sq)), ((k : Int) + 1, (⟨n + 0, v + 1, p⟩ : Sq))] from by subst h; simp [exitsZ, Sq.more])
     subst h
     have i0 := z11 HBx.out.i 0
     have i1 := z11 HBx.out.i 1
     have i3 := z11 HBx.out.i 3
     have s0 := z11 HBx.out.s 0
     have s1 := z11 HBx.out.s 1
     have s2 := z11 HBx.out.s 2
     simp at i0 i1 i3 s0 s1 s2
     go_wp2_with fail
     have HCl : Hid (∀ Z, Below X.heap.size X Z → (fun w' : World => w'.cell? ⟨b5, 1, none⟩ = some (.int .i64 a) ∧ w'.cell? ⟨b6, 0, none⟩ = some (.int .i64 n) ∧ w'.cell? ⟨b6, 1, none⟩ = some (.int .i64 v) ∧ w'.cell? ⟨b6, 2, none⟩ = some (.int .i64 p)) Z) := fun Z hZ => ⟨(hZ.cell (z28 i1)).trans i1, (hZ.cell (z28 s0)).trans s0, (hZ.cell (z28 s1)).trans s1, (hZ.cell (z28 s2)).trans s2⟩
     have HD : Hid (Below X.heap.size X X.drew) := (Below.refl _ _).drew
     have hS := HCl.out _ HD.out
     clear i0 i1 i3 s0 s1 s2
     refine z33 (S := (fun w' : World => w'.cell? ⟨b5, 1, none⟩ = some (.int .i64 a) ∧ w'.cell? ⟨b6, 0, none⟩ = some (.int .i64 n) ∧ w'.cell? ⟨b6, 1, none⟩ = some (.int .i64 v) ∧ w'.cell? ⟨b6, 2, none⟩ = some (.int .i64 p))) (by kernel_rfl) rfl rfl ?_
     refine pick_o 0 (.pointer (some ⟨b5, 1, none⟩)) hS ?_
     refine pick_o (hy := fun w' h => by simp [go_sem, h.1]) 1 (.int .i64 a) hS ?_
     refine pick_o 2 (.pointer (some ⟨b6, 0, none⟩)) hS ?_
     refine pick_o (hy := fun w' h => by simp [go_sem, h.2.1]) 3 (.int .i64 n) hS ?_
     refine z12 (i := 4) (v := .int .i64 (n + 2)) (by kernel_rfl) rfl (by kernel_rfl) (by kernel_rfl) rfl rfl (fun w' _ => by simp [go_sem]; exact (IntWalk.i64_left _).trans w3) hS (by simp [go_sem]; exact rfl) ?_
     refine pick_o 7 (.int .i64 ((k : Int) + 1)) hS ?_
     refine pick_o (hy := fun w' h => by simp [go_sem, h.2.1, h.2.2.1, h.2.2.2]) 8 (.agg #[.int .i64 n, .int .i64 v, .int .i64 p]) hS ?_
     refine z27 (i := 5) (f := 67) (args := #[.int .i64 (n + 2)]) rfl (by kernel_rfl) rfl rfl (by simp [go_sem]) ?_
     refine (z43 (n + 2) _).mono ?_
     rintro e X1 ⟨rfl, hbx⟩
     have HX1 := hid (HD.out.trans (hbx.mono HD.out.size))
     clear hbx hS
     have hS := HCl.out _ HX1.out
     refine ⟨_, rfl, hS, ?_⟩
     refine z15 (by simp [go_sem]; exact rfl) ?_
     refine pick_o 6 (.agg #[.int .i64 a, .int .i64 (n + 2), .int .i64 0, .int .i64 2]) hS ?_
     refine z27 (i := 9) (f := 66) (args := #[.agg #[.int .i64 n, .int .i64 v, .int .i64 p], .int .i64 0, .int .i64 1]) rfl (by kernel_rfl) rfl rfl (by simp [go_sem]) ?_
     refine (z42 n v p (0) (1) _ (by have := HM.out; rw [wrap64]; omega) (by have := HM.out; rw [wrap64]; omega)).mono ?_
     rintro e X2 ⟨rfl, hbx⟩
     have HX2 := hid (HX1.out.trans (hbx.mono HX1.out.size))
     clear hbx hS
     have hS := HCl.out _ HX2.out
     refine ⟨_, rfl, hS, ?_⟩
     refine z15 (by simp [go_sem]; exact rfl) ?_
     refine pick_o 10 (.agg #[.int .i64 ((k : Int) + 1), .int .i64 (n + 0), .int .i64 (v + 1), .int .i64 p]) hS ?_
     have HA3 : Hid (Below X.heap.size X (X2.alloc (.cells #[.int .i64 a, .int .i64 (n + 2), .int .i64 0, .int .i64 2, .int .i64 ((k : Int) + 1), .int .i64 (n + 0), .int .i64 (v + 1), .int .i64 p] 67))) := HX2.out.alloc HX2.out.size _
     refine z29 (i := 11) (v := .slice (some ⟨X2.heap.size, 0, none⟩) 2 2) (w1 := X2.alloc (.cells #[.int .i64 a, .int .i64 (n + 2), .int .i64 0, .int .i64 2, .int .i64 ((k : Int) + 1), .int .i64 (n + 0), .int .i64 (v + 1), .int .i64 p] 67)) rfl (by kernel_rfl) rfl rfl (by simp [go_sem]) (HCl.out _ HA3.out) (by simp [go_sem]; exact rfl) ?_
     refine z29 (i := 12) (v := .slice (some ⟨X2.heap.size, 0, none⟩) 2 2) (w1 := X2.alloc (.cells #[.int .i64 a, .int .i64 (n + 2), .int .i64 0, .int .i64 2, .int .i64 ((k : Int) + 1), .int .i64 (n + 0), .int .i64 (v + 1), .int .i64 p] 67)) rfl (by kernel_rfl) rfl rfl (by simp [go_sem]) (HCl.out _ HA3.out) (by simp [go_sem]; exact rfl) ?_
     refine z32 (by kernel_rfl) ?_
     have HE := hid (exits_two (W := W) (X := X2) (t := a) (n := (n + 2)) (v := 0) (p := 2) (t' := ((k : Int) + 1)) (n' := (n + 0)) (v' := (v + 1)) (p' := p) (HBx.out.bel.trans (HX2.out.mono HBx.out.bel.size)) rfl rfl)
     obtain ⟨X3, hX3⟩ : ∃ X3, X2.alloc (.cells #[.int .i64 a, .int .i64 (n + 2), .int .i64 0, .int .i64 2, .int .i64 ((k : Int) + 1), .int .i64 (n + 0), .int .i64 (v + 1), .int .i64 p] 67) = X3 := ⟨_, rfl⟩
     rw [hX3] at HE ⊢
     clear hX3 hS HA3
     go_wp2_with fail
     go_ret
     rw [HX.out]
     exact HE.out
   · have HX := hid (show exitsZ is k ⟨op, a, b, c⟩ ⟨n, v, p⟩ = [(a, (⟨n + 0, v + (-1), p⟩ : Sq)), ((k : Int) + 1, (⟨n + 0, v + (-1), p⟩ : Sq))] from by subst h; simp [exitsZ, Sq.more])
     subst h
     have i0 := z11 HBx.out.i 0
     have i1 := z11 HBx.out.i 1
     have i3 := z11 HBx.out.i 3
     have s0 := z11 HBx.out.s 0
     have s1 := z11 HBx.out.s 1
     have s2 := z11 HBx.out.s 2
     simp at i0 i1 i3 s0 s1 s2
     go_wp2_with fail
     have HCl : Hid (∀ Z, Below X.heap.size X Z → (fun w' : World => w'.cell? ⟨b5, 1, none⟩ = some (.int .i64 a) ∧ w'.cell? ⟨b6, 0, none⟩ = some (.int .i64 n) ∧ w'.cell? ⟨b6, 1, none⟩ = some (.int .i64 v) ∧ w'.cell? ⟨b6, 2, none⟩ = some (.int .i64 p)) Z) := fun Z hZ => ⟨(hZ.cell (z28 i1)).trans i1, (hZ.cell (z28 s0)).trans s0, (hZ.cell (z28 s1)).trans s1, (hZ.cell (z28 s2)).trans s2⟩
     have HD : Hid (Below X.heap.size X X.drew) := (Below.refl _ _).drew
     have hS := HCl.out _ HD.out
     clear i0 i1 i3 s0 s1 s2
     refine z33 (S := (fun w' : World => w'.cell? ⟨b5, 1, none⟩ = some (.int .i64 a) ∧ w'.cell? ⟨b6, 0, none⟩ = some (.int .i64 n) ∧ w'.cell? ⟨b6, 1, none⟩ = some (.int .i64 v) ∧ w'.cell? ⟨b6, 2, none⟩ = some (.int .i64 p))) (by kernel_rfl) rfl rfl ?_
     refine pick_o 0 (.pointer (some ⟨b5, 1, none⟩)) hS ?_
     refine pick_o (hy := fun w' h => by simp [go_sem, h.1]) 1 (.int .i64 a) hS ?_
     refine pick_o (hy := fun w' h => by simp [go_sem, h.2.1, h.2.2.1, h.2.2.2]) 2 (.agg #[.int .i64 n, .int .i64 v, .int .i64 p]) hS ?_
     refine pick_o 5 (.int .i64 ((k : Int) + 1)) hS ?_
     refine pick_o (hy := fun w' h => by simp [go_sem, h.2.1, h.2.2.1, h.2.2.2]) 6 (.agg #[.int .i64 n, .int .i64 v, .int .i64 p]) hS ?_
     refine z27 (i := 3) (f := 66) (args := #[.agg #[.int .i64 n, .int .i64 v, .int .i64 p], .int .i64 0, .int .i64 (-1)]) rfl (by kernel_rfl) rfl rfl (by simp [go_sem]) ?_
     refine (z42 n v p (0) (-1) _ (by have := HM.out; rw [wrap64]; omega) (by have := HM.out; rw [wrap64]; omega)).mono ?_
     rintro e X1 ⟨rfl, hbx⟩
     have HX1 := hid (HD.out.trans (hbx.mono HD.out.size))
     clear hbx hS
     have hS := HCl.out _ HX1.out
     refine ⟨_, rfl, hS, ?_⟩
     refine z15 (by simp [go_sem]; exact rfl) ?_
     refine pick_o 4 (.agg #[.int .i64 a, .int .i64 (n + 0), .int .i64 (v + (-1)), .int .i64 p]) hS ?_
     refine z27 (i := 7) (f := 66) (args := #[.agg #[.int .i64 n, .int .i64 v, .int .i64 p], .int .i64 0, .int .i64 (-1)]) rfl (by kernel_rfl) rfl rfl (by simp [go_sem]) ?_
     refine (z42 n v p (0) (-1) _ (by have := HM.out; rw [wrap64]; omega) (by have := HM.out; rw [wrap64]; omega)).mono ?_
     rintro e X2 ⟨rfl, hbx⟩
     have HX2 := hid (HX1.out.trans (hbx.mono HX1.out.size))
     clear hbx hS
     have hS := HCl.out _ HX2.out
     refine ⟨_, rfl, hS, ?_⟩
     refine z15 (by simp [go_sem]; exact rfl) ?_
     refine pick_o 8 (.agg #[.int .i64 ((k : Int) + 1), .int .i64 (n + 0), .int .i64 (v + (-1)), .int .i64 p]) hS ?_
     have HA3 : Hid (Below X.heap.size X (X2.alloc (.cells #[.int .i64 a, .int .i64 (n + 0), .int .i64 (v + (-1)), .int .i64 p, .int .i64 ((k : Int) + 1), .int .i64 (n + 0), .int .i64 (v + (-1)), .int .i64 p] 67))) := HX2.out.alloc HX2.out.size _
     refine z29 (i := 9) (v := .slice (some ⟨X2.heap.size, 0, none⟩) 2 2) (w1 := X2.alloc (.cells #[.int .i64 a, .int .i64 (n + 0), .int .i64 (v + (-1)), .int .i64 p, .int .i64 ((k : Int) + 1), .int .i64 (n + 0), .int .i64 (v + (-1)), .int .i64 p] 67)) rfl (by kernel_rfl) rfl rfl (by simp [go_sem]) (HCl.out _ HA3.out) (by simp [go_sem]; exact rfl) ?_
     refine z29 (i := 10) (v := .slice (some ⟨X2.heap.size, 0, none⟩) 2 2) (w1 := X2.alloc (.cells #[.int .i64 a, .int .i64 (n + 0), .int .i64 (v + (-1)), .int .i64 p, .int .i64 ((k : Int) + 1), .int .i64 (n + 0), .int .i64 (v + (-1)), .int .i64 p] 67)) rfl (by kernel_rfl) rfl rfl (by simp [go_sem]) (HCl.out _ HA3.out) (by simp [go_sem]; exact rfl) ?_
     refine z32 (by kernel_rfl) ?_
     have HE := hid (exits_two (W := W) (X := X2) (t := a) (n := (n + 0)) (v := (v + (-1))) (p := p) (t' := ((k : Int) + 1)) (n' := (n + 0)) (v' := (v + (-1))) (p' := p) (HBx.out.bel.trans (HX2.out.mono HBx.out.bel.size)) rfl rfl)
     obtain ⟨X3, hX3⟩ : ∃ X3, X2.alloc (.cells #[.int .i64 a, .int .i64 (n + 0), .int .i64 (v + (-1)), .int .i64 p, .int .i64 ((k : Int) + 1), .int .i64 (n + 0), .int .i64 (v + (-1)), .int .i64 p] 67) = X3 := ⟨_, rfl⟩
     rw [hX3] at HE ⊢
     clear hX3 hS HA3
     go_wp2_with fail
     go_ret
     rw [HX.out]
     exact HE.out
   · have HX := hid (show exitsZ is k ⟨op, a, b, c⟩ ⟨n, v, p⟩ = [(a, (⟨n + 0, v + (-1), p⟩ : Sq)), ((k : Int) + 1, (⟨n + 2, v + (-1), p⟩ : Sq))] from by subst h; simp [exitsZ, Sq.more])
     subst h
     have i0 := z11 HBx.out.i 0
     have i1 := z11 HBx.out.i 1
     have i3 := z11 HBx.out.i 3
     have s0 := z11 HBx.out.s 0
     have s1 := z11 HBx.out.s 1
     have s2 := z11 HBx.out.s 2
     simp at i0 i1 i3 s0 s1 s2
     go_wp2_with fail
     have HCl : Hid (∀ Z, Below X.heap.size X Z → (fun w' : World => w'.cell? ⟨b5, 1, none⟩ = some (.int .i64 a) ∧ w'.cell? ⟨b6, 0, none⟩ = some (.int .i64 n) ∧ w'.cell? ⟨b6, 1, none⟩ = some (.int .i64 v) ∧ w'.cell? ⟨b6, 2, none⟩ = some (.int .i64 p)) Z) := fun Z hZ => ⟨(hZ.cell (z28 i1)).trans i1, (hZ.cell (z28 s0)).trans s0, (hZ.cell (z28 s1)).trans s1, (hZ.cell (z28 s2)).trans s2⟩
     have HD : Hid (Below X.heap.size X X.drew) := (Below.refl _ _).drew
     have hS := HCl.out _ HD.out
     clear i0 i1 i3 s0 s1 s2
     refine z33 (S := (fun w' : World => w'.cell? ⟨b5, 1, none⟩ = some (.int .i64 a) ∧ w'.cell? ⟨b6, 0, none⟩ = some (.int .i64 n) ∧ w'.cell? ⟨b6, 1, none⟩ = some (.int .i64 v) ∧ w'.cell? ⟨b6, 2, none⟩ = some (.int .i64 p))) (by kernel_rfl) rfl rfl ?_
     refine pick_o 0 (.pointer (some ⟨b5, 1, none⟩)) hS ?_
     refine pick_o (hy := fun w' h => by simp [go_sem, h.1]) 1 (.int .i64 a) hS ?_
     refine pick_o (hy := fun w' h => by simp [go_sem, h.2.1, h.2.2.1, h.2.2.2]) 2 (.agg #[.int .i64 n, .int .i64 v, .int .i64 p]) hS ?_
     refine pick_o 5 (.int .i64 ((k : Int) + 1)) hS ?_
     refine pick_o (hy := fun w' h => by simp [go_sem, h.2.1, h.2.2.1, h.2.2.2]) 6 (.agg #[.int .i64 n, .int .i64 v, .int .i64 p]) hS ?_
     refine z27 (i := 3) (f := 66) (args := #[.agg #[.int .i64 n, .int .i64 v, .int .i64 p], .int .i64 0, .int .i64 (-1)]) rfl (by kernel_rfl) rfl rfl (by simp [go_sem]) ?_
     refine (z42 n v p (0) (-1) _ (by have := HM.out; rw [wrap64]; omega) (by have := HM.out; rw [wrap64]; omega)).mono ?_
     rintro e X1 ⟨rfl, hbx⟩
     have HX1 := hid (HD.out.trans (hbx.mono HD.out.size))
     clear hbx hS
     have hS := HCl.out _ HX1.out
     refine ⟨_, rfl, hS, ?_⟩
     refine z15 (by simp [go_sem]; exact rfl) ?_
     refine pick_o 4 (.agg #[.int .i64 a, .int .i64 (n + 0), .int .i64 (v + (-1)), .int .i64 p]) hS ?_
     refine z27 (i := 7) (f := 66) (args := #[.agg #[.int .i64 n, .int .i64 v, .int .i64 p], .int .i64 2, .int .i64 (-1)]) rfl (by kernel_rfl) rfl rfl (by simp [go_sem]) ?_
     refine (z42 n v p (2) (-1) _ (by have := HM.out; rw [wrap64]; omega) (by have := HM.out; rw [wrap64]; omega)).mono ?_
     rintro e X2 ⟨rfl, hbx⟩
     have HX2 := hid (HX1.out.trans (hbx.mono HX1.out.size))
     clear hbx hS
     have hS := HCl.out _ HX2.out
     refine ⟨_, rfl, hS, ?_⟩
     refine z15 (by simp [go_sem]; exact rfl) ?_
     refine pick_o 8 (.agg #[.int .i64 ((k : Int) + 1), .int .i64 (n + 2), .int .i64 (v + (-1)), .int .i64 p]) hS ?_
     have HA3 : Hid (Below X.heap.size X (X2.alloc (.cells #[.int .i64 a, .int .i64 (n + 0), .int .i64 (v + (-1)), .int .i64 p, .int .i64 ((k : Int) + 1), .int .i64 (n + 2), .int .i64 (v + (-1)), .int .i64 p] 67))) := HX2.out.alloc HX2.out.size _
     refine z29 (i := 9) (v := .slice (some ⟨X2.heap.size, 0, none⟩) 2 2) (w1 := X2.alloc (.cells #[.int .i64 a, .int .i64 (n + 0), .int .i64 (v + (-1)), .int .i64 p, .int .i64 ((k : Int) + 1), .int .i64 (n + 2), .int .i64 (v + (-1)), .int .i64 p] 67)) rfl (by kernel_rfl) rfl rfl (by simp [go_sem]) (HCl.out _ HA3.out) (by simp [go_sem]; exact rfl) ?_
     refine z29 (i := 10) (v := .slice (some ⟨X2.heap.size, 0, none⟩) 2 2) (w1 := X2.alloc (.cells #[.int .i64 a, .int .i64 (n + 0), .int .i64 (v + (-1)), .int .i64 p, .int .i64 ((k : Int) + 1), .int .i64 (n + 2), .int .i64 (v + (-1)), .int .i64 p] 67)) rfl (by kernel_rfl) rfl rfl (by simp [go_sem]) (HCl.out _ HA3.out) (by simp [go_sem]; exact rfl) ?_
     refine z32 (by kernel_rfl) ?_
     have HE := hid (exits_two (W := W) (X := X2) (t := a) (n := (n + 0)) (v := (v + (-1))) (p := p) (t' := ((k : Int) + 1)) (n' := (n + 2)) (v' := (v + (-1))) (p' := p) (HBx.out.bel.trans (HX2.out.mono HBx.out.bel.size)) rfl rfl)
     obtain ⟨X3, hX3⟩ : ∃ X3, X2.alloc (.cells #[.int .i64 a, .int .i64 (n + 0), .int .i64 (v + (-1)), .int .i64 p, .int .i64 ((k : Int) + 1), .int .i64 (n + 2), .int .i64 (v + (-1)), .int .i64 p] 67) = X3 := ⟨_, rfl⟩
     rw [hX3] at HE ⊢
     clear hX3 hS HA3
     go_wp2_with fail
     go_ret
     rw [HX.out]
     exact HE.out
   · subst h
     have i0 := z11 HBx.out.i 0
     have i1 := z11 HBx.out.i 1
     have i3 := z11 HBx.out.i 3
     have s0 := z11 HBx.out.s 0
     have s1 := z11 HBx.out.s 1
     have s2 := z11 HBx.out.s 2
     simp at i0 i1 i3 s0 s1 s2
     go_wp2_with fail
     refine (HH.out X (by trivial) HBx.out.bel).mono ?_
     rintro e X2 hh
     have HHe := hid hh
     clear hh
     obtain ⟨hb2, ad, cp, rfl, hor⟩ := HHe.out
     clear hor hb2
     go_wp2_with fail
     go_ret
     exact ⟨HBx.out.bel.trans (HHe.out.1.mono HBx.out.bel.size), HHe.out.2⟩
end
section
open Go.RowKit Go.Conc
theorem okI_op {i : In} (hi : i.ok = true) : 0 ≤ i.op ∧ i.op ≤ 25 := by
 unfold In.ok insOkZ at hi
 split at hi
 · cases hi
 · rename_i hn
   have h0 : ¬ manyZ i.op < 0 := fun e => hn (Or.inl e)
   unfold manyZ at h0
   repeat' split at h0
   all_goals omega
theorem exits_calls {W0 W : World} {Fb bc oc cc gs ch : Nat} {is : List In} {T : List Sq} {wk : List Nat} {d : Int} {closed : Bool} (h : Fl W0 Fb (.slice (some ⟨bc, oc, none⟩) is.length cc) gs ch is.length T wk d closed W) (hC : CodeAt W0 bc oc cc is) (k : Nat) (hk : k < is.length) (hp : 1 ≤ (tg T k).p) (hn : needsZ is (is.getD k default) (tg T k) = true) :
   Calls Tryz.prog 36 #[.pointer (some ⟨Fb, 0, none⟩), .int .i64 (k : Int)] W (ExitsP (exitsZ is k (is.getD k default) (tg T k)) W) := by
 obtain ⟨hbc, hin, hcc, hN, hall⟩ := hC
 have hinW := hin.below h.bel hbc
 have hok := z41 hall hk
 have f0 := z11 h.blk 0
 have f1 := z11 h.blk 1
 simp at f0 f1
 have f2 := hinW k hk 0 (by omega)
 have f3 := hinW k hk 1 (by omega)
 have f4 := hinW k hk 2 (by omega)
 have f5 := hinW k hk 3 (by omega)
 obtain ⟨f6, f7, f8, -, -, -⟩ := h.cells hk
 have hs := h.sane _ (tgF_mem (show k < T.length by rw [h.len]; exact hk))
 obtain ⟨⟨op, a, b, c⟩, hi⟩ : ∃ i, is.getD k default = i := ⟨_, rfl⟩
 obtain ⟨⟨n, v, p⟩, hx⟩ : ∃ s, tg T k = s := ⟨_, rfl⟩
 rw [hi] at f2 f3 f4 f5 hok hn ⊢
 rw [hx] at f6 f7 f8 hp hs hn ⊢
 simp only [In.cell, Nat.add_zero] at f2 f3 f4 f5
 unfold SaneS at hs
 dsimp only at f6 f7 f8 hp hs
 have hb : 0 ≤ n ∧ n ≤ 100 ∧ 0 ≤ v ∧ v ≤ 100 := by rcases hs with hs | hs <;> omega
 have ho := okI_op hok
 dsimp only at ho
 have k0 : (0 : Int) ≤ (k : Int) := by omega
 have k1 : (k : Int) < (is.length : Int) := by omega
 have k5 : k ≤ 1500 := by omega
 rcases ops_cases op with hz | hz
 · omega
 refine exits_any k0 k1 k5 hb.1 hb.2.1 hb.2.2.1 hb.2.2.2 f0 f1 f2 f3 f4 f5 f6 f7 f8 (fun X hop hX => ?_) (by rcases hz with rfl | rfl | rfl | rfl | rfl | rfl | rfl | rfl | rfl | rfl | rfl | rfl | rfl | rfl | rfl | rfl | rfl | rfl | rfl | rfl | rfl | rfl | rfl | rfl | rfl | rfl <;> simp)
 subst hop
 have ht : tableZ is a = true := by simpa [needsZ] using hn
 have hnum := ok_nums hok (by dsimp only; decide) (by dsimp only; decide) (by dsimp only; decide)
 have e : exitsZ is k ⟨21, a, b, c⟩ ⟨n, v, p⟩ = handleZ is k ⟨21, a, b, c⟩ ⟨n, v, p⟩ := by simp [exitsZ]
 rw [e]
 have g : ∀ {q : Addr} {u : Value}, W.cell? q = some u → X.cell? q = some u := fun {q u} hq => (hX.cell (z28 hq)).trans hq
 exact handleI_calls k0 k1 k5 hb.1 hb.2.1 hb.2.2.1 hb.2.2.2 (g f0) (g f1) (g f2) (g f3) (g f4) (g f5) (g f6) (g f7) (g f8) rfl (hinW.below hX (Nat.lt_of_lt_of_le hbc h.bel.size)) hcc hN hall ht hnum.1
def stepI (is : List In) (T : List Sq) (wk : List Nat) (k : Nat) : Option (List Sq × List Nat) := if needsZ is (is.getD k default) (tg T k) = true then comesZ is.length T wk (exitsZ is k (is.getD k default) (tg T k)) else none
def FollowP (W0 : World) (Fb : Nat) (vc : Value) (gs ch N : Nat) (d : Int) (r : Option (List Sq × List Nat)) (e : Ending) (W' : World) : Prop :=
 Below W0.heap.size W0 W' ∧ (r = none → IsBad e) ∧ ∀ x, r = some x → e = .returned .nilIface ∧ Fl W0 Fb vc gs ch N x.1 x.2 d false W'
theorem comes_take (N : Nat) : ∀ (es : List (Int × Sq)) (T : List Sq) (w : List Nat) (j : Nat), j < es.length → comesZ N T w (es.take (j + 1)) = (comesZ N T w (es.take j)).bind fun x => comeZ N x.1 x.2 (es.getD j (0, ⟨0, 0, 0⟩))
 | [], _, _, _, h => absurd h (by simp)
 | e :: r, T, w, 0, _ => by
   simp only [List.take_succ_cons, List.take_zero, comesZ, Option.bind_some]
   show _ = comeZ N T w e
   cases comeZ N T w e with
   | none => rfl
   | some x => rfl
 | e :: r, T, w, j + 1, h => by
   have ih := fun T w => comes_take N r T w j (by simpa using h)
   simp only [List.take_succ_cons, comesZ]
   cases hc : comeZ N T w e with
   | none => rfl
   | some x => exact ih x.1 x.2
theorem exits_len (is : List In) (k : Nat) (i : In) (s : Sq) : (exitsZ is k i s).length ≤ is.length + 3 := by
 have hc : (clausesZ is i.a).length ≤ is.length := by
   unfold clausesZ
   rw [List.length_take, List.length_drop]
   omega
 unfold exitsZ
 repeat' split
 all_goals (try unfold handleZ)
 all_goals simp only [List.length_cons, List.length_nil, List.length_append, List.length_map]
 all_goals omega
theorem comes_none (N : Nat) : ∀ (es : List (Int × Sq)) (T : List Sq) (w : List Nat) (j : Nat), comesZ N T w (es.take j) = none → comesZ N T w es = none
 | [], T, w, j, h => by
   simp only [List.take_nil, comesZ] at h
   cases h
 | e :: r, T, w, 0, h => by
   simp only [List.take_zero, comesZ] at h
   cases h
 | e :: r, T, w, j + 1, h => by
   simp only [List.take_succ_cons, comesZ] at h ⊢
   cases hc : comeZ N T w e with
   | none => rfl
   | some x =>
     rw [hc] at h
     exact comes_none N r x.1 x.2 j h
set_option maxRecDepth 100000 in
set_option maxHeartbeats 8000000 in
theorem follow_calls {W0 W : World} {Fb bc oc cc gs ch : Nat} {is : List In} {T : List Sq} {wk : List Nat} {d : Int} (h : Fl W0 Fb (.slice (some ⟨bc, oc, none⟩) is.length cc) gs ch is.length T wk d false W) (hC : CodeAt W0 bc oc cc is) (k : Nat) (hk : k < is.length) (hp : 1 ≤ (tg T k).p) :
   Calls Tryz.prog 19 #[.pointer (some ⟨Fb, 0, none⟩), .int .i64 (k : Int)] W (FollowP W0 Fb (.slice (some ⟨bc, oc, none⟩) is.length cc) gs ch is.length d (stepI is T wk k)) := by
 obtain ⟨hbc, hin, hcc, hN, hall⟩ := id hC
 have hinW := hin.below h.bel hbc
 have hok := z41 hall hk
 have f0 := z11 h.blk 0
 have f1 := z11 h.blk 1
 simp at f0 f1
 have f2 := hinW k hk 0 (by omega)
 have f3 := hinW k hk 1 (by omega)
 have f4 := hinW k hk 2 (by omega)
 have f5 := hinW k hk 3 (by omega)
 obtain ⟨f6, f7, f8, -, -, -⟩ := h.cells hk
 have hs := h.sane _ (tgF_mem (show k < T.length by rw [h.len]; exact hk))
 have hbcW : bc < W.heap.size := Nat.lt_of_lt_of_le hbc h.bel.size
 have HNd := hid (fun (X : World) (hX : Below W.heap.size W X) => needs_calls (Fb := Fb) ((hX.cell (z28 f0)).trans f0) (hinW.below hX hbcW) (Nat.lt_of_lt_of_le hbcW hX.size) hcc hN hall (is.getD k default) hok (tg T k))
 have HEx := hid (fun (X : World) (hX : Below W.heap.size W X) hn => exits_calls (h.below hX) hC k hk hp hn)
 have HH := hid h
 have HC := hid hC
 have HSt : Hid (∀ es, exitsZ is k (is.getD k default) (tg T k) = es → needsZ is (is.getD k default) (tg T k) = true → (∀ e ∈ es, 1 ≤ e.2.p ∧ e.2.p ≤ 3 ∧ 0 ≤ e.1 ∧ 0 ≤ e.2.n ∧ 0 ≤ e.2.v)) := fun es he hn => by
   subst he
   have hs' := hs
   unfold SaneS at hs'
   exact exits_right hall hk (by rcases hs' with h1 | h1 <;> omega) (by rcases hs' with h1 | h1 <;> omega) ⟨hp, by rcases hs' with h1 | h1 <;> omega⟩ hn
 obtain ⟨⟨op, a, b, c⟩, hi⟩ : ∃ i, is.getD k default = i := ⟨_, rfl⟩
 obtain ⟨⟨n, v, p⟩, hx⟩ : ∃ s, tg T k = s := ⟨_, rfl⟩
 have HSI : Hid (stepI is T wk k = if needsZ is ⟨op, a, b, c⟩ ⟨n, v, p⟩ = true then comesZ is.length T wk (exitsZ is k ⟨op, a, b, c⟩ ⟨n, v, p⟩) else none) := by
   show _ = _
   unfold stepI
   rw [hi, hx]
 rw [hi] at f2 f3 f4 f5 HNd HEx HSt
 rw [hx] at f6 f7 f8 HNd HEx HSt
 simp only [In.cell, Nat.add_zero] at f2 f3 f4 f5
 dsimp only at f6 f7 f8 HNd
 obtain ⟨nd, hnd⟩ : ∃ nd, needsZ is ⟨op, a, b, c⟩ ⟨n, v, p⟩ = nd := ⟨_, rfl⟩
 obtain ⟨es, hes⟩ : ∃ es, exitsZ is k ⟨op, a, b, c⟩ ⟨n, v, p⟩ = es := ⟨_, rfl⟩
 have HEr := hid (HSt.out es hes)
 have HLn : Hid (es.length ≤ 2000) := by
   show _ ≤ _
   rw [← hes]
   have := exits_len is k ⟨op, a, b, c⟩ ⟨n, v, p⟩
   omega
 rw [hnd, hes] at HSI
 rw [hnd] at HNd HEr
 simp only [hes, hnd] at HEx
 have k0 : (0 : Int) ≤ (k : Int) := by omega
 have k1 : (k : Int) < (is.length : Int) := by omega
 have q0 : ∀ y : Later W.heap.size W, y.w.cell? ⟨Fb, 0, none⟩ = _ := fun y => y.cell (z28 f0) f0
 have q1 : ∀ y : Later W.heap.size W, y.w.cell? ⟨Fb, 1, none⟩ = _ := fun y => y.cell (z28 f1) f1
 have q2 : ∀ y : Later W.heap.size W, y.w.cell? ⟨bc, oc + k * 4, none⟩ = _ := fun y => y.cell (z28 f2) f2
 have q3 : ∀ y : Later W.heap.size W, y.w.cell? ⟨bc, oc + k * 4 + 1, none⟩ = _ := fun y => y.cell (z28 f3) f3
 have q4 : ∀ y : Later W.heap.size W, y.w.cell? ⟨bc, oc + k * 4 + 2, none⟩ = _ := fun y => y.cell (z28 f4) f4
 have q5 : ∀ y : Later W.heap.size W, y.w.cell? ⟨bc, oc + k * 4 + 3, none⟩ = _ := fun y => y.cell (z28 f5) f5
 have q6 : ∀ y : Later W.heap.size W, y.w.cell? ⟨gs, k * 3, none⟩ = _ := fun y => y.cell (z28 f6) f6
 have q7 : ∀ y : Later W.heap.size W, y.w.cell? ⟨gs, k * 3 + 1, none⟩ = _ := fun y => y.cell (z28 f7) f7
 have q8 : ∀ y : Later W.heap.size W, y.w.cell? ⟨gs, k * 3 + 2, none⟩ = _ := fun y => y.cell (z28 f8) f8
 clear h hC hbc hin hcc hN hall hinW hok f0 f1 f2 f3 f4 f5 f6 f7 f8 hs hbcW hi hx hnd hes HSt hk hp
 go_enter Tryz.func19, Tryz.ntmps19
 go_wp2_with fail
 refine z30 W.heap.size (by kernel_rfl) (by kernel_rfl) ?_
 repeat (go_big_quiet_step (first | (rename_i y; go_at_call 35; refine (HNd.out _ y.h).mono ?_; rintro e w5 ⟨rfl, hb5⟩; exact ⟨rfl, ⟨w5, y.h.trans (hb5.mono y.h.size)⟩, rfl⟩)))
 refine wpQuiet_nil ?_
 rintro w5 ⟨y, rfl⟩
 have HY := hid y.h
 generalize y.w = X at *
 clear q0 q1 q2 q3 q4 q5 q6 q7 q8 HNd
 have HBW : Hid (Below W0.heap.size W0 X) := HH.out.bel.trans (HY.out.mono HH.out.bel.size)
 cases nd with
 | false =>
   go_wp2_with fail
   go_ret
   rw [HSI.out]
   exact ⟨HBW.out.alloc HBW.out.size _, fun _ => ⟨X.heap.size, rfl⟩, fun x hx => by simp at hx⟩
 | true =>
   have HEx1 := hid (HEx.out X HY.out rfl)
   have HFX := hid (HH.out.below HY.out)
   go_wp2_with fail
   refine HEx1.out.mono ?_
   rintro e X2 ⟨hb2, ad, cp, rfl, hor⟩
   have HF2 := hid (HFX.out.below hb2)
   have HOr := hid hor
   clear hb2 hor HEx HEx1 HFX
   obtain ⟨M, hM⟩ : ∃ M, es.length = M := ⟨_, rfl⟩
   have HM := hid hM
   rw [hM]
   clear hM
   go_wp2_with fail
   go_loopw [33] (fun i wr => ∃ (j : Nat) (T' : List Sq) (w' : List Nat), i = .int .i64 (j : Int) ∧ j ≤ M ∧ Hid (comesZ is.length T wk (es.take j) = some (T', w')) ∧ Hid (Fl W0 Fb (.slice (some ⟨bc, oc, none⟩) is.length cc) gs ch is.length T' w' d false wr) ∧ Hid (Fz X2 wr)) (fun i _ => M - (intOf i).toNat)
   case atStart => exact ⟨0, T, wk, rfl, Nat.zero_le _, rfl, HF2, Fz.refl _⟩
   case round =>
     obtain ⟨j, T', w', rfl, hj, HCo, HFl, HFz⟩ := hrel
     by_cases hlt : (j : Int) < (M : Int)
     · have hjM : j < es.length := by have := HM.out; omega
       obtain ⟨g, hg, cur, hcur, hcs⟩ := HOr.out.resolve_left (fun e => by rw [e] at hjM; cases hjM)
       subst hg
       have hcw := (HFz.out.block g cur _ hcur (by decide) (by decide)).trans hcur
       obtain ⟨c0, c1, c2, c3⟩ := hcs j hjM
       have d0 := (z11 hcw (j * 4)).trans c0
       have d1 := (z11 hcw (j * 4 + 1)).trans c1
       have d2 := (z11 hcw (j * 4 + 2)).trans c2
       have d3 := (z11 hcw (j * 4 + 3)).trans c3
       have htk := comes_take is.length es T wk j hjM
       have her := HEr.out trivial (es.getD j (0, ⟨0, 0, 0⟩)) (by
         rw [List.getD_eq_getElem?_getD, List.getElem?_eq_getElem hjM]
         exact List.getElem_mem _)
       obtain ⟨⟨tt, n1, v1, p1⟩, het⟩ : ∃ e, es.getD j (0, ⟨0, 0, 0⟩) = e := ⟨_, rfl⟩
       rw [het] at d0 d1 d2 d3 htk her
       dsimp only at d0 d1 d2 d3 her
       have hj0 : (0 : Int) ≤ (j : Int) := by omega
       have hst : M - (intOf (.int .i64 ((j + 1 : Nat) : Int))).toNat < M - (intOf (.int .i64 (j : Int))).toNat := by simp only [intOf, Int.toNat_natCast]; omega
       have HSt := hid hst
       have HJ : Hid (j < M ∧ M ≤ 1048576) := ⟨by omega, by have := HM.out; have := HLn.out; omega⟩
       have hB5 := (Below.refl wr.heap.size wr).alloc (Nat.le_refl _) (.cells #[.int .i64 tt, .int .i64 n1, .int .i64 v1, .int .i64 p1] 67)
       have hA5 := (MapKept.heap_alloc wr (.cells #[.int .i64 tt, .int .i64 n1, .int .i64 v1, .int .i64 p1] 67)).1
       obtain ⟨V, hV⟩ : ∃ V, wr.alloc (.cells #[.int .i64 tt, .int .i64 n1, .int .i64 v1, .int .i64 p1] 67) = V := ⟨_, rfl⟩
       rw [hV] at hA5 hB5
       have HFv := hid (HFl.out.below hB5)
       have HZv := hid (HFz.out.trans (Fz.of_below hB5))
       have HCome := hid (comeI_calls HFv.out tt n1 v1 p1 her.2.2.1 her.2.2.2.1 her.2.2.2.2 her.1 her.2.1)
       have htk2 : comesZ is.length T wk (es.take (j + 1)) = comeZ is.length T' w' (tt, ⟨n1, v1, p1⟩) := by rw [htk, HCo.out]; rfl
       have HTk := hid htk2
       have HV := hid hV
       have HJM := hid hjM
       clear hcur hcs hcw c0 c1 c2 c3 htk htk2 het hst hB5 hA5 hV hjM hj her
       go_wp2_with fail
       rw [HV.out]
       refine HCome.out.mono ?_
       rintro e V2 ⟨hbl, hfz, hnone, hsome⟩
       have HBl := hid hbl
       have HZ2 := hid (HZv.out.trans hfz)
       clear d0 d1 d2 d3 hbl hfz HV
       cases hc : comeZ is.length T' w' (tt, ⟨n1, v1, p1⟩) with
       | none =>
         obtain ⟨pb, rfl⟩ := hnone hc
         have HNo : Hid (comesZ is.length T wk es = none) := comes_none is.length es T wk (j + 1) (HTk.out.trans hc)
         clear hnone hsome hc
         go_wp2_with fail
         go_ret
         rw [HSI.out, if_pos trivial, HNo.out]
         exact ⟨HBl.out, fun _ => ⟨pb, rfl⟩, fun x hx => by cases hx⟩
       | some x =>
         obtain ⟨rfl, hfl⟩ := hsome x hc
         have HFn := hid hfl
         have HCn : Hid (comesZ is.length T wk (es.take (j + 1)) = some (x.1, x.2)) := HTk.out.trans hc
         clear hnone hsome hc hfl
         go_wp2_with fail
         try rw [z69 HJ.out.1 HJ.out.2]
         exact ⟨⟨j + 1, x.1, x.2, rfl, HJ.out.1, HCn, HFn, HZ2⟩, HSt.out⟩
     · have hjM : j = M := by omega
       have HAll : Hid (comesZ is.length T wk es = some (T', w')) := by
         show _ = _
         rw [← HCo.out, hjM, ← HM.out, List.take_length]
       clear hj hjM
       go_wp2_with fail
       go_ret
       rw [HSI.out, if_pos trivial, HAll.out]
       refine ⟨HFl.out.bel, fun hx => (by cases hx), fun x hx => ?_⟩
       cases hx
       exact ⟨rfl, HFl.out⟩
end
section
open Go.RowKit
def numsZ (op : Int) : Int :=
 if op = 1 ∨ op = 2 ∨ op = 5 ∨ op = 6 ∨ op = 7 ∨ op = 10 ∨ op = 11 ∨ op = 14 ∨ op = 19 ∨ op = 22 then 1
 else if op = 24 ∨ op = 25 then 2
 else if op = 21 then 3
 else 0
set_option maxHeartbeats 1000000 in
set_option maxRecDepth 100000 in
theorem insNumbers_calls (op : Int) (w : World) :
   Calls Tryz.prog 87 #[.int .i64 op] w fun e w' => e = .returned (.int .i64 (numsZ op)) ∧ w = w' := by
 go_enter Tryz.func87, Tryz.ntmps87
 go_wp2
 all_goals
   go_ret
   refine ⟨?_, rfl⟩
   simp_all [numsZ]
def insLeast (op place : Int) : Int :=
 if numsZ op ≤ place then 0 else if op = 1 then -2147483648 else if op = 14 then 11 else 0
def insMost (op place : Int) : Int :=
 if numsZ op ≤ place then 0 else if op = 1 then 2147483647 else if op = 14 then 15 else if op = 2 ∨ (op = 21 ∧ place = 1) then 1 else 65535
set_option maxHeartbeats 1000000 in
set_option maxRecDepth 100000 in
theorem insRange_calls (op place : Int) (w : World) :
   Calls Tryz.prog 64 #[.int .i64 op, .int .i64 place] w fun e w' => e = .returned (.tuple #[.int .i64 (insLeast op place), .int .i64 (insMost op place)]) ∧ w = w' := by
 go_enter Tryz.func64, Tryz.ntmps64
 go_wp2_with fail
 refine (insNumbers_calls _ _).mono ?_
 rintro e w1 ⟨rfl, rfl⟩
 go_wp2_with fail
 all_goals
   go_ret2
   refine ⟨?_, rfl⟩
   simp_all [insLeast, insMost]
theorem insOkZ_out {op : Int} (a b c : Int) (h : op < 0 ∨ 25 < op) : insOkZ op a b c = false := by
 have : manyZ op = -1 := by
   unfold manyZ
   rw [if_neg (by omega), if_neg (by omega), if_neg (by omega), if_neg (by omega)]
 unfold insOkZ
 rw [this]
 simp
theorem insOkZ_in {op : Int} (a b c : Int) (h0 : 0 ≤ op) (h1 : op ≤ 25) :
   insOkZ op a b c = decide ((insLeast op 0 ≤ a ∧ a ≤ insMost op 0) ∧ (insLeast op 1 ≤ b ∧ b ≤ insMost op 1) ∧ (insLeast op 2 ≤ c ∧ c ≤ insMost op 2)) := by
 rcases ops_cases op with h | h | h | h | h | h | h | h | h | h | h | h | h | h | h | h | h | h | h | h | h | h | h | h | h | h | h
 case inl => omega
 all_goals
   subst h
   simp only [insOkZ, manyZ, insLeast, insMost, numsZ]
   apply Bool.eq_iff_iff.mpr
   simp
   try omega
set_option maxHeartbeats 1000000 in
set_option maxRecDepth 100000 in
theorem implInsOk_calls (op a b c : Int) (w : World) :
   Calls Tryz.prog 34 #[.agg #[.int .i64 op, .int .i64 a, .int .i64 b, .int .i64 c]] w fun e w' => e = .returned (.bool (insOkZ op a b c)) ∧ Below w.heap.size w w' := by
 have hop : op < 0 ∨ (0 ≤ op ∧ 25 < op) ∨ (0 ≤ op ∧ op ≤ 25) := by omega
 rcases hop with h | ⟨h, h'⟩ | ⟨h, h'⟩
 · rw [insOkZ_out a b c (Or.inl h)]
   go_enter Tryz.func34, Tryz.ntmps34
   go_wp2_with fail
   go_ret
   exact ⟨rfl, (Below.refl _ _).alloc (Nat.le_refl _) _⟩
 · rw [insOkZ_out a b c (Or.inr h')]
   go_enter Tryz.func34, Tryz.ntmps34
   go_wp2_with fail
   go_ret
   exact ⟨rfl, (Below.refl _ _).alloc (Nat.le_refl _) _⟩
 · have H0 : Hid (∀ w, _) := fun w => insRange_calls op 0 w
   have H1 : Hid (∀ w, _) := fun w => insRange_calls op 1 w
   have H2 : Hid (∀ w, _) := fun w => insRange_calls op 2 w
   rw [insOkZ_in a b c h h']
   generalize insLeast op 0 = l0 at *
   generalize insLeast op 1 = l1 at *
   generalize insLeast op 2 = l2 at *
   generalize insMost op 0 = m0 at *
   generalize insMost op 1 = m1 at *
   generalize insMost op 2 = m2 at *
   have i0 : ∀ w, (Instr.index 129 (.agg #[.int .i64 a, .int .i64 b, .int .i64 c]) (.int .i64 0)).run Tryz.prog w = .ok (.int .i64 a) w := fun _ => by kernel_rfl
   have i1 : ∀ w, (Instr.index 129 (.agg #[.int .i64 a, .int .i64 b, .int .i64 c]) (.int .i64 1)).run Tryz.prog w = .ok (.int .i64 b) w := fun _ => by kernel_rfl
   have i2 : ∀ w, (Instr.index 129 (.agg #[.int .i64 a, .int .i64 b, .int .i64 c]) (.int .i64 2)).run Tryz.prog w = .ok (.int .i64 c) w := fun _ => by kernel_rfl
   generalize hr : decide ((l0 ≤ a ∧ a ≤ m0) ∧ (l1 ≤ b ∧ b ≤ m1) ∧ (l2 ≤ c ∧ c ≤ m2)) = r
   have HF : Hid (¬ ((l0 ≤ a ∧ a ≤ m0) ∧ (l1 ≤ b ∧ b ≤ m1) ∧ (l2 ≤ c ∧ c ≤ m2)) → r = false) := fun hn => by rw [← hr]; exact decide_eq_false hn
   have HT : Hid (((l0 ≤ a ∧ a ≤ m0) ∧ (l1 ≤ b ∧ b ≤ m1) ∧ (l2 ≤ c ∧ c ≤ m2)) → r = true) := fun hn => by rw [← hr]; exact decide_eq_true hn
   clear hr
   go_enter Tryz.func34, Tryz.ntmps34
   go_wp2_with fail
   refine wp_loop_rounds 4 ?_
   rw [rounds_succ]
   go_wp2_with fail
   refine (H0.out _).mono ?_
   rintro e w1 ⟨rfl, rfl⟩
   have ha : a < l0 ∨ (l0 ≤ a ∧ m0 < a) ∨ (l0 ≤ a ∧ a ≤ m0) := by omega
   rcases ha with ha | ⟨ha, ha'⟩ | ⟨ha, ha'⟩
   · go_wp2_with fail
     go_ret
     exact ⟨by rw [HF.out (by omega)]; rfl, (Below.refl _ _).alloc (Nat.le_refl _) _⟩
   · go_wp2_with fail
     go_ret
     exact ⟨by rw [HF.out (by omega)]; rfl, (Below.refl _ _).alloc (Nat.le_refl _) _⟩
   go_wp2_with fail
   rw [rounds_succ]
   go_wp2_with fail
   refine (H1.out _).mono ?_
   rintro e w1 ⟨rfl, rfl⟩
   have hb : b < l1 ∨ (l1 ≤ b ∧ m1 < b) ∨ (l1 ≤ b ∧ b ≤ m1) := by omega
   rcases hb with hb | ⟨hb, hb'⟩ | ⟨hb, hb'⟩
   · go_wp2_with fail
     go_ret
     exact ⟨by rw [HF.out (by omega)]; rfl, (Below.refl _ _).alloc (Nat.le_refl _) _⟩
   · go_wp2_with fail
     go_ret
     exact ⟨by rw [HF.out (by omega)]; rfl, (Below.refl _ _).alloc (Nat.le_refl _) _⟩
   go_wp2_with fail
   rw [rounds_succ]
   go_wp2_with fail
   refine (H2.out _).mono ?_
   rintro e w1 ⟨rfl, rfl⟩
   have hc : c < l2 ∨ (l2 ≤ c ∧ m2 < c) ∨ (l2 ≤ c ∧ c ≤ m2) := by omega
   rcases hc with hc | ⟨hc, hc'⟩ | ⟨hc, hc'⟩
   · go_wp2_with fail
     go_ret
     exact ⟨by rw [HF.out (by omega)]; rfl, (Below.refl _ _).alloc (Nat.le_refl _) _⟩
   · go_wp2_with fail
     go_ret
     exact ⟨by rw [HF.out (by omega)]; rfl, (Below.refl _ _).alloc (Nat.le_refl _) _⟩
   go_wp2_with fail
   rw [rounds_succ]
   go_wp2_with fail
   go_ret
   exact ⟨by rw [HT.out (by omega)]; rfl, (Below.refl _ _).alloc (Nat.le_refl _) _⟩
end
section
open Go.RowKit
set_option maxRecDepth 100000 in
theorem bad_calls (op a b c : Int) (w : World) :
   Calls Tryz.prog 33 #[.agg #[.int .i64 op, .int .i64 a, .int .i64 b, .int .i64 c]] w fun e w' => e = .returned (.bool (!insOkZ op a b c)) ∧ Below w.heap.size w w' := by
 go_enter Tryz.func33, Tryz.ntmps33
 go_wp2_with fail
 refine (implInsOk_calls _ _ _ _ _).mono ?_
 rintro e w2 ⟨rfl, hb2⟩
 go_wp2_with fail
 go_ret
 exact ⟨rfl, one_below hb2⟩
set_option maxHeartbeats 1000000 in
set_option maxRecDepth 100000 in
theorem indexBad_calls (b off cap : Nat) (cs : List In) (w : World) (hb : b < w.heap.size) (hn : InsAt w b off cs) (hm : cs.length ≤ 1500) :
   Calls Tryz.prog 63 #[.slice (some ⟨b, off, none⟩) cs.length cap, .func (.func 33) #[] #[]] w fun e w' => (∃ r : Int, e = .returned (.int .i64 r) ∧ decide (0 ≤ r) = !cs.all In.ok) ∧ Below w.heap.size w w' := by
 obtain ⟨len, hlen⟩ : ∃ len, cs.length = len := ⟨_, rfl⟩
 have Hlen : Hid (cs.length = len) := hlen
 have HM : Hid (len ≤ 1500) := by show _ ≤ _; omega
 have HN : Hid (InsAt w b off cs) := hn
 obtain ⟨R, hR⟩ : ∃ R, cs.all In.ok = R := ⟨_, rfl⟩
 have HR : Hid (cs.all In.ok = R) := hR
 rw [hlen, hR]
 clear hlen hm hn hR
 go_enter Tryz.func63, Tryz.ntmps63
 go_wp2_with fail
 go_loopw [8] (fun i wr => ∃ k : Nat, i = .int .i64 k ∧ k ≤ len ∧ Hid ((cs.take k).all In.ok = true) ∧ Below w.heap.size w wr) (fun i _ => len - (intOf i).toNat)
 case atStart => exact ⟨0, rfl, Nat.zero_le _, by simp [Hid], Below.refl _ _⟩
 case round =>
   obtain ⟨k, rfl, hk, HA, hnx⟩ := hrel
   by_cases hkl : (k : Int) < (len : Int)
   · have hkn : k < cs.length := by rw [Hlen.out]; omega
     have hcell := fun c (hc : c < 4) => (hnx.cell (p := ⟨b, off + k * 4 + c, none⟩) hb).trans (HN.out k hkn c hc)
     have HD : Hid (cs.take (k + 1) = cs.take k ++ [cs.getD k default]) := ins_drop hkn
     generalize cs.getD k default = n at hcell HD
     obtain ⟨op, x, y, z⟩ := n
     have c0 := hcell 0 (by omega)
     have c1 := hcell 1 (by omega)
     have c2 := hcell 2 (by omega)
     have c3 := hcell 3 (by omega)
     simp only [In.cell, Nat.add_zero] at c0 c1 c2 c3
     clear hcell hkn
     go_wp2_with fail
     refine (bad_calls _ _ _ _ _).mono ?_
     rintro e w2 ⟨rfl, hb2⟩
     have hnx2 := hnx.trans (hb2.mono hnx.size)
     clear hb2 hnx c0 c1 c2 c3
     cases hok : insOkZ op x y z with
     | false =>
       have HF : Hid (R = false) := by
         show _ = _
         rw [← HR.out]
         have h1 : (cs.take (k + 1)).all In.ok = false := by
           rw [HD.out, List.all_append]
           simp [In.ok, hok]
         rw [← List.take_append_drop (k + 1) cs, List.all_append, h1, Bool.false_and]
       clear HA HD HR
       go_wp2_with fail
       go_ret
       exact ⟨⟨_, rfl, by rw [HF.out]; exact decide_eq_true (by omega)⟩, hnx2⟩
     | true =>
       have HA1 : Hid ((cs.take (k + 1)).all In.ok = true) := by
         show _ = _
         rw [HD.out, List.all_append, HA.out]
         simp [In.ok, hok]
       clear HA HD
       go_wp2_with fail
       have hs : len - (intOf (.int .i64 ((k + 1 : Nat) : Int))).toNat < len - (intOf (.int .i64 (k : Int))).toNat := by simp only [intOf, Int.toNat_natCast]; omega
       try rw [wrap_one (k := k) (len := len) (by omega) (by have := HM.out; omega)]
       exact ⟨⟨k + 1, rfl, by omega, HA1, hnx2⟩, hs⟩
   · have HF : Hid (R = true) := by
       show _ = _
       rw [← HR.out, ← List.take_of_length_le (l := cs) (i := k) (by rw [Hlen.out]; omega)]
       exact HA.out
     clear HA HR
     go_wp2_with fail
     go_ret
     exact ⟨⟨-1, rfl, by rw [HF.out]; rfl⟩, hnx⟩
set_option maxHeartbeats 1000000 in
set_option maxRecDepth 100000 in
theorem listOk_calls (b off cap : Nat) (cs : List In) (w : World) (hb : b < w.heap.size) (hn : InsAt w b off cs) :
   Calls Tryz.prog 17 #[.slice (some ⟨b, off, none⟩) cs.length cap] w fun e w' => e = .returned (.bool (codeOkZ cs)) ∧ Below w.heap.size w w' := by
 by_cases hbig : (cs.length : Int) ≤ 1500
 · rw [show codeOkZ cs = cs.all In.ok by unfold codeOkZ; rw [decide_eq_true (by omega), Bool.true_and]]
   have HX : Hid (Calls _ _ _ _ _) := indexBad_calls b off cap cs w hb hn (by omega)
   generalize cs.length = len at *
   generalize cs.all In.ok = R at *
   clear hn
   have HY : Hid (Calls Tryz.prog 32 #[.slice (some ⟨b, off, none⟩) len cap, .func (.func 33) #[] #[]] w fun e w' => e = .returned (.bool (!R)) ∧ Below w.heap.size w w') := by
     show Calls _ _ _ _ _
     go_enter Tryz.func32, Tryz.ntmps32
     go_wp2_with fail
     refine HX.out.mono ?_
     rintro e w2 ⟨⟨r, rfl, hr⟩, hb2⟩
     have Hr : Hid (decide (0 ≤ r) = !R) := hr
     clear hr
     go_wp2_with fail
     go_ret
     exact ⟨by rw [← Hr.out]; rfl, hb2⟩
   clear HX
   go_enter Tryz.func17, Tryz.ntmps17
   go_wp2_with fail
   refine HY.out.mono ?_
   rintro e w2 ⟨rfl, hb2⟩
   cases R
   all_goals
     go_wp2_with fail
     go_ret
     exact ⟨rfl, hb2⟩
 · rw [show codeOkZ cs = false by unfold codeOkZ; rw [decide_eq_false (by omega)]; rfl]
   generalize cs.length = len at *
   clear hn
   go_enter Tryz.func17, Tryz.ntmps17
   go_wp2_with fail
   go_ret
   exact ⟨rfl, Below.refl _ _⟩
end
section
open Go.RowKit Go.Conc
theorem info_spot : (Tryz.prog.info? 43).map (fun i => (i.zero, i.size, i.bytes)) = some (some (.agg #[.int .i64 0, .int .i64 0, .int .i64 0]), 3, 24) := by kernel_rfl
theorem made_spots (n : Nat) (hn : n ≤ 1500) (w : World) : ∃ c : Array Value, c.size = 3 * n ∧ (∀ i, i < 3 * n → c[i]? = some (.int .i64 0)) ∧
   (Instr.makeSlice 36 (.int .i64 (n : Int)) (.int .i64 (n : Int))).run Tryz.prog w = .ok (.slice (some ⟨w.heap.size, 0, none⟩) n n) (w.alloc (.cells c 43)) := by
 obtain ⟨i0, hi, hz0, hz1, hz2⟩ := info_parts info_spot
 have h := run_make (P := Tryz.prog) w 36 43 i0 _ Tryz.underlying36 hi hz0 .i64 .i64 n n (by omega) (Int.le_refl _) (by rw [hz2]; omega) (by omega)
 rw [hz1] at h
 simp only [Int.toNat_natCast] at h
 refine ⟨_, ?_, fun i hi => ?_, h⟩
 · rw [size_madeCells]
   exact Nat.mul_comm _ _
 · have h3 : i % 3 = 0 ∨ i % 3 = 1 ∨ i % 3 = 2 := by omega
   rcases h3 with h3 | h3 | h3 <;> simp [madeCells, h3, Value.cells, show i < n * 3 by omega]
theorem bytes_int : ∃ i, Tryz.prog.info? 3 = some i ∧ i.bytes = 8 := by
 have h : (Tryz.prog.info? 3).map (·.bytes) = some 8 := by kernel_rfl
 obtain ⟨i, hi, hb⟩ := Option.map_eq_some_iff.1 h
 exact ⟨i, hi, hb⟩
theorem made_chan (n : Nat) (hn : n ≤ 1500) (w : World) : (Instr.makeChan 62 (.int .i64 (n : Int))).run Tryz.prog w = .ok (.chan (some w.heap.size)) (w.alloc (.chan n #[] false 0 0 false)) := by
 obtain ⟨i, hi, hb⟩ := bytes_int
 exact run_makeChan (P := Tryz.prog) (w := w) Tryz.underlying62 hi .i64 n (by omega) (by rw [hb]; omega)
def SpotsP (is : List In) (w : World) (e : Ending) (w' : World) : Prop :=
 Below w.heap.size w w' ∧ ((validZ is = false ∧ ∃ pb, e = .returned (.tuple #[.slice none 0 0, .iface 58 (.pointer (some ⟨pb, 0, none⟩))])) ∨
   (validZ is = true ∧ ∃ T g, WholeV is T ∧ e = .returned (.tuple #[.slice (some ⟨g, 0, none⟩) is.length is.length, .nilIface]) ∧ w'.rowIs g 43 (3 * is.length) (spF T)))
theorem Fl.recv {W0 : World} {Fb : Nat} {vc : Value} {gs ch N : Nat} {T : List Sq} {k : Nat} {wk : List Nat} {W : World} (h : Fl W0 Fb vc gs ch N T (k :: wk) 0 false W) {s r : Nat} (hc : W.heap[ch]? = some (.chan N (wkA (k :: wk)) false s r false)) : Fl W0 Fb vc gs ch N T wk 1 false (W.setChan ch N (wkA wk) false s (r + 1) false) := by
 obtain ⟨n1, n2, n3⟩ := h.ne
 have hr := h.room
 rw [List.length_cons] at hr
 have hb := h.blk
 rw [show (0 : Int) + ((k :: wk).length : Int) = 1 + (wk.length : Int) by rw [List.length_cons]; omega] at hb
 exact ⟨(z56 W ch _ _ _ _ _ _ n2).trans hb, h.row.of_block (z56 W ch _ _ _ _ _ _ n3), ⟨s, r + 1, heap_setChan W ch _ _ _ _ _ _ (z26 hc)⟩, h.lo, below_setChan h.bel h.lo.2.2 _ _ _ _ _ _, h.len, h.nl, h.sane, by omega, ⟨by omega, by omega⟩⟩
theorem Fl.paid {W0 : World} {Fb : Nat} {vc : Value} {gs ch N : Nat} {T : List Sq} {wk : List Nat} {W : World} (h : Fl W0 Fb vc gs ch N T wk 1 false W) : Fl W0 Fb vc gs ch N T wk 0 false (W.setCell ⟨Fb, 3, none⟩ (.int .i64 (wk.length : Int))) := by
 obtain ⟨n1, n2, n3⟩ := h.ne
 obtain ⟨s, r, hc⟩ := h.chb
 have ho : ∀ q, q ≠ Fb → (W.setCell ⟨Fb, 3, none⟩ (.int .i64 (wk.length : Int))).heap[q]? = W.heap[q]? := fun q hq => Below.heap_setCell W ⟨Fb, 3, none⟩ _ q hq
 have hl := h.lo
 refine ⟨?_, h.row.of_block (ho gs (Ne.symm n1)), ⟨s, r, (ho ch (Ne.symm n2)).trans hc⟩, h.lo, ⟨h.bel.os, h.bel.tape, h.bel.output, by simpa [World.setCell] using h.bel.size, fun q hq => (ho q (by omega)).trans (h.bel.block q hq)⟩, h.len, h.nl, h.sane, h.room, ⟨by omega, by omega⟩⟩
 rw [show (0 : Int) + (wk.length : Int) = (wk.length : Int) by omega]
 simp [World.setCell, Array.getElem?_modify, h.blk]
theorem Fl.shut {W0 : World} {Fb : Nat} {vc : Value} {gs ch N : Nat} {T : List Sq} {W : World} (h : Fl W0 Fb vc gs ch N T [] 0 false W) {s r : Nat} (hc : W.heap[ch]? = some (.chan N #[] false s r false)) : Fl W0 Fb vc gs ch N T [] 0 true (W.setChan ch N #[] true s r false) := by
 obtain ⟨n1, n2, n3⟩ := h.ne
 exact ⟨(z56 W ch _ _ _ _ _ _ n2).trans h.blk, h.row.of_block (z56 W ch _ _ _ _ _ _ n3), ⟨s, r, heap_setChan W ch _ _ _ _ _ _ (z26 hc)⟩, h.lo, below_setChan h.bel h.lo.2.2 _ _ _ _ _ _, h.len, h.nl, h.sane, h.room, h.dl⟩
theorem fl_start {w X : World} {Fb gs ch N cc : Nat} {ac : Option Addr} {cS : Array Value} (hb : Below w.heap.size w X) (h1 : X.heap[Fb]? = some (.cells #[.slice ac N cc, .slice (some ⟨gs, 0, none⟩) N N, .chan (some ch), .int .i64 0] 64)) (h2 : X.heap[gs]? = some (.cells cS 43)) (h3 : X.heap[ch]? = some (.chan N #[] false 0 0 false)) (l1 : w.heap.size ≤ Fb) (l2 : w.heap.size ≤ gs) (l3 : w.heap.size ≤ ch) (hs : cS.size = 3 * N) (hz : ∀ i, i < 3 * N → cS[i]? = some (.int .i64 0)) (hN : N ≤ 1500) : Fl w Fb (.slice ac N cc) gs ch N (List.replicate N ⟨0, 0, 0⟩) [] 0 false X := by
 have fr := free_le (List.replicate N (⟨0, 0, 0⟩ : Sq))
 rw [List.length_replicate] at fr
 have z : ∀ k, tg (List.replicate N (⟨0, 0, 0⟩ : Sq)) k = ⟨0, 0, 0⟩ := fun k => by
   by_cases hk : k < N
   · unfold tg
     rw [List.getD_eq_getElem?_getD, List.getElem?_replicate, if_pos hk]
     rfl
   · exact tg_out (by rw [List.length_replicate]; exact hk)
 refine ⟨h1, ⟨cS, h2, hs, fun i hi => ?_⟩, ⟨0, 0, h3⟩, ⟨l1, l2, l3⟩, hb, List.length_replicate, hN, fun s hs' => ?_, by simpa using fr, ⟨by omega, by omega⟩⟩
 · rw [hz i hi]
   unfold spF
   rw [z]
   have h3 : i % 3 = 0 ∨ i % 3 = 1 ∨ i % 3 = 2 := by omega
   rcases h3 with h3 | h3 | h3 <;> rw [h3] <;> rfl
 · rw [List.eq_of_mem_replicate hs']
   exact Or.inl ⟨rfl, rfl, rfl⟩
theorem wkA_cons (k : Nat) (wk : List Nat) : (wkA (k :: wk)).getD 0 undef = .int .i64 (k : Int) ∧ (wkA (k :: wk)).extract 1 (wkA (k :: wk)).size = wkA wk ∧ 0 < (wkA (k :: wk)).size := by
 refine ⟨rfl, ?_, by simp [wkA]⟩
 simp [wkA]
 exact List.take_of_length_le (by simp)

noncomputable def restC : Code := match Tryz.f11.body with
 | some (.seq _ (.seq _ (.seq _ r))) => r
 | _ => .skip
set_option maxRecDepth 100000 in
set_option maxHeartbeats 16000000 in
theorem spots_rest {ac : Option Addr} {cc : Nat} {is : List In} {w X : World} {N Fb gs ch : Nat} (hN : is.length = N) (hF : Fl w Fb (.slice ac N cc) gs ch N (List.replicate N ⟨0, 0, 0⟩) [] 0 false X) (hok : codeOkZ is = true) (hcc : is.length ≤ cc) (hin : is = [] ∨ ∃ bc oc, ac = some ⟨bc, oc, none⟩ ∧ bc < w.heap.size ∧ InsAt w bc oc is) :
   wpN Tryz.prog restC (bodyPost Tryz.prog Tryz.f11 (SpotsP is w)) (⟨#[.slice ac N cc, undef, .slice none 0 0, .nilIface, .pointer (some ⟨Fb, 0, none⟩), undef, undef, undef, .slice ac N cc, .bool true, .bool false, undef, undef, undef, .slice ac N cc, .slice ac N cc, .int .i64 (N : Int), .slice (some ⟨gs, 0, none⟩) N N, .slice ac N cc, .int .i64 (N : Int), .chan (some ch), .agg #[.slice ac N cc, .slice (some ⟨gs, 0, none⟩) N N, .chan (some ch), .int .i64 0], .pointer (some ⟨Fb, 0, none⟩), undef, undef, undef, undef, undef, undef, undef, undef, undef, undef, undef, undef, undef, undef, undef, undef, undef, undef, undef, undef, undef, undef, undef, undef, undef, undef, undef, undef, undef, undef, undef, undef, undef, undef, undef, undef, undef, undef, undef, undef], []⟩ : Act) X := by
 have HN := hid hN
 have HF := hid hF
 have HOk := hid hok
 have HIn := hid (And.intro hcc hin)
 have HCm := hid (comeI_calls hF 0 0 0 1 (by decide) (by decide) (by decide) (by decide) (by decide))
 clear hN hF hok hcc hin
 conv => arg 2; whnf
 refine z39 fun K hK => ?_
 go_wp2_with fail
 refine HCm.out.mono ?_
 rintro e X2 ⟨hbl, -, hnone, hsome⟩
 have HBl := hid hbl
 clear hbl HCm
 by_cases hN0 : 0 < N
 case neg =>
   have hz : comeZ N (List.replicate N ⟨0, 0, 0⟩) [] (0, ⟨0, 0, 1⟩) = none := by
     unfold comeZ
     rw [if_pos (Or.inr (Or.inl (by dsimp only; omega)))]
   obtain ⟨pb, rfl⟩ := hnone hz
   have HNb : Hid (¬ GoodV is) := none_bad (by have := HN.out; omega)
   clear hnone hsome hz hN0
   go_wp2_with fail
   go_ret2
   exact ⟨HBl.out, Or.inl ⟨valid_bad (Or.inr HNb.out), pb, rfl⟩⟩
 have hz := first_some (cs := is) (by have := HN.out; omega)
 rw [HN.out] at hz
 obtain ⟨rfl, hfl⟩ := hsome _ hz
 have HFl := hid hfl
 have HGo := hid (going_start (cs := is) (by have := HN.out; omega))
 rw [HN.out] at HGo
 have HN0 := hid hN0
 obtain ⟨bc, oc, hac, hbc, hia⟩ := HIn.out.2.resolve_left (fun e => by have := HN.out; rw [e] at this; simp at this; omega)
 subst hac
 have hall : ∀ i ∈ is, i.ok = true := by
   have := HOk.out
   unfold codeOkZ at this
   rw [Bool.and_eq_true, List.all_eq_true] at this
   exact this.2
 have HAl := hid hall
 have HC : Hid (CodeAt w bc oc cc is) := ⟨hbc, hia, HIn.out.1, by have h1 := HF.out.nl; have := HN.out; omega, hall⟩
 clear hnone hsome hz hfl hbc hia hall HF hN0
 go_wp2_with fail
 have e2 := z11 HFl.out.blk 2
 simp at e2
 refine wpN_seq ?_
 refine z39 fun K hK => ?_
 go_wp2_with fail
 clear e2
 refine wpN_block ?_
 refine wpN_loop (fun n a w' => ∃ (u6 u7 u34 u35 u36 u37 u38 u39 u40 u41 u42 u43 u44 u45 u46 u47 u48 u49 u50 u51 u52 u53 u54 u55 u56 u57 u58 : Value) (T : List Sq) (wk : List Nat) (closed : Bool), a = (⟨#[.slice (some ⟨bc, oc, none⟩) N cc, undef, .slice none 0 0, .nilIface, .pointer (some ⟨Fb, 0, none⟩), .nilIface, u6, u7, .slice (some ⟨bc, oc, none⟩) N cc, .bool true, .bool false, undef, undef, undef, .slice (some ⟨bc, oc, none⟩) N cc, .slice (some ⟨bc, oc, none⟩) N cc, .int .i64 (N : Int), .slice (some ⟨gs, 0, none⟩) N N, .slice (some ⟨bc, oc, none⟩) N cc, .int .i64 (N : Int), .chan (some ch), .agg #[.slice (some ⟨bc, oc, none⟩) N cc, .slice (some ⟨gs, 0, none⟩) N N, .chan (some ch), .int .i64 0], .pointer (some ⟨Fb, 0, none⟩), .pointer (some ⟨Fb, 0, none⟩), .agg #[.int .i64 0, .int .i64 0, .int .i64 1], .agg #[.int .i64 0, .int .i64 0, .int .i64 0, .int .i64 1], .nilIface, .nilIface, .bool false, undef, .pointer (some ⟨Fb, 0, none⟩), .pointer (some ⟨Fb, 0, none⟩), .pointer (some ⟨Fb, 2, none⟩), .chan (some ch), u34, u35, u36, u37, u38, u39, u40, u41, u42, u43, u44, u45, u46, u47, u48, u49, u50, u51, u52, u53, u54, u55, u56, u57, u58, undef, undef, undef, undef], []⟩ : Act) ∧ Fl w Fb (.slice (some ⟨bc, oc, none⟩) N cc) gs ch N T wk 0 closed w' ∧ Going is T wk ∧ (closed = true ↔ wk = []) ∧ 2 * free T + wk.length ≤ n) (2 * N) ?_ ?_
 · refine ⟨undef, undef, undef, undef, undef, undef, undef, undef, undef, undef, undef, undef, undef, undef, undef, undef, undef, undef, undef, undef, undef, undef, undef, undef, undef, undef, undef, _, _, false, rfl, HFl.out, HGo.out, ⟨fun e => (by cases e), fun e => (by cases e)⟩, ?_⟩
   have h1 := HGo.out.tab.room
   have h2 := free_le ((List.replicate N (⟨0, 0, 0⟩ : Sq)).set 0 ⟨0, 0, 1⟩)
   rw [List.length_set, List.length_replicate] at h2
   have := HN.out
   have := HN0.out
   simp only [List.length_singleton] at h1 ⊢
   omega
 rintro n a Wn ⟨u6, u7, u34, u35, u36, u37, u38, u39, u40, u41, u42, u43, u44, u45, u46, u47, u48, u49, u50, u51, u52, u53, u54, u55, u56, u57, u58, T, wk, closed, rfl, hfl, hgo, hcl, hms⟩
 have HFn := hid hfl
 have HGn := hid hgo
 have HMs := hid hms
 obtain ⟨s0, r0, hch⟩ := hfl.chb
 clear HFl HGo hfl hgo hms
 cases wk with
 | nil =>
   have hc1 : closed = true := hcl.2 rfl
   subst hc1
   have hch' : Wn.heap[ch]? = some (.chan N #[] true s0 r0 false) := hch
   clear hch hcl
   refine wpN_seq ?_
   refine wpN_region ?_
   change InR _ _ [0, 1] _ _ _
   refine inR_shut (c := ch) (z := .int .i64 0) (w' := Wn) rfl (z61 rfl) (by simp [go_sem, rcase]) hch' ?_
   refine inR_value (v := .bool false) (w' := Wn) rfl (z61 rfl) (by simp [go_sem, Act.put]) ?_
   refine inR_of ?_
   show wpN _ _ _ _ _
   refine wpN_of (wp_at (by simp [go_sem]; exact rfl) ?_)
   have HW := hid (going_end HAl.out HGn.out)
   clear hch'
   go_wp2_with fail
   have e1 := z11 HFn.out.blk 1
   simp at e1
   refine wpN_of ?_
   go_wp2_with fail
   go_ret2
   refine ⟨HFn.out.bel, Or.inr ⟨valid_good HOk.out HW.out.good, T, gs, HW.out, ?_, ?_⟩⟩
   · rw [HN.out]
     rfl
   · rw [HN.out]
     exact HFn.out.row
 | cons k wk =>
   have hc1 : closed = false := by
     cases closed with
     | false => rfl
     | true => cases hcl.1 rfl
   subst hc1
   obtain ⟨g1, g2, g3⟩ := wkA_cons k wk
   refine wpN_seq ?_
   refine wpN_region ?_
   change InR _ _ [0, 1] _ _ _
   refine inR_recv (c := ch) (z := .int .i64 0) (w' := Wn) rfl (z61 rfl) (by simp [go_sem, rcase]) hch g3 ?_
   rw [g1, g2]
   have HF1 := hid (HFn.out.recv hch)
   obtain ⟨Z, hZ⟩ : ∃ Z, Wn.setChan ch N (wkA wk) false s0 (r0 + 1) false = Z := ⟨_, rfl⟩
   rw [hZ] at HF1 ⊢
   refine inR_value (v := .bool true) (w' := Z) rfl (z61 rfl) (by simp [go_sem, Act.put]) ?_
   refine inR_of ?_
   show wpN _ _ _ _ _
   refine wpN_of (wp_at (by simp [go_sem]; exact rfl) ?_)
   clear hZ hch hcl g1 g2 g3
   have HAt := hid (going_at HAl.out HGn.out (List.mem_cons_self ..))
   have HGs := hid (going_step HAl.out HGn.out (k := k) (w := wk) (List.mem_cons_self ..) (fun q hq => by
     rcases List.mem_cons.1 hq with h | h
     · exact Or.inl h
     · exact Or.inr h) (fun q hq => List.mem_cons_of_mem _ hq) (by rw [List.length_cons]))
   have HFo : Hid (Calls Tryz.prog 19 #[.pointer (some ⟨Fb, 0, none⟩), .int .i64 (k : Int)] Z (FollowP w Fb (.slice (some ⟨bc, oc, none⟩) N cc) gs ch N 1 (stepI is T wk k))) := by
     show Calls _ _ _ _ _
     have h1 := HF1.out
     rw [← HN.out] at h1 ⊢
     exact follow_calls h1 HC.out k HAt.out.1 HAt.out.2.2.2.2.2.2.1
   clear HFn HF1
   go_wp2_with fail
   refine HFo.out.mono ?_
   rintro e Z2 ⟨hb2, hnone, hsome⟩
   have HB2 := hid hb2
   clear hb2 HFo
   have HR : Hid ((stepI is T wk k = none ∧ ¬ GoodV is) ∨ ∃ x, stepI is T wk k = some x ∧ Going is x.1 x.2 ∧ 2 * free x.1 + x.2.length < n) := by
     show _ ∨ _
     have hgs := HGs.out
     have hms := HMs.out
     unfold stepI
     by_cases hn : needsZ is (is.getD k default) (tg T k) = true
     · rw [if_pos hn]
       cases hc : comesZ is.length T wk (exitsZ is k (is.getD k default) (tg T k)) with
       | none => exact Or.inl ⟨rfl, hgs.2.1 hn hc⟩
       | some x =>
         have h3 := hgs.2.2 x.1 x.2 hn hc
         exact Or.inr ⟨x, rfl, h3.1, by have := h3.2; omega⟩
     · rw [if_neg hn]
       exact Or.inl ⟨rfl, hgs.1 (by simpa using hn)⟩
   clear HGs HGn HMs HAt
   rcases HR.out with ⟨hz, hng⟩ | ⟨⟨T2, w2⟩, hz, hg2, hm2⟩
   · obtain ⟨pb, rfl⟩ := hnone hz
     have HNg := hid hng
     clear hnone hsome hz hng HR
     go_wp2_with fail
     go_ret2
     exact ⟨HB2.out, Or.inl ⟨valid_bad (Or.inr HNg.out), pb, rfl⟩⟩
   · obtain ⟨rfl, hf2⟩ := hsome _ hz
     dsimp only at hf2 hg2 hm2
     have HF2 := hid hf2
     have HG2 := hid (And.intro hg2 hm2)
     have HP := hid hf2.paid
     have f3 := z11 hf2.blk 3
     have z3 := z13 hf2.blk 3
     have f2 := z11 hf2.blk 2
     simp at f3 f2
     have hw3 : wrap64 (1 + (w2.length : Int) - 1) = (w2.length : Int) := by
       rw [wrap64]
       have := hf2.room
       have := hf2.nl
       omega
     clear hnone hsome hz hg2 hm2 HR hf2
     have hw4 : (1 + (w2.length : Int) - 1) = (w2.length : Int) := by omega
     obtain ⟨lw, hlw⟩ : ∃ lw : Int, (w2.length : Int) = lw := ⟨_, rfl⟩
     have HLw := hid hlw
     rw [hlw] at f3 hw3 HP
     clear hw4 hlw
     cases w2 with
     | nil =>
       have hl0 : lw = 0 := by rw [← HLw.out]; rfl
       subst hl0
       obtain ⟨s1, r1, hc1⟩ := HP.out.chb
       have hc1' : (Z2.setCell ⟨Fb, 3, none⟩ (.int .i64 0)).heap[ch]? = some (.chan N #[] false s1 r1 false) := hc1
       have HSh := hid (HP.out.shut hc1')
       have hcl := fun ats ty => run_close_open (P := Tryz.prog) (w := Z2.setCell ⟨Fb, 3, none⟩ (.int .i64 0)) ats ty hc1'
       clear hc1
       go_wp2_with fail
       exact ⟨2 * free T2 + ([] : List Nat).length, HG2.out.2, _, _, _, _, _, _, _, _, _, _, _, _, _, _, _, _, _, _, _, _, _, _, _, _, _, _, _, T2, [], true, rfl, HSh.out, HG2.out.1, ⟨fun _ => rfl, fun _ => rfl⟩, Nat.le_refl _⟩
     | cons q w3 =>
       have hl0 : (lw == 0) = false := by
         have := HLw.out
         rw [List.length_cons] at this
         simp
         omega
       go_wp2_with fail
       exact ⟨2 * free T2 + (q :: w3).length, HG2.out.2, _, _, _, _, _, _, _, _, _, _, _, _, _, _, _, _, _, _, _, _, _, _, _, _, _, _, _, T2, q :: w3, false, rfl, HP.out, HG2.out.1, ⟨fun e => (by cases e), fun e => (by cases e)⟩, Nat.le_refl _⟩
set_option maxRecDepth 100000 in
set_option maxHeartbeats 8000000 in
theorem codeSpots_calls (ac : Option Addr) (cc : Nat) (is : List In) (w : World) (hcc : is.length ≤ cc) (hin : is = [] ∨ ∃ bc oc, ac = some ⟨bc, oc, none⟩ ∧ bc < w.heap.size ∧ InsAt w bc oc is) (HLs : Hid (Calls Tryz.prog 17 #[.slice ac is.length cc] w fun e w' => e = .returned (.bool (codeOkZ is)) ∧ Below w.heap.size w w')) :
   Calls Tryz.prog 11 #[.slice ac is.length cc] w (SpotsP is w) := by
 obtain ⟨N, hN⟩ : ∃ N, is.length = N := ⟨_, rfl⟩
 have HN := hid hN
 have HIn := hid (And.intro hcc hin)
 obtain ⟨ok, hok⟩ : ∃ ok, codeOkZ is = ok := ⟨_, rfl⟩
 have HOk := hid hok
 rw [hN, hok] at HLs
 rw [hN]
 clear hN hcc hin hok
 refine z51 Tryz.func11 rfl ?_
 simp only [Tryz.ntmps11, List.size_toArray, List.length_cons, List.length_nil, Nat.reduceAdd, Nat.reduceSub, Array.replicate_succ, Array.replicate_zero, List.push_toArray, List.append_toArray, List.nil_append, List.cons_append]
 refine z39 fun K hK => ?_
 go_wp2_with fail
 refine z39 fun K hK => ?_
 go_wp2_with fail
 refine HLs.out.mono ?_
 rintro e W1 ⟨rfl, hb1⟩
 have HB1 := hid hb1
 clear hb1 HLs
 cases ok with
 | false =>
   go_wp2_with fail
   go_ret2
   exact ⟨HB1.out.alloc HB1.out.size _, Or.inl ⟨valid_bad (Or.inl HOk.out), W1.heap.size, rfl⟩⟩
 | true =>
   have hN15 : N ≤ 1500 := by
     have h := HOk.out
     unfold codeOkZ at h
     rw [Bool.and_eq_true] at h
     have := of_decide_eq_true h.1
     have := HN.out
     omega
   have HN15 := hid hN15
   clear hN15
   go_wp2_with fail
   refine z39 fun K hK => ?_
   have hD : Below W1.heap.size W1 W1.drew := (Below.refl _ _).drew
   refine z33 (S := fun _ => True) (by kernel_rfl) rfl rfl ?_
   refine pick_o 0 (.slice ac N cc) trivial ?_
   refine pick_o 1 (.slice ac N cc) trivial ?_
   refine pick_o 2 (.int .i64 (N : Int)) trivial ?_
   refine pick_o 4 (.slice ac N cc) trivial ?_
   refine pick_o 5 (.int .i64 (N : Int)) trivial ?_
   refine pick_fork (i := 3) (j := 6) (by kernel_rfl) ?_ ?_
   · obtain ⟨cS, hcs, hcz, hmk⟩ := made_spots N HN15.out W1.drew
     have hmc := made_chan N HN15.out ((W1.alloc (.cells cS 43)).drew)
     refine ⟨_, .slice (some ⟨W1.heap.size, 0, none⟩) N N, (W1.drew.alloc (.cells cS 43)), rfl, rfl, by simp [go_sem]; rw [hmk]; rfl, trivial, ?_⟩
     refine z15 (by simp [go_sem]; exact rfl) ?_
     refine z29 (i := 6) (v := .chan (some (W1.heap.size + 1))) (w1 := ((W1.drew.alloc (.cells cS 43)).alloc (.chan N #[] false 0 0 false))) rfl (by kernel_rfl) rfl rfl (by simp [go_sem]; rw [hmc]; simp; rfl) trivial (by simp [go_sem]; exact rfl) ?_
     refine z29 (i := 7) (v := .agg #[.slice ac N cc, .slice (some ⟨W1.heap.size, 0, none⟩) N N, .chan (some (W1.heap.size + 1)), .int .i64 0]) (w1 := ((W1.drew.alloc (.cells cS 43)).alloc (.chan N #[] false 0 0 false))) rfl (by kernel_rfl) rfl rfl (by simp [go_sem]) trivial (by simp [go_sem]; exact rfl) ?_
     refine z29 (i := 8) (v := .pointer (some ⟨W1.heap.size + 2, 0, none⟩)) (w1 := ((W1.drew.alloc (.cells cS 43)).alloc (.chan N #[] false 0 0 false)).alloc (.cells #[.slice ac N cc, .slice (some ⟨W1.heap.size, 0, none⟩) N N, .chan (some (W1.heap.size + 1)), .int .i64 0] 64)) rfl (by kernel_rfl) rfl rfl (by simp [go_sem]) trivial (by simp [go_sem]; exact rfl) ?_
     refine z29 (i := 9) (v := .pointer (some ⟨W1.heap.size + 2, 0, none⟩)) (w1 := ((W1.drew.alloc (.cells cS 43)).alloc (.chan N #[] false 0 0 false)).alloc (.cells #[.slice ac N cc, .slice (some ⟨W1.heap.size, 0, none⟩) N N, .chan (some (W1.heap.size + 1)), .int .i64 0] 64)) rfl (by kernel_rfl) rfl rfl (by simp [go_sem]) trivial (by simp [go_sem]; exact rfl) ?_
     refine z32 (by kernel_rfl) ?_
     have t2 := two_new W1.drew (.cells cS 43) (.chan N #[] false 0 0 false)
     have t3 := MapKept.heap_alloc ((W1.drew.alloc (.cells cS 43)).alloc (.chan N #[] false 0 0 false)) (.cells #[.slice ac N cc, .slice (some ⟨W1.heap.size, 0, none⟩) N N, .chan (some (W1.heap.size + 1)), .int .i64 0] 64)
     have hs2 : ((W1.drew.alloc (.cells cS 43)).alloc (.chan N #[] false 0 0 false)).heap.size = W1.heap.size + 2 := by simp
     have hs0 : W1.drew.heap.size = W1.heap.size := rfl
     rw [hs0] at t2
     have g3 := t3.1
     rw [hs2] at g3
     have hb : Below w.heap.size w (((W1.drew.alloc (.cells cS 43)).alloc (.chan N #[] false 0 0 false)).alloc (.cells #[.slice ac N cc, .slice (some ⟨W1.heap.size, 0, none⟩) N N, .chan (some (W1.heap.size + 1)), .int .i64 0] 64)) := by
       have hb1 := HB1.out.trans (hD.mono HB1.out.size)
       have hb2 := hb1.alloc hb1.size (.cells cS 43)
       have hb3 := hb2.alloc hb2.size (.chan N #[] false 0 0 false)
       exact hb3.alloc hb3.size _
     have hFl := fl_start (Fb := W1.heap.size + 2) (gs := W1.heap.size) (ch := (W1.heap.size + 1)) hb g3 ((t3.2 _ (by omega)).trans t2.1) ((t3.2 _ (by omega)).trans t2.2) (by have := HB1.out.size; omega) (by have := HB1.out.size; omega) (by have := HB1.out.size; omega) hcs hcz HN15.out
     clear hmk hmc t2 t3 g3 hs2 hs0 hcs hcz hb
     obtain ⟨X, hX⟩ : ∃ X, ((W1.drew.alloc (.cells cS 43)).alloc (.chan N #[] false 0 0 false)).alloc (.cells #[.slice ac N cc, .slice (some ⟨W1.heap.size, 0, none⟩) N N, .chan (some (W1.heap.size + 1)), .int .i64 0] 64) = X := ⟨_, rfl⟩
     rw [hX] at hFl ⊢
     clear hX
     have hrest := spots_rest HN.out hFl HOk.out HIn.out.1 HIn.out.2
     go_wp2_with fail
     exact hrest
   · obtain ⟨cS, hcs, hcz, hmk⟩ := made_spots N HN15.out ((W1.alloc (.chan N #[] false 0 0 false)).drew)
     have hmc := made_chan N HN15.out W1.drew
     refine ⟨_, .chan (some W1.heap.size), (W1.drew.alloc (.chan N #[] false 0 0 false)), rfl, rfl, by simp [go_sem]; rw [hmc]; rfl, trivial, ?_⟩
     refine z15 (by simp [go_sem]; exact rfl) ?_
     refine z29 (i := 3) (v := .slice (some ⟨W1.heap.size + 1, 0, none⟩) N N) (w1 := ((W1.drew.alloc (.chan N #[] false 0 0 false)).alloc (.cells cS 43))) rfl (by kernel_rfl) rfl rfl (by simp [go_sem]; rw [hmk]; simp; rfl) trivial (by simp [go_sem]; exact rfl) ?_
     refine z29 (i := 7) (v := .agg #[.slice ac N cc, .slice (some ⟨(W1.heap.size + 1), 0, none⟩) N N, .chan (some W1.heap.size), .int .i64 0]) (w1 := ((W1.drew.alloc (.chan N #[] false 0 0 false)).alloc (.cells cS 43))) rfl (by kernel_rfl) rfl rfl (by simp [go_sem]) trivial (by simp [go_sem]; exact rfl) ?_
     refine z29 (i := 8) (v := .pointer (some ⟨W1.heap.size + 2, 0, none⟩)) (w1 := ((W1.drew.alloc (.chan N #[] false 0 0 false)).alloc (.cells cS 43)).alloc (.cells #[.slice ac N cc, .slice (some ⟨(W1.heap.size + 1), 0, none⟩) N N, .chan (some W1.heap.size), .int .i64 0] 64)) rfl (by kernel_rfl) rfl rfl (by simp [go_sem]) trivial (by simp [go_sem]; exact rfl) ?_
     refine z29 (i := 9) (v := .pointer (some ⟨W1.heap.size + 2, 0, none⟩)) (w1 := ((W1.drew.alloc (.chan N #[] false 0 0 false)).alloc (.cells cS 43)).alloc (.cells #[.slice ac N cc, .slice (some ⟨(W1.heap.size + 1), 0, none⟩) N N, .chan (some W1.heap.size), .int .i64 0] 64)) rfl (by kernel_rfl) rfl rfl (by simp [go_sem]) trivial (by simp [go_sem]; exact rfl) ?_
     refine z32 (by kernel_rfl) ?_
     have t2 := two_new W1.drew (.chan N #[] false 0 0 false) (.cells cS 43)
     have t3 := MapKept.heap_alloc ((W1.drew.alloc (.chan N #[] false 0 0 false)).alloc (.cells cS 43)) (.cells #[.slice ac N cc, .slice (some ⟨(W1.heap.size + 1), 0, none⟩) N N, .chan (some W1.heap.size), .int .i64 0] 64)
     have hs2 : ((W1.drew.alloc (.chan N #[] false 0 0 false)).alloc (.cells cS 43)).heap.size = W1.heap.size + 2 := by simp
     have hs0 : W1.drew.heap.size = W1.heap.size := rfl
     rw [hs0] at t2
     have g3 := t3.1
     rw [hs2] at g3
     have hb : Below w.heap.size w (((W1.drew.alloc (.chan N #[] false 0 0 false)).alloc (.cells cS 43)).alloc (.cells #[.slice ac N cc, .slice (some ⟨(W1.heap.size + 1), 0, none⟩) N N, .chan (some W1.heap.size), .int .i64 0] 64)) := by
       have hb1 := HB1.out.trans (hD.mono HB1.out.size)
       have hb2 := hb1.alloc hb1.size (.chan N #[] false 0 0 false)
       have hb3 := hb2.alloc hb2.size (.cells cS 43)
       exact hb3.alloc hb3.size _
     have hFl := fl_start (Fb := W1.heap.size + 2) (gs := (W1.heap.size + 1)) (ch := W1.heap.size) hb g3 ((t3.2 _ (by omega)).trans t2.2) ((t3.2 _ (by omega)).trans t2.1) (by have := HB1.out.size; omega) (by have := HB1.out.size; omega) (by have := HB1.out.size; omega) hcs hcz HN15.out
     clear hmk hmc t2 t3 g3 hs2 hs0 hcs hcz hb
     obtain ⟨X, hX⟩ : ∃ X, ((W1.drew.alloc (.chan N #[] false 0 0 false)).alloc (.cells cS 43)).alloc (.cells #[.slice ac N cc, .slice (some ⟨(W1.heap.size + 1), 0, none⟩) N N, .chan (some W1.heap.size), .int .i64 0] 64) = X := ⟨_, rfl⟩
     rw [hX] at hFl ⊢
     clear hX
     have hrest := spots_rest HN.out hFl HOk.out HIn.out.1 HIn.out.2
     go_wp2_with fail
     exact hrest
end
section
open Go.RowKit Go.Extern.Stop Go.Stop Go.Extern
def LaidE (w : World) : Prop := w.cell? ⟨0, 0, none⟩ = some (.iface 136 (.agg #[.pointer (some ⟨1, 38, none⟩)]))
theorem asBad_nil (t : Value) (w : World) : Calls Tryz.prog 20 #[.nilIface, t] w fun e w' => e = .returned (.bool false) ∧ w' = w := by
 go_enter Tryz.func20, Tryz.ntmps20
 go_wp2
 go_ret
 exact ⟨rfl, rfl⟩

abbrev valPP (b : Nat) : Value := .agg #[.pointer (some ⟨1, 70, none⟩), .pointer (some ⟨b, 0, none⟩), .int .u64 150]
abbrev valP (a : Addr) (fl : Int) : Value := .agg #[.pointer (some ⟨1, 58, none⟩), .pointer (some a), .int .u64 fl]
abbrev typP (t : Nat) : Value := .agg #[.pointer (some ⟨1, t, none⟩)]
abbrev typI (t : Nat) : Value := .iface 136 (typP t)
theorem bc_valueOf2 (t : Addr) (w : World) : (ReflectliteValue.unpack (.iface 70 (.pointer (some t)))).run Tryz.prog w = .ok (valPP w.heap.size) (w.alloc (.cells #[.pointer (some t)] 70)) := by kernel_rfl
theorem bc_valueOf (e : Addr) (w : World) : (ReflectliteValue.unpack (.iface 58 (.pointer (some e)))).run Tryz.prog w = .ok (valP ⟨w.heap.size, 0, none⟩ 150) (w.alloc (.cells #[.pointer (some e)] 58)) := by kernel_rfl
theorem bc_type2 (b : Nat) (w : World) : (ReflectliteValue.methodAny (ReflectliteValue.valueError "reflectlite.Value.Type" 0) (fun t _ _ _ => ReflectliteType.toType t) #[valPP b]).run Tryz.prog w = .ok (typI 70) w := by kernel_rfl
theorem bc_mKind (h : Value) (w : World) : (Go.method 295 136 (.agg #[h]) "Kind").run Tryz.prog w = .ok (106, h) w := by kernel_rfl
theorem bc_mElem (h : Value) (w : World) : (Go.method 295 136 (.agg #[h]) "Elem").run Tryz.prog w = .ok (117, .agg #[h]) w := by kernel_rfl
theorem bc_mImpl (h : Value) (w : World) : (Go.method 295 136 (.agg #[h]) "Implements").run Tryz.prog w = .ok (118, .agg #[h]) w := by kernel_rfl
theorem bc_mAssign (h : Value) (w : World) : (Go.method 295 136 (.agg #[h]) "AssignableTo").run Tryz.prog w = .ok (115, .agg #[h]) w := by kernel_rfl
theorem bc_kind2 (w : World) : ((ReflectliteType.abiMethod fun t => (fun a : Nat => Value.int IntKind.u8 (a : Int)) <$> Rtype.kind t) #[.pointer (some ⟨1, 70, none⟩)]).run Tryz.prog w = .ok (.int .u8 22) w := by kernel_rfl
theorem bc_kind (w : World) : ((ReflectliteType.abiMethod fun t => (fun a : Nat => Value.int IntKind.u8 (a : Int)) <$> Rtype.kind t) #[.pointer (some ⟨1, 58, none⟩)]).run Tryz.prog w = .ok (.int .u8 22) w := by kernel_rfl
theorem bc_elem (w : World) : (ReflectliteType.method ReflectliteType.elem #[typP 70]).run Tryz.prog w = .ok (typI 58) w := by kernel_rfl
theorem bc_impl (w : World) : (ReflectliteType.relation "Implements" ReflectliteType.implements_ #[typP 58, typI 38]).run Tryz.prog w = .ok (.bool true) w := by kernel_rfl
theorem bc_typeOf (v : Value) (w : World) : (ReflectliteType.typeOf #[.iface 58 v]).run Tryz.prog w = .ok (typI 58) w := by kernel_rfl
theorem bc_assign (w : World) : (ReflectliteType.relation "AssignableTo" ReflectliteType.assignableTo #[typP 58, typI 58]).run Tryz.prog w = .ok (.bool true) w := by kernel_rfl
theorem bc_parts2 (b : Nat) (w : World) : (ReflectliteValue.parts (valPP b)).run Tryz.prog w = .ok (some (70, ⟨b, 0, none⟩, 150)) w := by kernel_rfl
theorem bc_elemT (w : World) : (Rtype.elem? 70).run Tryz.prog w = .ok (some 58) w := by kernel_rfl
theorem bc_mk (p : Addr) (w : World) : (ReflectliteValue.mk 58 p ReflectliteValue.flagAddr).run Tryz.prog w = .ok (valP p 406) w := by kernel_rfl
theorem method_one (z : Sem Value) (f : TypeId → Addr → Nat → Nat → Sem Value) (v : Value) : ReflectliteValue.method z f #[v] = (ReflectliteValue.parts v >>= fun x => match x with | none => z | some (t, a, fl) => f t a fl (fl % 32)) := rfl
theorem bc_isNil (b : Nat) (p : Addr) (W : World) (ha : W.cell? ⟨b, 0, none⟩ = some (.pointer (some p))) :
   (ReflectliteValue.method (ReflectliteValue.valueError "reflectlite.Value.IsNil" 0) ReflectliteValue.isNil #[valPP b]).run Tryz.prog W = .ok (.bool false) W := by
 rw [method_one]
 simp only [Sem.run_bind, bc_parts2, Result.andThen]
 simp [ReflectliteValue.isNil, loadVar, isAgg, underlying, Tryz.underlying70, ha, Result.andThen]
theorem bc_elemV (b : Nat) (p : Addr) (W : World) (ha : W.cell? ⟨b, 0, none⟩ = some (.pointer (some p))) :
   (ReflectliteValue.method (ReflectliteValue.valueError "reflectlite.Value.Elem" 0) ReflectliteValue.elem #[valPP b]).run Tryz.prog W = .ok (valP p 406) W := by
 rw [method_one]
 simp only [Sem.run_bind, bc_parts2, Result.andThen]
 simp [ReflectliteValue.elem, loadVar, isAgg, underlying, Tryz.underlying70, ha, Result.andThen, bc_elemT, bc_mk]
theorem bc_setRun (ta b : Addr) (W : World) : (ReflectliteValue.set #[valP ta 406, valP b 150]).run Tryz.prog W = (do let x ← loadVar 58 b; storeVar 58 ta x; pure (Value.tuple #[]) : Sem Value).run Tryz.prog W := by kernel_rfl
theorem bc_set (ta b e : Addr) (old : Value) (W : World) (hb : W.cell? b = some (.pointer (some e))) (ht : W.cell? ta = some old) (hf : W.frozen? ta = false) :
   (ReflectliteValue.set #[valP ta 406, valP b 150]).run Tryz.prog W = .ok (.tuple #[]) (W.setCell ta (.pointer (some e))) := by
 rw [bc_setRun]
 simp [loadVar, isAgg, underlying, Tryz.underlying58, hb, Result.andThen, storeVar, Value.cells, storeCells, Addr.add]
 rw [run_store Tryz.prog W ta _ _ (by rfl)]
 simp [ht, hf]
def asW (w : World) (e t : Addr) : World := (((w.alloc (.cells #[.pointer (some t)] 70)).alloc (.cells #[.pointer (some ⟨1, 70, none⟩), .pointer (some ⟨w.heap.size, 0, none⟩), .int .u64 150] 100)).alloc (.cells #[.pointer (some ⟨1, 70, none⟩), .pointer (some ⟨w.heap.size, 0, none⟩), .int .u64 150] 100)).alloc (.cells #[.pointer (some e)] 58)
set_option maxHeartbeats 4000000 in
theorem asBad_hit (e t : Addr) (old : Value) (w : World) (hg : LaidE w) (ht0 : w.cell? t = some old) (hf0 : w.frozen? t = false) :
   Calls Tryz.prog 20 #[.iface 58 (.pointer (some e)), .iface 70 (.pointer (some t))] w fun ev w' => ev = .returned (.bool true) ∧ w' = (asW w e t).setCell t (.pointer (some e)) := by
 have hlt : 0 < w.heap.size := by
   rcases Nat.eq_zero_or_pos w.heap.size with h0 | h
   · simp [LaidE, World.cell?, h0] at hg
   · exact h
 have htl : t.block < w.heap.size := by
   rcases Nat.lt_or_ge t.block w.heap.size with h | h
   · exact h
   · simp [World.cell?, Array.getElem?_eq_none h] at ht0
 have xV := @run_callFunc_extern Tryz.prog 37 _ (fun args => ReflectliteValue.unpack (args.getD 0 (.tuple #[]))) Tryz.func37 (by kernel_rfl) (by kernel_rfl) (by kernel_rfl) (by kernel_rfl)
 have xT := @run_callFunc_extern Tryz.prog 38 _ (ReflectliteValue.methodAny (ReflectliteValue.valueError "reflectlite.Value.Type" 0) (fun t _ _ _ => ReflectliteType.toType t)) Tryz.func38 (by kernel_rfl) (by kernel_rfl) (by kernel_rfl) (by kernel_rfl)
 have xN := @run_callFunc_extern Tryz.prog 39 _ (ReflectliteValue.method (ReflectliteValue.valueError "reflectlite.Value.IsNil" 0) ReflectliteValue.isNil) Tryz.func39 (by kernel_rfl) (by kernel_rfl) (by kernel_rfl) (by kernel_rfl)
 have xK := @run_callFunc_extern Tryz.prog 106 _ (ReflectliteType.abiMethod fun t => do pure (.int .u8 (← Rtype.kind t))) Tryz.func106 (by kernel_rfl) (by kernel_rfl) (by kernel_rfl) (by kernel_rfl)
 have xE := @run_callFunc_extern Tryz.prog 117 _ (ReflectliteType.method ReflectliteType.elem) Tryz.func117 (by kernel_rfl) (by kernel_rfl) (by kernel_rfl) (by kernel_rfl)
 have xI := @run_callFunc_extern Tryz.prog 118 _ (ReflectliteType.relation "Implements" ReflectliteType.implements_) Tryz.func118 (by kernel_rfl) (by kernel_rfl) (by kernel_rfl) (by kernel_rfl)
 have xO := @run_callFunc_extern Tryz.prog 69 _ ReflectliteType.typeOf Tryz.func69 (by kernel_rfl) (by kernel_rfl) (by kernel_rfl) (by kernel_rfl)
 have xA := @run_callFunc_extern Tryz.prog 115 _ (ReflectliteType.relation "AssignableTo" ReflectliteType.assignableTo) Tryz.func115 (by kernel_rfl) (by kernel_rfl) (by kernel_rfl) (by kernel_rfl)
 have xL := @run_callFunc_extern Tryz.prog 70 _ (ReflectliteValue.method (ReflectliteValue.valueError "reflectlite.Value.Elem" 0) ReflectliteValue.elem) Tryz.func70 (by kernel_rfl) (by kernel_rfl) (by kernel_rfl) (by kernel_rfl)
 have xS := @run_callFunc_extern Tryz.prog 71 _ ReflectliteValue.set Tryz.func71 (by kernel_rfl) (by kernel_rfl) (by kernel_rfl) (by kernel_rfl)
 have b1 := bc_valueOf2
 have b2 := bc_valueOf
 have b3 := bc_type2
 have b4 := bc_mKind
 have b5 := bc_mElem
 have b6 := bc_mImpl
 have b7 := bc_mAssign
 have b8 := bc_kind2
 have b9 := bc_kind
 have c1 := bc_elem
 have c2 := bc_impl
 have c3 := bc_typeOf
 have c4 := bc_assign
 have n8 := bc_isNil w.heap.size t ((w.alloc (.cells #[.pointer (some t)] 70)).alloc (.cells #[.pointer (some ⟨1, 70, none⟩), .pointer (some ⟨w.heap.size, 0, none⟩), .int .u64 150] 100)) (by simp)
 have hg2 : ((w.alloc (.cells #[.pointer (some t)] 70)).alloc (.cells #[.pointer (some ⟨1, 70, none⟩), .pointer (some ⟨w.heap.size, 0, none⟩), .int .u64 150] 100)).cell? ⟨0, 0, none⟩ = some (.iface 136 (.agg #[.pointer (some ⟨1, 38, none⟩)])) := by
   rw [World.cell?_alloc_lt _ _ ⟨0, 0, none⟩ (by simp), World.cell?_alloc_lt _ _ ⟨0, 0, none⟩ hlt]
   exact hg
 have el := bc_elemV w.heap.size t (((w.alloc (.cells #[.pointer (some t)] 70)).alloc (.cells #[.pointer (some ⟨1, 70, none⟩), .pointer (some ⟨w.heap.size, 0, none⟩), .int .u64 150] 100)).alloc (.cells #[.pointer (some ⟨1, 70, none⟩), .pointer (some ⟨w.heap.size, 0, none⟩), .int .u64 150] 100)) (by rw [World.cell?_alloc_lt _ _ ⟨w.heap.size, 0, none⟩ (by simp; omega)]; simp)
 have st := bc_set t ⟨w.heap.size + 1 + 1 + 1, 0, none⟩ e old (asW w e t)
   (by unfold asW; rw [World.cell?_alloc_at _ _ _ _ (by simp)]; rfl)
   (by unfold asW; rw [World.cell?_alloc_lt _ _ t (by simp; omega), World.cell?_alloc_lt _ _ t (by simp; omega), World.cell?_alloc_lt _ _ t (by simp; omega), World.cell?_alloc_lt _ _ t htl]; exact ht0)
   (by unfold asW; rw [World.frozen?_alloc_old _ _ t (by simp; omega), World.frozen?_alloc_old _ _ t (by simp; omega), World.frozen?_alloc_old _ _ t (by simp; omega), World.frozen?_alloc_old _ _ t (Nat.ne_of_lt htl)]; exact hf0)
 unfold asW at st
 unfold valPP at b1 b3 n8 el
 unfold valP at b2 el st
 unfold typI typP at b3 c1 c2 c3 c4
 clear hg
 go_enter Tryz.func20, Tryz.ntmps20
 go_wp2
 refine wp_loop_rounds 1 ?_
 rw [rounds_succ]
 go_wp2
 go_ret
 exact ⟨rfl, rfl⟩
end
section
open Go.RowKit
theorem LaidE.lt {w : World} (h : LaidE w) : 0 < w.heap.size := by
 rcases Nat.eq_zero_or_pos w.heap.size with h0 | h1
 · simp [LaidE, World.cell?, h0] at h
 · exact h1
theorem LaidE.stays {w w' : World} (h : LaidE w) (hb : Below w.heap.size w w') : LaidE w' := by
 have e := hb.block 0 h.lt
 unfold LaidE World.cell? at h ⊢
 simp only [e]
 exact h
theorem z53 {B : Nat} {W X : World} (h : Below B W X) (a : Addr) (v : Value) (ha : B ≤ a.block) : Below B W (X.setCell a v) := by
 have h0 := h.size
 exact ⟨h.os, h.tape, h.output, by simpa [World.setCell] using h0, fun q hq => (Below.heap_setCell X a v q (by omega)).trans (h.block q hq)⟩
theorem below_asW (w : World) (e t : Addr) {W : World} (h : Below W.heap.size W w) : Below W.heap.size W (asW w e t) := by
 unfold asW
 have h1 := h.alloc h.size (.cells #[.pointer (some t)] 70)
 have h2 := h1.alloc h1.size (.cells #[.pointer (some ⟨1, 70, none⟩), .pointer (some ⟨w.heap.size, 0, none⟩), .int .u64 150] 100)
 have h3 := h2.alloc h2.size (.cells #[.pointer (some ⟨1, 70, none⟩), .pointer (some ⟨w.heap.size, 0, none⟩), .int .u64 150] 100)
 exact h3.alloc h3.size _
theorem isBad_nil (w : World) : Calls Tryz.prog 12 #[.nilIface] w fun e w' => e = .returned (.bool false) ∧ Below w.heap.size w w' := by
 have HA := hid (fun t w => asBad_nil t w)
 go_enter Tryz.func12, Tryz.ntmps12
 go_wp2_with fail
 refine (HA.out _ _).mono ?_
 rintro e w2 ⟨rfl, rfl⟩
 go_wp2_with fail
 go_ret
 exact ⟨rfl, (Below.refl _ _).alloc (Nat.le_refl _) _⟩
theorem isBad_hit (pb : Nat) (w : World) (hL : LaidE w) : Calls Tryz.prog 12 #[.iface 58 (.pointer (some ⟨pb, 0, none⟩))] w fun e w' => e = .returned (.bool true) ∧ Below w.heap.size w w' := by
 have hb0 := (Below.refl w.heap.size w).alloc (Nat.le_refl _) (.cells #[.pointer none] 58)
 have HA := hid (asBad_hit ⟨pb, 0, none⟩ ⟨w.heap.size, 0, none⟩ (.pointer none) (w.alloc (.cells #[.pointer none] 58)) (hL.stays hb0) (by rw [World.cell?_alloc_at _ _ _ _ rfl]; rfl) (z13 (MapKept.heap_alloc w (.cells #[.pointer none] 58)).1 0))
 have HB := hid (z53 (below_asW _ ⟨pb, 0, none⟩ ⟨w.heap.size, 0, none⟩ hb0) ⟨w.heap.size, 0, none⟩ (.pointer (some ⟨pb, 0, none⟩)) (Nat.le_refl _))
 clear hb0 hL
 go_enter Tryz.func12, Tryz.ntmps12
 go_wp2_with fail
 refine HA.out.mono ?_
 rintro e w2 ⟨rfl, rfl⟩
 obtain ⟨X, hX⟩ : ∃ X, (asW (w.alloc (.cells #[.pointer none] 58)) ⟨pb, 0, none⟩ ⟨w.heap.size, 0, none⟩).setCell ⟨w.heap.size, 0, none⟩ (.pointer (some ⟨pb, 0, none⟩)) = X := ⟨_, rfl⟩
 rw [hX] at HB ⊢
 clear hX HA
 go_wp2_with fail
 go_ret
 exact ⟨rfl, HB.out⟩
set_option maxRecDepth 100000 in
theorem indexNone_calls (ad : Option Addr) (cap : Nat) (w : World) :
   Calls Tryz.prog 63 #[.slice ad 0 cap, .func (.func 33) #[] #[]] w fun e w' => e = .returned (.int .i64 (-1)) ∧ w = w' := by
 go_enter Tryz.func63, Tryz.ntmps63
 go_wp2
 refine wp_loop_rounds 1 ?_
 rw [rounds_succ]
 go_wp2
 go_ret
 exact ⟨rfl, rfl⟩
set_option maxRecDepth 100000 in
theorem listNone_calls (ad : Option Addr) (cap : Nat) (w : World) :
   Calls Tryz.prog 17 #[.slice ad 0 cap] w fun e w' => e = .returned (.bool true) ∧ Below w.heap.size w w' := by
 have HY : Hid (∀ X, Calls Tryz.prog 32 #[.slice ad 0 cap, .func (.func 33) #[] #[]] X fun e w' => e = .returned (.bool false) ∧ X = w') := by
   show ∀ X, _
   intro X
   go_enter Tryz.func32, Tryz.ntmps32
   go_wp2_with fail
   refine (indexNone_calls ad cap _).mono ?_
   rintro e w2 ⟨rfl, rfl⟩
   go_wp2_with fail
   go_ret
   exact ⟨rfl, rfl⟩
 go_enter Tryz.func17, Tryz.ntmps17
 go_wp2_with fail
 refine (HY.out _).mono ?_
 rintro e w2 ⟨rfl, rfl⟩
 go_wp2_with fail
 go_ret
 exact ⟨rfl, Below.refl _ _⟩
theorem spots_any {ac : Option Addr} {cc : Nat} {is : List In} (w : World) (h : InsSlice w (.slice ac is.length cc) is) (hcc : is.length ≤ cc) :
   Calls Tryz.prog 11 #[.slice ac is.length cc] w (SpotsP is w) := by
 obtain ⟨a, cap, e, hh⟩ := h
 have e1 : ac = a := by injection e
 subst e1
 refine codeSpots_calls ac cc is w hcc (hh.imp id fun ⟨b, o, h1, h2, h3⟩ => ⟨b, o, h1, h2, h3⟩) ?_
 show Calls _ _ _ _ _
 rcases hh with rfl | ⟨b, o, rfl, h2, h3⟩
 · exact listNone_calls ac cc w
 · exact listOk_calls b o cc is w h2 h3
theorem implOk_any {ac : Option Addr} {cc : Nat} {is : List In} (w : World) (hL : LaidE w) (h : InsSlice w (.slice ac is.length cc) is) (hcc : is.length ≤ cc) :
   Calls Tryz.prog 8 #[.slice ac is.length cc] w fun e w' => e = .returned (.bool (validZ is)) ∧ Below w.heap.size w w' := by
 have HS := hid (spots_any w h hcc)
 have HL := hid hL
 clear h hL hcc
 go_enter Tryz.func8, Tryz.ntmps8
 go_wp2_with fail
 refine HS.out.mono ?_
 rintro e W1 ⟨hb, ⟨hv, pb, rfl⟩ | ⟨hv, T, g, -, rfl, -⟩⟩
 · have HI := hid (isBad_hit pb W1 (HL.out.stays hb))
   have HB := hid hb
   have HV := hid hv
   clear hb hv HS HL
   go_wp2_with fail
   refine HI.out.mono ?_
   rintro e W2 ⟨rfl, hb2⟩
   have HB2 := hid hb2
   clear hb2 HI
   go_wp2_with fail
   go_ret
   exact ⟨by rw [HV.out]; rfl, HB.out.trans (HB2.out.mono HB.out.size)⟩
 · have HI := hid (isBad_nil W1)
   have HB := hid hb
   have HV := hid hv
   clear hb hv HS HL
   go_wp2_with fail
   refine HI.out.mono ?_
   rintro e W2 ⟨rfl, hb2⟩
   have HB2 := hid hb2
   clear hb2 HI
   go_wp2_with fail
   go_ret
   exact ⟨by rw [HV.out]; rfl, HB.out.trans (HB2.out.mono HB.out.size)⟩
end
end Go.Proofs.YtfmkgppkgmjpfaaGreatDoor
