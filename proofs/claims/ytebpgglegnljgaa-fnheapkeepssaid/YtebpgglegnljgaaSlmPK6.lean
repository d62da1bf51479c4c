import Derived.Test.YtebpgglegnljgaaSlmPK5
import Derived.IntWalk
import Derived.Test.YtebpgglegnljgaaSlmPK2
import Derived.Test.YtebpgglegnljgaaSlmPK4
import Derived.Deep.Cut
import Derived.Test.YtebpgglegnljgaaSlmPK3
import Derived.Test.YtebpgglegnljgaaSlmPK1
namespace Go.Proofs.Ytebpgglegnljgaa
open Go.RowKit Go.Deep

set_option maxRecDepth 100000 in
theorem unit_calls (w : World) : Calls Try.prog 84 #[] w fun e w' => e = .returned (.int .i64 3) ∧ w = w' := by
  go_enter Try.func84, Try.ntmps84
  go_wp2_with fail
  have e1 := specMake_calls 3 0 w
  rw [show makeZ 3 0 = 3 by unfold makeZ wrap64; omega] at e1
  refine e1.mono ?_
  rintro e w1 ⟨rfl, rfl⟩
  go_wp2_with fail
  go_ret
  exact ⟨rfl, rfl⟩

set_option maxRecDepth 100000 in
theorem five_calls (w : World) : Calls Try.prog 85 #[.int .i64 5] w fun e w' => e = .returned (.int .i64 41) ∧ w = w' := by
  go_enter Try.func85, Try.ntmps85
  go_wp2_with fail
  have e1 := specMake_calls 1 5 w
  rw [show makeZ 1 5 = 41 by unfold makeZ wrap64; omega] at e1
  refine e1.mono ?_
  rintro e w1 ⟨rfl, rfl⟩
  go_wp2_with fail
  go_ret
  exact ⟨rfl, rfl⟩

theorem new_ok {s : Nat} (h0 : 20 ≤ s) (h1 : s ≤ 4000) : OkHeap (List.replicate (2 * s) 0) (List.replicate (2 * s) 0) (newHeap s) := by
  refine ok_of_dyn ?_
  have z : ∀ a : Nat, (List.replicate (2 * s) (0 : Int)).getD a 0 = 0 := zeros_getD _
  unfold newHeap
  refine ⟨?_, rfl, fun a ha => absurd (z a) ha, fun a ha => absurd (z a) ha, fun a b _ ha _ => absurd (z a) ha, LayRow.nil _, ?_, fun k => ?_, fun k => ?_, fun a ha => absurd (z a) ha, fun a ha => absurd (z a) ha, fun a ha => absurd (z a) ha⟩
  · unfold Ordered
    rw [List.length_replicate]
    dsimp only
    omega
  · dsimp only
    rw [show (0 + (s : Int)).toNat = (s : Int).toNat by omega]
    exact LayRow.nil _
  · dsimp only at k
    omega
  · dsimp only at k
    omega

def WorkP (p : Pl) (e : Ending) (W' : World) : Prop :=
  ∃ (bm bw cp g q : Nat) (ws : List Int) (h : HpN) (full : Bool) (rs : List Int) (gc : Nat), e = .returned (.tuple #[.pointer (some ⟨bm, 0, none⟩), .slice (some ⟨g, 0, none⟩) 4 gc]) ∧ Sw { p with bm := bm, bw := bw, cp := cp, g := g, N := ws.length } q ws h full rs W' ∧ q ≤ 1000 ∧ (4 ≤ gc ∧ ws.length ≤ cp) ∧ ws.length ≤ 8000 ∧ 0 < ws.length ∧ h.flips ≤ 100 ∧ h.touched ≤ 100000000

theorem frm_below {X W : World} {b1 b2 : Nat} (f : Frm X b1 b2 W) (h1 : X.heap.size ≤ b1) (h2 : X.heap.size ≤ b2) : Below X.heap.size X W := ⟨f.os, f.tape, f.output, f.size, fun k hk => f.block k hk (by omega) (by omega)⟩

theorem four_row (W : World) (a b c d : Int) : CellRow 3 (W.alloc (.cells #[.int .i64 a, .int .i64 b, .int .i64 c, .int .i64 d] 3)) W.heap.size 4 (intCells [a, b, c, d]) := by
  refine ⟨4, intCells [a, b, c, d], rw_of_row (World.rowIs_alloc W _ 3 (intCells [a, b, c, d]) (fun i hi => ?_)) 4, Nat.le_refl _, fun _ _ => rfl⟩
  have h : i = 0 ∨ i = 1 ∨ i = 2 ∨ i = 3 := by
    have : i < 4 := hi
    omega
  rcases h with rfl | rfl | rfl | rfl <;> rfl

structure Hd (p : Pl) (k q : Nat) (ws : List Int) (h : HpN) (full : Bool) (rs : List Int) (W : World) : Prop where
  sw : Sw p q ws h full rs W
  k0 : k ≤ 60
  q0 : q ≤ 2 + 16 * k
  good : full = false → Gd ws h rs k
  fl : h.flips ≤ 100
  tc : h.touched ≤ 100000000

theorem plain_ok {S : List Int} {h : HpN} {x : Int} (h1 : x % 8 ≠ 0) (h2 : x % 8 ≤ 4) : wordOkZ S h x = true := by
  unfold wordOkZ
  rw [if_neg h1]
  exact decide_eq_true h2

theorem pick_callOr {P : Program} {l0 : List Oper} {Q : Exit → Act → World → Prop} {S : World → Prop} {i j n : Nat} {ls : Array Bool} {a : Act} {w : World} (hr : (Region.ready .any l0.toArray ls == [i, j]) = true) (h1 : PickCl P l0 Q S n ls a w i) (h2 : PickMk P l0 Q S n ls a w j) : wpAnyH P .any l0.toArray (NoPanic Q) S (n + 1) ls a w := by
  refine wpAnyH_all (rs := [i, j]) (by simpa using hr) (by simp) (fun k hk => ?_)
  simp only [List.mem_cons, List.not_mem_nil, or_false] at hk
  rcases hk with rfl | rfl
  · exact h1.op
  · exact h2.op

theorem Sw.rootcell {p : Pl} {q : Nat} {ws : List Int} {h : HpN} {full : Bool} {rs : List Int} {W : World} (s : Sw p q ws h full rs W) {k : Nat} (hk : k < 4) : W.cell? ⟨p.g, k, none⟩ = some (.int .i64 (rs.getD k 0)) ∧ W.frozen? ⟨p.g, k, none⟩ = false := by
  refine ⟨s.rt.cell hk, ?_⟩
  obtain ⟨N, f, hr, h1, h2⟩ := s.rt
  exact hr.frozen k hk

def FldEnd (P : Pl) (k q : Nat) (rs : List Int) (z : Int) (X : World) : Prop := ∃ ws2 h2 fu, Sw P q ws2 h2 fu rs X ∧ h2.flips ≤ 100 ∧ h2.touched ≤ 100000000 ∧ ∀ r, r < 4 → fu = false → Gd ws2 h2 (rs.set r z) (k + 1)

theorem roots_set {S rs : List Int} {h : HpN} {r : Nat} {z : Int} (hr : ∀ i, i < rs.length → wordOkZ S h (rs.getD i 0) = true) (hz : wordOkZ S h z = true) : ∀ i, i < (rs.set r z).length → wordOkZ S h ((rs.set r z).getD i 0) = true := fun i hi => by
  rw [List.length_set] at hi
  rw [getD_set]
  split
  · exact hz
  · exact hr i hi

theorem sw_field {P : Pl} {q : Nat} {ws S rs : List Int} {h : HpN} {X : World} {x0 : Int} {mi n k : Nat} (s : Sw P q ws h false rs X) (ok : OkHeap ws S h) (hr : ∀ i, i < rs.length → wordOkZ S h (rs.getD i 0) = true) (hx : wordOkZ S h x0 = true) (hx8 : x0 % 8 = 0) (hs : S.getD (x0 / 8).toNat 0 = ((1 + n : Nat) : Int)) (hmi : mi < n) (hfl : h.flips ≤ (k + 1 : Nat)) (hk : k ≤ 60) (htc : h.touched ≤ 300000 * k + 150000) :
    Calls Try.prog 55 #[.pointer (some ⟨P.bm, 0, none⟩), .int .i64 x0, .int .i64 (mi : Int)] X fun e Xd => ∃ z, e = .returned (.int .i64 z) ∧ FldEnd P k q rs z Xd := by
  obtain ⟨l1, l2, l3, l4⟩ := ((used_iff ok x0).1 hx).2 hx8
  have hin := l4.resolve_right id
  obtain ⟨a, ha⟩ := Int.eq_ofNat_of_zero_le l1
  rw [ha, Int.toNat_natCast] at l3 hin hs
  have hst := used_stays ok l3 (ins_iff.1 hin)
  have hgood := field_good ok l3 hst (i := mi) (by omega)
  have hmv := good_move (h := h) (heads_noted ok.noted) hgood
  have hhe := good_here ok.ord hgood
  have hbe := (dyn_of_ok ok).below l3
  obtain ⟨o1, o2, o3, o4, o5, o6, o7, o8, o9, o10, o11, o12, o13⟩ := id ok.ord
  have hN := s.len
  have hcnt := field_count (h := h) hmv
  rw [hN] at hmv o3 hbe
  refine (sfield_calls (s.worker o6 (by omega)) x0 mi (a + 1 + mi) (by omega) (by omega) (by omega) (by omega) (by omega) (by omega) (show 0 ≤ h.to by omega) (show h.to ≤ h.size by omega) o2 (show 0 ≤ h.bottom by omega) o9 (show h.top ≤ (P.N : Int) by omega) (by omega) hmv hhe).mono ?_
  rintro e Xd ⟨⟨z, rfl, hz⟩, hwk⟩
  have hke := fun (u : Int) (s2 : CN) (he : fieldZ ⟨ws, h, 0, 0⟩ (a + (1 + mi)) = (some u, s2)) (ht : 0 ≤ touchZ s2) => keep_field ok hr l3 hin (by omega) (by rw [hs]; omega) he ht
  rw [show a + (1 + mi) = a + 1 + mi by omega] at hke
  generalize fieldZ ⟨ws, h, 0, 0⟩ (a + 1 + mi) = R at *
  obtain ⟨o, s2⟩ := R
  dsimp only at hz hwk hcnt hke
  obtain ⟨k1, k2, k3, k4⟩ := hcnt
  have et : touchZ s2 = h.touched + (s2.r + s2.t) := by
    unfold touchZ wrap64
    omega
  have fr := hwk.frame
  have hb := s.o1
  have hb2 := s.o2
  have hlow := s.low
  obtain ⟨g1, g2, g3, g4⟩ := s.lt
  have bel : Grw P.B P.w0 Xd := s.below.step ⟨fr.os, fr.tape, fr.output, fr.size, fun j hj => fr.block j (by have := s.below.size; omega) (by omega) (by omega)⟩
  refine ⟨z, rfl, s2.ws, { s2.h with touched := touchZ s2 }, o.isNone, s.worked (hwk.rebase Xd (Frm.refl _ _ _)) (s.rt.of_block (fr.block _ g4 (Ne.symm s.n2) (Ne.symm s.n3))) s.rl (fun j hj => fr.block j (by omega) (by omega) (by omega)) bel, ?_, ?_, fun r hr4 hfu => ?_⟩
  · dsimp only
    omega
  · dsimp only
    omega
  · cases o with
    | none => cases hfu
    | some u =>
      obtain ⟨S', T, hfl'⟩ := hke u s2 rfl (by omega)
      have hzu := hz u rfl
      refine ⟨⟨S', T.still.ok, roots_set T.still.roots (by rw [hzu]; exact T.word)⟩, ?_, ?_⟩
      · dsimp only
        rw [hfl']
        exact hfl
      · dsimp only
        rw [et]
        push_cast
        omega

structure Aft (ws : List Int) (h : HpN) (rs : List Int) (x0 : Int) (n k : Nat) : Prop where
  ok : ∃ S, OkHeap ws S h ∧ (∀ i, i < rs.length → wordOkZ S h (rs.getD i 0) = true) ∧ wordOkZ S h x0 = true ∧ S.getD (x0 / 8).toNat 0 = ((1 + n : Nat) : Int)
  x8 : x0 % 8 = 0
  fl : h.flips ≤ (k + 1 : Nat)
  tc : h.touched ≤ 300000 * k + 150000
  t0 : 0 ≤ h.touched

theorem Aft.set {ws : List Int} {h : HpN} {rs : List Int} {x0 : Int} {n k : Nat} (a : Aft ws h rs x0 n k) (r : Nat) {y : Int} (hy : y = x0 ∨ (y % 8 ≠ 0 ∧ y % 8 ≤ 4)) : Aft ws h (rs.set r y) x0 n k := by
  obtain ⟨S, ok, h1, h2, h3⟩ := a.ok
  refine ⟨⟨S, ok, roots_set h1 ?_, h2, h3⟩, a.x8, a.fl, a.tc, a.t0⟩
  rcases hy with rfl | hy
  · exact h2
  · exact plain_ok hy.1 hy.2

theorem Aft.good {ws : List Int} {h : HpN} {rs : List Int} {x0 : Int} {n k : Nat} (a : Aft ws h rs x0 n k) : Gd ws h rs (k + 1) := by
  obtain ⟨S, ok, h1, h2, h3⟩ := a.ok
  exact ⟨⟨S, ok, h1⟩, a.fl, by have := a.tc; push_cast; omega⟩

theorem makeZ_ptr {t : Int} (h0 : 0 ≤ t) (h1 : t ≤ 8000) : makeZ 0 t = 8 * t := by
  unfold makeZ wrap64
  rw [if_neg (by omega)]
  omega

set_option maxHeartbeats 16000000 in
set_option maxRecDepth 100000 in
theorem work_calls (p : Pl) (W : World) (hr : Rd p.B p.a0 p.n p.cap 0 W) (hlow : p.B < p.w0.heap.size) (hb : Grw p.B p.w0 W) : Calls Try.prog 57 #[.pointer (some ⟨p.B, 0, none⟩)] W (WorkP p) := by
  have HP := hid (rd_picks hr (by omega) 100 (by omega))
  have HL := hid hlow
  have HB := hid hb
  have HR := hid hr
  clear hr hlow hb
  go_enter Try.func57, Try.ntmps57
  go_wp2_with fail
  refine HP.out.mono ?_
  rintro e W1 ⟨m, rfl, h0, h1, hr1, ho1⟩
  obtain ⟨s, hs⟩ := Int.eq_ofNat_of_zero_le (show 0 ≤ 20 + m by omega)
  have HS : Hid (20 ≤ s ∧ s ≤ 119) := by show _ ∧ _; omega
  have hw1 : wrap64 (20 + m) = (s : Int) := by unfold wrap64; omega
  have R1 := hid hr1
  have B1 := hid (HB.out.only ho1)
  clear hr1 ho1 HP h0 h1 hs
  go_wp2_with fail
  try rw [hw1]
  refine (specNew_ok s W1 HS.out.1 (by have := HS.out; omega)).mono ?_
  rintro e W2 ⟨⟨v, rfl, hv⟩, hb2⟩
  rw [List.length_replicate] at hv
  have hs0 := HS.out.1
  obtain ⟨ad, cpv, rfl, hh⟩ := hv
  obtain ⟨gv, rfl, hgv, hrow⟩ := hh.resolve_left (by omega)
  rw [Nat.mul_one] at hrow
  have R2 := hid (R1.out.same (fun k hk => hb2.block k (by have := heap_lt R1.out.blk; omega)))
  have B2 := hid (B1.out.keep hb2)
  have HO : Hid (∀ X, Below W2.heap.size W2 X → Calls Try.prog 46 #[heapV (.slice (some ⟨gv, 0, none⟩) (2 * s) cpv) (newHeap s)] X fun e w' => ∃ bm bw cap' : Nat, e = .returned (.pointer (some ⟨bm, 0, none⟩)) ∧ (Wk X bm bw (2 * s) cap' ⟨List.replicate (2 * s) 0, newHeap s, 0, 0⟩ false w' ∧ 2 * s ≤ cap') ∧ X.heap.size ≤ bm ∧ X.heap.size ≤ bw) := fun X hX => open_cap gv 0 cpv (2 * s) (List.replicate (2 * s) 0) (newHeap s) X (by omega) (List.length_replicate ..) (by have := HS.out; omega) (Nat.lt_of_lt_of_le hrow.lt hX.size) (fun k hk => by rw [Nat.zero_add]; exact (hX.cell (p := ⟨gv, k, none⟩) hrow.lt).trans (hrow.cell hk)) (by show (0 : Int) ≤ 0; decide) (by show (0 : Int) < 9223372036854775808; decide)
  clear hh hgv hrow hb2 R1 B1 hw1 hs0
  unfold heapV newHeap at HO ⊢
  dsimp only at HO ⊢
  go_wp2_with fail
  refine (HO.out _ ((Below.refl _ _).alloc (Nat.le_refl _) _)).mono ?_
  rintro e W3 ⟨bm, bw, cp, rfl, ⟨hk, hcp⟩, hbm, hbw⟩
  have HCp := hid hcp
  clear hcp
  have hX := ((Below.refl W2.heap.size W2).alloc (Nat.le_refl _) (.cells #[.slice (some ⟨gv, 0, none⟩) (2 * s) cpv, .int .i64 (s : Int), .int .i64 0, .int .i64 0, .int .i64 (s : Int), .int .i64 0, .int .i64 (s : Int), .int .i64 (2 * (s : Int)), .int .i64 0, .int .i64 0] 25))
  have hX3 := hX.trans ((frm_below hk.frame hbm hbw).mono hX.size)
  have R3 := hid (R2.out.same (fun k hk => hX3.block k (by have := heap_lt R2.out.blk; omega)))
  have B3 := hid (B2.out.keep hX3)
  have HK := hid (hk.rebase W3 (Frm.refl _ _ _))
  have HM : Hid (p.w0.heap.size ≤ bm ∧ p.w0.heap.size ≤ bw) := by have h1 := B2.out.size; have h2 := hX.size; exact ⟨by omega, by omega⟩
  clear hX3 hX hk hbm hbw R2 B2 HO HB HR
  go_wp2_with fail
  refine (unit_calls W3).mono ?_
  rintro e W4 ⟨rfl, rfl⟩
  go_wp2_with fail
  refine (unit_calls W3).mono ?_
  rintro e W4 ⟨rfl, rfl⟩
  go_wp2_with fail
  refine (five_calls W3).mono ?_
  rintro e W4 ⟨rfl, rfl⟩
  go_wp2_with fail
  have e4 := specMake_calls 4 0 W3
  rw [show makeZ 4 0 = 4 by unfold makeZ wrap64; omega] at e4
  refine e4.mono ?_
  rintro e W4 ⟨rfl, rfl⟩
  clear e4
  have HSw : Hid (Sw { p with bm := bm, bw := bw, cp := cp, g := W3.heap.size, N := 2 * s } 1 (List.replicate (2 * s) 0) (newHeap s) false [3, 3, 41, 4] (W3.alloc (.cells #[.int .i64 3, .int .i64 3, .int .i64 41, .int .i64 4] 3))) := by
    have hb := (Below.refl W3.heap.size W3).alloc (Nat.le_refl _) (.cells #[.int .i64 3, .int .i64 3, .int .i64 41, .int .i64 4] 3)
    have K := HK.out.keep hb
    have hB := heap_lt R3.out.blk
    have et : touchZ ⟨List.replicate (2 * s) 0, newHeap s, 0, 0⟩ = (newHeap s).touched := by unfold touchZ wrap64 newHeap; dsimp only; omega
    have kb : WkBlk _ bm (.slice (some ⟨bw, 0, none⟩) (2 * s) cp) (newHeap s) (touchZ ⟨List.replicate (2 * s) 0, newHeap s, 0, 0⟩) false := K.blk
    rw [et] at kb
    exact ⟨R3.out.same (fun k hk => hb.block k (by omega)), kb, K.row, K.len, four_row W3 3 3 41 4, rfl, HM.out.1, HM.out.2, B3.out.size, K.ne, (by have := heap_lt HK.out.blk; dsimp only; omega), (by have := HK.out.row.lt; dsimp only; omega), HL.out, B3.out.keep hb⟩
  obtain ⟨W5, hW5⟩ : ∃ X, W3.alloc (.cells #[.int .i64 3, .int .i64 3, .int .i64 41, .int .i64 4] 3) = X := ⟨_, rfl⟩
  obtain ⟨g, hg⟩ : ∃ g, W3.heap.size = g := ⟨_, rfl⟩
  rw [hW5, hg] at HSw
  clear HK HM R3 B3
  go_wp2_with fail
  clear hW5 hg
  refine (HSw.out.pick (by omega) 60 (by omega)).mono ?_
  rintro e W6 ⟨n, rfl, hn0, hn1, hs6, -⟩
  have HN : Hid (n ≤ 60) := by show _ ≤ _; omega
  have H6 : Hid (Hd { p with bm := bm, bw := bw, cp := cp, g := g, N := 2 * s } 0 2 (List.replicate (2 * s) 0) (newHeap s) false [3, 3, 41, 4] W6) := by
    refine ⟨hs6, by omega, by omega, fun _ => ⟨⟨_, new_ok HS.out.1 (by have := HS.out; omega), fun i hi => ?_⟩, by show (0 : Int) ≤ 0; omega, by show (0 : Int) ≤ 300000 * 0; omega⟩, by show (0 : Int) ≤ 100; omega, by show (0 : Int) ≤ 100000000; omega⟩
    have h : i = 0 ∨ i = 1 ∨ i = 2 ∨ i = 3 := by
      have : i < 4 := hi
      omega
    rcases h with rfl | rfl | rfl | rfl <;> exact plain_ok (by decide) (by decide)
  clear hs6 HSw hn0 hn1
  go_wp2_with fail
  go_loopw [9] (fun i wr => ∃ (ii : Int) (k q : Nat) (ws : List Int) (h : HpN) (full : Bool) (rs : List Int), i = .int .i64 ii ∧ Hid (ii = (k : Int)) ∧ Hid (Hd { p with bm := bm, bw := bw, cp := cp, g := g, N := 2 * s } k q ws h full rs wr)) (fun i _ => 61 - (intOf i).toNat)
  case atStart => exact ⟨0, 0, 2, _, _, false, _, rfl, rfl, H6⟩
  case round =>
    clear H6
    obtain ⟨ii, k, q, ws, h, full, rs, rfl, HQ, HH⟩ := hrel
    rename World => wo
    have hend : ∀ (fu : Bool) (W' : World), Hd { p with bm := bm, bw := bw, cp := cp, g := g, N := 2 * s } k q ws h fu rs W' → WorkP p (.returned (.tuple #[.pointer (some ⟨bm, 0, none⟩), .slice (some ⟨g, 0, none⟩) 4 4])) W' := fun fu W' hd => by
      have hl : ws.length = 2 * s := hd.sw.len
      refine ⟨bm, bw, cp, g, q, ws, h, fu, rs, 4, rfl, ?_, by have := hd.q0; have := hd.k0; omega, ⟨by omega, by rw [hl]; exact HCp.out⟩, by have := HS.out; omega, by have := HS.out; omega, hd.fl, hd.tc⟩
      rw [hl]
      exact hd.sw
    have HEnd := hid hend
    clear hend
    by_cases hlt : ii < n
    · cases full with
      | true =>
        have c10 := HH.out.sw.wk.cells.2.2.2.2.2.2.2.2.2.2
        dsimp only at c10
        go_wp2_with fail
        exact bodyPost_ret (results_tmp2 (fn := Try.f57) rfl _ _ _) rfl (HEnd.out _ _ HH.out)
      | false =>
        have hG := HH.out.good rfl
        have c10 := HH.out.sw.wk.cells.2.2.2.2.2.2.2.2.2.2
        dsimp only at c10
        have HGd := hid hG
        clear hG
        have HB8 := hid (HH.out.sw.pick (by have := HH.out.q0; have := HH.out.k0; omega) 8 (by omega))
        go_wp2_with fail
        clear c10
        refine HB8.out.mono ?_
        rintro e W7 ⟨m8, rfl, h80, h81, hs7, -⟩
        have HS7 := hid hs7
        obtain ⟨kd, hkd⟩ : ∃ kd, 1 + m8 = kd := ⟨_, rfl⟩
        have HKd : Hid (1 ≤ kd ∧ kd ≤ 8) := by show _ ∧ _; omega
        have hw8 : wrap64 (1 + m8) = kd := by rw [← hkd]; unfold wrap64; omega
        have hF := fieldsZ_kind HKd.out.1 HKd.out.2
        obtain ⟨F, hFF⟩ : ∃ F, fieldsZ kd = F := ⟨_, rfl⟩
        have HF : Hid (fieldsZ kd = F ∧ (F = 2 ∨ F = 5)) := by show _ ∧ _; rw [← hFF]; exact ⟨rfl, hF⟩
        clear hF hFF h80 h81 hs7 HB8 hkd
        go_wp2_with fail
        rw [hw8]
        clear hw8
        have HM : Hid (p.B < W7.heap.size ∧ bm < W7.heap.size ∧ bw < W7.heap.size ∧ g < W7.heap.size) := HS7.out.lt
        have HQb : Hid (q ≤ 2 + 16 * k ∧ k ≤ 60) := ⟨HH.out.q0, HH.out.k0⟩
        have HQk : Hid (k < 60) := by show _ < _; have := HN.out; have := HQ.out; omega
        have HTc : Hid (0 ≤ h.touched ∧ h.touched < 9223372036854775808) := by
          obtain ⟨S, ok, -⟩ := HGd.out.ok
          exact ⟨ok.ord.2.2.2.2.2.1, by have := HH.out.tc; omega⟩
        have HTc8 : Hid (h.touched ≤ 100000000) := HH.out.tc
        clear HH HEnd
        go_loopw [11, 12] (fun fv kv wr => ∃ (fs : List Int) (j : Nat) (ji : Int) (af : Option Addr) (cf : Nat), fv = .slice af j cf ∧ kv = .int .i64 ji ∧ Hid (ji = (j : Int) ∧ (j : Int) ≤ F ∧ fs.length = j) ∧ Hid (wr.ownsRow W7.heap.size 3 1 (.slice af j cf) j (fs.map (fun x => Value.int .i64 x))) ∧ Hid (Sw { p with bm := bm, bw := bw, cp := cp, g := g, N := 2 * s } (q + 1 + j) ws h false rs wr) ∧ Hid (∀ i, i < fs.length → ∃ r, r < 4 ∧ fs.getD i 0 = rs.getD r 0) ∧ Hid (W7.heap.size ≤ wr.heap.size)) (fun _ kv _ => 6 - (intOf kv).toNat)
        case atStart => exact ⟨[], 0, 0, none, 0, rfl, rfl, ⟨rfl, by have := HF.out; omega, rfl⟩, ⟨rfl, Or.inl ⟨rfl, rfl⟩⟩, HS7, (fun i hi => (by cases hi)), Nat.le_refl _⟩
        case round =>
          clear HS7
          obtain ⟨fs, j, ji, af, cf, rfl, rfl, HJ, HOw, HSj, HFs, HLe⟩ := hrel
          have HFc : Hid (∀ w, Calls Try.prog 29 #[.int .i64 kd] w fun e w' => e = .returned (.int .i64 F) ∧ w = w') := fun w => by
            have e := specFields_calls kd w
            rw [HF.out.1] at e
            exact e
          by_cases hjF : ji < F
          · have HJ5 : Hid (j ≤ 4) := by show _ ≤ _; have := HJ.out; have := HF.out; omega
            have HPk := hid (HSj.out.pick (by have := HQb.out; have := HJ5.out; omega) 4 (by omega))
            go_wp2_with fail
            refine (HFc.out _).mono ?_
            rintro e w1 ⟨rfl, rfl⟩
            go_wp2_with fail
            refine HPk.out.mono ?_
            rintro e W8 ⟨m4, rfl, h40, h41, hs8, ho8⟩
            obtain ⟨mn, rfl⟩ := Int.eq_ofNat_of_zero_le h40
            have hmn : mn < 4 := by omega
            have cg := hs8.rt.cell hmn
            dsimp only at cg
            unfold intCells at cg
            have HFx : Hid (∃ r, r < 4 ∧ rs.getD mn 0 = rs.getD r 0) := ⟨mn, hmn, rfl⟩
            generalize rs.getD mn 0 = x at cg HFx
            have HS8 := hid hs8
            have HO8 := hid (own_only HOw.out ho8 HM.out.1)
            have HL8 : Hid (W7.heap.size ≤ W8.heap.size) := by show _ ≤ _; rw [ho8.size]; exact HLe.out
            have hstep : 6 - (intOf (.int .i64 (ji + 1))).toNat < 6 - (intOf (.int .i64 ji)).toNat := by have := HJ.out; simp only [intOf]; have := HJ5.out; omega
            have hwj : wrap64 (ji + 1) = ji + 1 := by have := HJ.out; have := HJ5.out; unfold wrap64; omega
            obtain ⟨i0, hi, hz0, hz1, hz2⟩ := info_parts info_int
            clear hs8 ho8 HPk HOw HSj HLe
            go_wp2_with (first
              | (at_builtin; refine wpList_append_own _ rfl _ _ 23 rfl W7.heap.size 3 i0 (.int .i64 0) 1 8 Try.underlying23 hi hz0 hz1 hz2 rfl (by decide) _ _ _ rfl (World.ownsRow.alloc HO8.out _) ⟨W8.heap.size, 0, none⟩ 1 1 [.int .i64 x] rfl rfl (cell_one_new W8 x) (fun u hu => by simp at hu; subst hu; rfl) (by have := HJ5.out; unfold maxLen; omega) (by have := HJ5.out; omega) (by have := HL8.out; simp; omega) ?_
                 intro v' w3 hown3 hgrow3 _
                 have HS3 := hid ((HS8.out.keep ((Below.refl _ _).alloc (Nat.le_refl _) _)).grown HM.out hgrow3 (fun k hk => (HO8.out.lt k hk).1))
                 have HL3 : Hid (W7.heap.size ≤ w3.heap.size) := by show _ ≤ _; have h1 := hgrow3.size; have h2 := HL8.out; simp at h1; omega
                 have HO3 := hid hown3
                 clear hown3 hgrow3
                 obtain ⟨av', cv', rfl⟩ := own_sl HO3.out))
            rw [hwj]
            refine ⟨⟨fs ++ [x], j + 1, ji + 1, av', cv', rfl, rfl, ⟨by have := HJ.out; push_cast; omega, by have := HJ.out; push_cast; omega, by rw [List.length_append, HJ.out.2.2]; rfl⟩, by rw [List.map_append]; exact HO3, HS3, (fun i hi => ?_), HL3⟩, hstep⟩
            by_cases hif : i < fs.length
            · obtain ⟨r, h1, h2⟩ := HFs.out i hif
              exact ⟨r, h1, by rw [← h2]; simp [List.getD, List.getElem?_append_left hif]⟩
            · have e : i = fs.length := by rw [List.length_append] at hi; simp at hi; omega
              obtain ⟨r, h1, h2⟩ := HFx.out
              exact ⟨r, h1, by rw [← h2, e]; simp [List.getD]⟩
          · have HJn : Hid (fieldsZ kd = (fs.length : Int) ∧ (fs.length = 2 ∨ fs.length = 5) ∧ fs.length = j) := by
              have h1 := HJ.out
              have h2 := HF.out
              refine ⟨by rw [h2.1]; omega, by omega, h1.2.2⟩
            obtain ⟨gf, rfl⟩ : ∃ gf, af = some ⟨gf, 0, none⟩ := by
              obtain ⟨-, ⟨h1, h2⟩ | ⟨g', cap', cur, h1, -⟩⟩ := HOw.out
              · have := HJn.out
                omega
              · cases h1
                exact ⟨g', rfl⟩
            have HRf := hid (row_of_owns HJn.out.2.2 HOw.out)
            obtain ⟨c0, c1, c2, c3, c4, c5, c6, c7, c8, c9, -⟩ := HSj.out.wk.cells
            have hS20 := HS.out
            have HOp := hid (open_cap bw 0 cp (2 * s) ws h wr (by omega) HSj.out.len (by omega) HSj.out.row.lt (fun i hi => by rw [Nat.zero_add]; exact HSj.out.row.cell hi) HTc.out.1 HTc.out.2)
            clear hS20 HOw HLe
            go_wp2_with fail
            refine (HFc.out _).mono ?_
            rintro e w1 ⟨rfl, rfl⟩
            try dsimp only at c0 c1 c2 c3 c4 c5 c6 c7 c8 c9
            go_wp2_with fail
            refine HOp.out.mono ?_
            rintro e W9 ⟨bm2, bw2, cp2, rfl, ⟨hk, hcp2⟩, hb1, hb2⟩
            have HCp2 := hid hcp2
            clear hcp2
            have hb9 := frm_below hk.frame hb1 hb2
            have HK2 := hid (hk.rebase W9 (Frm.refl _ _ _))
            have HS9 := hid (HSj.out.keep hb9)
            have HRf9 : Hid (CellRow 3 W9 gf j (intCells fs) ∧ W7.heap.size ≤ gf ∧ gf < wr.heap.size) := ⟨HRf.out.1.of_block (hb9.block _ HRf.out.1.lt), HRf.out.2, HRf.out.1.lt⟩
            have HB2 : Hid (wr.heap.size ≤ bm2 ∧ wr.heap.size ≤ bw2 ∧ wr.heap.size ≤ W9.heap.size) := ⟨hb1, hb2, hb9.size⟩
            have HM9 : Hid (p.B < wr.heap.size ∧ bm < wr.heap.size ∧ bw < wr.heap.size ∧ g < wr.heap.size) := HSj.out.lt
            clear hjF hk hb1 hb2 hb9 c0 c1 c2 c3 c4 c5 c6 c7 c8 c9 HOp HRf HSj HFc
            obtain ⟨i0, hi, hz0, hz1, hz2⟩ := info_parts info_int
            have HE9 := hid (MapKept.heap_alloc W9 (.cells #[] 3)).1
            have HA9 := hid ((Below.refl W9.heap.size W9).alloc (Nat.le_refl _) (.cells #[] 3))
            go_wp2_with (first
              | (at_builtin; refine wpList_append_own _ rfl _ _ 23 rfl W9.heap.size 3 i0 (.int .i64 0) 1 8 Try.underlying23 hi hz0 hz1 hz2 rfl (by decide) (.slice (some ⟨W9.heap.size, 0, none⟩) 0 0) 0 [] rfl ⟨rfl, Or.inr ⟨W9.heap.size, 0, #[], rfl, Nat.le_refl _, HE9.out, Nat.le_refl _, by decide, rfl, rfl⟩⟩ ⟨g, 0, none⟩ 4 4 (rs.map (fun x => Value.int .i64 x)) rfl (by rw [List.length_map, HS9.out.rl]) (fun j u hu => ?_) (fun u hu => ?_) (by unfold maxLen; omega) (by omega) (by simp) ?_))
            · rw [List.getElem?_map] at hu
              obtain ⟨x, hx, rfl⟩ := Option.map_eq_some_iff.1 hu
              have hj : j < 4 := by have := (List.getElem?_eq_some_iff.1 hx).1; rw [HS9.out.rl] at this; exact this
              have e := (HA9.out.cell (p := ⟨g, j, none⟩) HS9.out.rt.lt).trans (HS9.out.rt.cell hj)
              unfold intCells at e
              rw [show rs.getD j 0 = x by simp [List.getD, hx]] at e
              have ea : (⟨g, 0, none⟩ : Addr).add j = ⟨g, j, none⟩ := by
                unfold Addr.add
                split
                · simp_all
                · simp
              rw [ea]
              exact e
            · obtain ⟨x, -, rfl⟩ := List.mem_map.1 hu
              rfl
            intro v' W10 hown hgrow _
            obtain ⟨g2, gc2, rfl, h4⟩ : ∃ g2 gc2, v' = .slice (some ⟨g2, 0, none⟩) 4 gc2 ∧ 4 ≤ gc2 := by
              obtain ⟨-, ⟨-, h2⟩ | ⟨g', cap', cur, h1, -, -, h3, -⟩⟩ := hown
              · cases h2
              · exact ⟨g', cap', h1, h3⟩
            have hrg := row_of_owns (N := 4) HS9.out.rl (by simpa using hown)
            have hbl : Below W9.heap.size W9 W10 := HA9.out.grown hgrow (by simp) (fun k hk => by simp [Value.ownBlock] at hk; omega)
            have HS10 := hid (HS9.out.keep hbl)
            have HK10 := hid (HK2.out.keep hbl)
            have HR10 : Hid (CellRow 3 W10 gf j (intCells fs)) := HRf9.out.1.of_block (hbl.block _ HRf9.out.1.lt)
            have HB10 : Hid (W9.heap.size ≤ g2 ∧ 4 ≤ gc2) := ⟨hrg.2, h4⟩
            have HW2 : Hid (Sw { p with bm := bm2, bw := bw2, cp := cp2, g := g2, N := 2 * s } (q + 1 + j) ws h false rs W10) := by
              have k := HK10.out.blk
              have et : touchZ ⟨ws, h, 0, 0⟩ = h.touched := by
                have := HTc.out
                unfold touchZ wrap64
                dsimp only
                omega
              rw [et] at k
              have m9 := HM9.out
              have b2 := HB2.out
              have l1 := heap_lt HK2.out.blk
              have l2 := HK2.out.row.lt
              exact ⟨HS10.out.rd, k, HK10.out.row, HK10.out.len, hrg.1, HS9.out.rl, (by have hz := HS9.out.o1; dsimp only at hz ⊢; omega), (by have hz := HS9.out.o1; dsimp only at hz ⊢; omega), (by have hz := HS9.out.o1; dsimp only at hz ⊢; have := hrg.2; omega), HK10.out.ne, (by dsimp only; have := hrg.2; omega), (by dsimp only; have := hrg.2; omega), HL.out, HS10.out.below⟩
            clear hown hgrow hrg hbl h4 HE9 HA9 HS9 HK2 HK10
            go_wp2_with fail
            refine (HS10.out.pick (by have := HQb.out; have := HJn.out; omega) 3 (by omega)).mono ?_
            rintro e W11 ⟨m3, rfl, h30, h31, hs11, ho11⟩
            obtain ⟨mk, rfl⟩ := Int.eq_ofNat_of_zero_le h30
            have HS11 := hid hs11
            have HW11 := hid (HW2.out.beside hs11 ho11 rfl rfl rfl rfl)
            have HG := HRf9.out
            have HM9' := HM9.out
            have hm7 := HM.out
            have HR11 : CellRow 3 W11 gf j (intCells fs) := HR10.out.of_block (ho11.block _ (show gf ≠ p.B by have := HG.2; omega))
            obtain ⟨S, ok, hroots⟩ := HGd.out.ok
            have hfs : ∀ i, i < fs.length → wordOkZ S h (fs.getD i 0) = true := fun i hi => by
              obtain ⟨r, h1, h2⟩ := HFs.out i hi
              rw [h2]
              exact hroots r (by rw [hs11.rl]; exact h1)
            have hlen : ws.length = 2 * s := hs11.len
            have hrl : rs.length = 4 := hs11.rl
            have hkd := HKd.out
            have hjn := HJn.out
            have mok : MakeOk S (2 * s) 4 j mk ⟨ws, h, 0, 0⟩ rs fs kd := ⟨by rw [← hlen]; exact scn_start ok, fun s1 h1 => by rw [← hlen]; exact mvs_scanned ok h1, by omega, hrl, hjn.2.2, by omega, by omega, by omega, by omega, fun h' i hi => by rw [← hlen]; exact used_aim_any ok (hroots i hi) h', fun h' i hi => by rw [← hlen]; exact used_aim_any ok (hfs i hi) h'⟩
            have HMk := hid (snew_calls (gc := 4) (fc := cf) mok (hs11.worker HTc.out.1 HTc.out.2) (by have := HG.2; dsimp only; omega) (by have := HG.2; dsimp only; omega) (Ne.symm hs11.n2) (Ne.symm hs11.n3) (by have := HG.2; dsimp only; omega) HR11 hs11.rt)
            have HKp : Hid (∀ ys s', makeRun rs fs kd mk ⟨ws, h, 0, 0⟩ = some (ys, s') → ys.length = 4 ∧ 0 ≤ s'.h.top ∧ s'.h.top ≤ 8000 ∧ Aft s'.ws { s'.h with touched := touchZ s' } ys (8 * s'.h.top) j k) := fun ys s' he => by
              obtain ⟨c1, c2, c3⟩ := make_count ok hroots hfs (by omega) hjn.2.1 he
              have htc := HTc.out
              have hgt := HGd.out.tc
              have hgf := HGd.out.fl
              have hk6 := HQb.out.2
              have et : touchZ s' = h.touched + (s'.r + s'.t) := by
                unfold touchZ wrap64
                omega
              obtain ⟨S', md⟩ := keep_make ok hroots hfs hjn.1 hjn.2.1 (by omega) (by omega) (by omega) he (t := touchZ s') (by omega)
              have hy := md.still.same.1
              obtain ⟨o1, o2, o3, o4, o5, o6, o7, o8, o9, o10, o11, o12, o13⟩ := id md.still.ok.ord
              dsimp only at o1 o2 o3 o4 o5 o6 o7 o8 o9 o10 o11 o12 o13
              have hfl := md.flips
              refine ⟨by omega, by omega, by omega, ⟨⟨S', md.still.ok, md.still.roots, md.word, ?_⟩, by omega, by dsimp only; push_cast; omega, by dsimp only; omega, by dsimp only; omega⟩⟩
              rw [show 8 * s'.h.top / 8 = s'.h.top by omega, md.size, hjn.2.2]
            obtain ⟨o, ho⟩ : ∃ o, makeRun rs fs kd mk ⟨ws, h, 0, 0⟩ = o := ⟨_, rfl⟩
            rw [ho] at HMk HKp
            have HGe : Hid (W7.heap.size ≤ gf ∧ gf < wr.heap.size) := HG.2
            have HQk2 : Hid (q + 1 + j + 1 ≤ q + 7) := by show _ ≤ _; omega
            have HLn : Hid (ws.length = 2 * s ∧ h.flips ≤ 100) := ⟨hlen, by have := HGd.out.fl; have := HQb.out; omega⟩
            clear ho mok hkd hjn hrl hlen hfs hroots ok HR11 hm7 HM9' HG hs11 ho11 HS10 HW2 HRf9 HR10 HGd
            cases o with
            | none =>
              go_wp2_with fail
              refine HMk.out.mono ?_
              rintro e W12 ⟨rfl, ⟨s1, hwk⟩, f1, f2, f3, f4, f5⟩
              have c10 := hwk.blk.cells.2.2.2.2.2.2.2.2.2.2
              have HW12 : Hid (Sw { p with bm := bm2, bw := bw2, cp := cp2, g := g2, N := 2 * s } (q + 1 + j + 1) ws h false rs W12) := by
                have m9 := HM9.out
                have m7 := HM.out
                have b2 := HB2.out
                have b10 := HB10.out
                have ge := HGe.out
                obtain ⟨l1, l2, l3, l4⟩ := HW11.out.lt
                have lo := HL.out
                have q1 := HS11.out.o1
                have q2 := HS11.out.o2
                have q3 := HS11.out.o3
                dsimp only at l1 l2 l3 l4 q1 q2 q3
                refine HW11.out.blocks (fun x hx => f5 x ?_ ?_ ?_ ?_ ?_) (HW11.out.below.step ⟨f1, f2, f3, f4, fun x hx => f5 x ?_ ?_ ?_ ?_ ?_⟩)
                all_goals dsimp only at *
                all_goals omega
              clear hwk f1 f2 f3 f4 f5 HMk
              go_wp2_with fail
              refine bodyPost_ret (results_tmp2 (fn := Try.f57) rfl _ _ _) rfl ⟨bm2, bw2, cp2, g2, q + 1 + j + 1, ws, h, false, rs, gc2, rfl, ?_, by have := HQk2.out; have := HQb.out; omega, ⟨HB10.out.2, by rw [HLn.out.1]; exact HCp2.out⟩, by have := HLn.out; have := HS.out; omega, by have := HLn.out; have := HS.out; omega, HLn.out.2, HTc8.out⟩
              rw [HLn.out.1]
              exact HW12.out
            | some r =>
              obtain ⟨ys, s1⟩ := r
              obtain ⟨hy, ht0, ht8, haft⟩ := HKp.out ys s1 rfl
              go_wp2_with fail
              refine HMk.out.mono ?_
              rintro e W12 ⟨rfl, hwk, hrow, f1, f2, f3, f4, f5⟩
              rw [makeZ_ptr ht0 ht8]
              have HS12 : Hid (Sw { p with bm := bm, bw := bw, cp := cp, g := g, N := 2 * s } (q + 1 + j + 1) s1.ws { s1.h with touched := touchZ s1 } false ys W12) := by
                have m7 := HM.out
                have ge := HGe.out
                obtain ⟨l1, l2, l3, l4⟩ := HS11.out.lt
                have lo := HL.out
                have q1 := HS11.out.o1
                have q2 := HS11.out.o2
                have q3 := HS11.out.o3
                dsimp only at l1 l2 l3 l4 q1 q2 q3
                refine HS11.out.worked hwk hrow hy (fun x hx => f5 x ?_ ?_ ?_ ?_ ?_) (HS11.out.below.step ⟨f1, f2, f3, f4, fun x hx => f5 x ?_ ?_ ?_ ?_ ?_⟩)
                all_goals dsimp only at *
                all_goals omega
              have HAf := hid haft
              clear haft hwk hrow f1 f2 f3 f4 f5 HMk HKp HS11 HW11 ht0 ht8 hy
              obtain ⟨ws1, hws1⟩ : ∃ w, s1.ws = w := ⟨_, rfl⟩
              obtain ⟨h1, hh1⟩ : ∃ h, ({ s1.h with touched := touchZ s1 } : HpN) = h := ⟨_, rfl⟩
              obtain ⟨x0, hx0⟩ : ∃ x, 8 * s1.h.top = x := ⟨_, rfl⟩
              rw [hws1, hh1] at HS12 HAf
              rw [hx0] at HAf ⊢
              clear hws1 hh1 hx0
              have c10 := HS12.out.wk.cells.2.2.2.2.2.2.2.2.2.2
              dsimp only at c10
              go_wp2_with fail
              clear c10
              refine (HS12.out.pick (by have := HQk2.out; have := HQb.out; omega) 4 (by omega)).mono ?_
              rintro e W13 ⟨m4, rfl, h40, h41, hs13, -⟩
              obtain ⟨r4, rfl⟩ := Int.eq_ofNat_of_zero_le h40
              have hr4 : r4 < 4 := by omega
              obtain ⟨cr, zr⟩ := hs13.rootcell hr4
              dsimp only at cr zr
              have HS14 := hid (hs13.root hr4 x0)
              dsimp only at HS14
              have HA14 := hid (HAf.out.set r4 (Or.inl rfl))
              have HX14 : Hid ((ys.set r4 x0).getD r4 0 = x0 ∧ (ys.set r4 x0).length = 4) := ⟨by rw [getD_setN _ _ _ _ (by rw [hs13.rl]; exact hr4), if_pos rfl], by rw [List.length_set]; exact hs13.rl⟩
              clear hs13 HS12 HAf
              go_wp2_with fail
              clear cr zr
              obtain ⟨W14, hW14⟩ : ∃ X, W13.setCell ⟨g, r4, none⟩ (.int .i64 x0) = X := ⟨_, rfl⟩
              rw [hW14] at HS14 ⊢
              clear hW14
              refine (HS14.out.pick (by have := HQk2.out; have := HQb.out; omega) 4 (by omega)).mono ?_
              rintro e W15 ⟨m21, rfl, h210, h211, hs15, -⟩
              have HS15 := hid hs15
              clear hs15 HS14
              have HFc : Hid (∀ w, Calls Try.prog 29 #[.int .i64 kd] w fun e w' => e = .returned (.int .i64 F) ∧ w = w') := fun w => by
                have e := specFields_calls kd w
                rw [HF.out.1] at e
                exact e
              obtain ⟨yr, hyr⟩ : ∃ y, ys.set r4 x0 = y := ⟨_, rfl⟩
              rw [hyr] at HS15 HA14 HX14
              clear hyr
              by_cases h21 : m21 = 0
              case' pos =>
                subst h21
                go_wp2_with fail
                refine (HS15.out.pick (by have := HQk2.out; have := HQb.out; omega) 4 (by omega)).mono ?_
                rintro e W16 ⟨m5, rfl, h50, h51, hs16, -⟩
                obtain ⟨r5, rfl⟩ := Int.eq_ofNat_of_zero_le h50
                have hr5 : r5 < 4 := by omega
                have HS16 := hid hs16
                clear hs16 HS15
                go_wp2_with fail
                refine (HS16.out.pick (by have := HQk2.out; have := HQb.out; omega) 4 (by omega)).mono ?_
                rintro e W17 ⟨m6, rfl, h60, h61, hs17, -⟩
                have hw6 : wrap64 (1 + m6) = 1 + m6 := by unfold wrap64; omega
                have HS17 := hid hs17
                clear hs17 HS16
                go_wp2_with fail
                refine (HS17.out.pick (by have := HQk2.out; have := HQb.out; omega) 2 (by omega)).mono ?_
                rintro e W18 ⟨m7, rfl, h70, h71, hs18, -⟩
                try rw [hw6]
                have hsm := specMake_calls (1 + m6) m7 W18
                have hyv : (makeZ (1 + m6) m7) % 8 ≠ 0 ∧ (makeZ (1 + m6) m7) % 8 ≤ 4 := by
                  unfold makeZ wrap64
                  rw [if_neg (by omega)]
                  omega
                obtain ⟨yv, hyve⟩ : ∃ y, makeZ (1 + m6) m7 = y := ⟨_, rfl⟩
                rw [hyve] at hsm hyv
                have HSm := hid hsm
                obtain ⟨cr, zr⟩ := hs18.rootcell hr5
                dsimp only at cr zr
                have HS19 := hid (hs18.root hr5 yv)
                dsimp only at HS19
                have HA19 := hid (HA14.out.set r5 (Or.inr hyv))
                have HX19 : Hid (((yr.set r5 yv).getD r4 0 = x0 ∨ (yr.set r5 yv).getD r4 0 % 8 ≠ 0) ∧ (yr.set r5 yv).length = 4) := by
                  refine ⟨?_, by rw [List.length_set]; exact HX14.out.2⟩
                  rw [getD_setN _ _ _ _ (by rw [HX14.out.2]; exact hr5)]
                  by_cases e : r4 = r5
                  · rw [if_pos e]
                    exact Or.inr hyv.1
                  · rw [if_neg e]
                    exact Or.inl HX14.out.1
                clear hs18 hsm hyv hyve HS17
                go_wp2_with fail
                refine HSm.out.mono ?_
                rintro e w1 ⟨rfl, rfl⟩
                go_wp2_with fail
                clear cr zr hw6 h60 h61 h70 h71 h50 h51 HSm
                obtain ⟨WX, hWX⟩ : ∃ X, W18.setCell ⟨g, r5, none⟩ (.int .i64 yv) = X := ⟨_, rfl⟩
                rw [hWX] at HS19 ⊢
                clear hWX
                obtain ⟨rsX, hrsX⟩ : ∃ y, yr.set r5 yv = y := ⟨_, rfl⟩
                rw [hrsX] at HS19 HA19 HX19
                clear hrsX HA14 HX14
                have HSX := HS19
                have HAX := HA19
                have HXX := HX19
                clear HS19 HA19 HX19
                obtain ⟨qX, hqX⟩ : ∃ q', q + 1 + j + 1 + 1 + 1 + 1 + 1 + 1 = q' := ⟨_, rfl⟩
                rw [hqX] at HSX
                have HQX : Hid (qX + 4 ≤ 2 + 16 * (k + 1) ∧ qX ≤ 1000) := by show _ ∧ _; have := HQk2.out; have := HQb.out; omega
                clear hqX
              case' neg =>
                have h21' : (m21 == 0) = false := by simpa using h21
                go_wp2_with fail
                clear h21'
                obtain ⟨WX, hWX⟩ : ∃ X, W15 = X := ⟨_, rfl⟩
                rw [hWX] at HS15 ⊢
                clear hWX
                obtain ⟨rsX, hrsX⟩ : ∃ y, yr = y := ⟨_, rfl⟩
                rw [hrsX] at HS15 HA14 HX14
                clear hrsX
                have HSX := HS15
                have HAX := HA14
                have HXX : Hid ((rsX.getD r4 0 = x0 ∨ rsX.getD r4 0 % 8 ≠ 0) ∧ rsX.length = 4) := ⟨Or.inl HX14.out.1, HX14.out.2⟩
                clear HS15 HA14 HX14
                obtain ⟨qX, hqX⟩ : ∃ q', q + 1 + j + 1 + 1 + 1 = q' := ⟨_, rfl⟩
                rw [hqX] at HSX
                have HQX : Hid (qX + 4 ≤ 2 + 16 * (k + 1) ∧ qX ≤ 1000) := by show _ ∧ _; have := HQk2.out; have := HQb.out; omega
                clear hqX
              all_goals
                refine (HSX.out.pick (by have := HQX.out; omega) 5 (by omega)).mono ?_
                rintro e W20 ⟨m20, rfl, h200, h201, hs20, -⟩
                have HS20 := hid hs20
                have HEn : Hid (∀ W', Below W20.heap.size W20 W' → Hd { p with bm := bm, bw := bw, cp := cp, g := g, N := 2 * s } (k + 1) (qX + 1) ws1 h1 false rsX W') := fun W' hb => ⟨HS20.out.keep hb, by have := HQk.out; omega, by have := HQX.out; omega, fun _ => HAX.out.good, by have := HAX.out.fl; have := HQk.out; omega, by have := HAX.out.tc; have := HQk.out; omega⟩
                have hwi : wrap64 (ii + 1) = ii + 1 := by have := HQ.out; have := HQk.out; unfold wrap64; omega
                have hstepI : 61 - (intOf (.int .i64 (ii + 1))).toNat < 61 - (intOf (.int .i64 ii)).toNat := by have := HQ.out; have := HQk.out; simp only [intOf]; omega
                have HQ1 : Hid (ii + 1 = ((k + 1 : Nat) : Int)) := by show _ = _; have := HQ.out; push_cast; omega
                clear hs20 HSX
                have hk0 : (0 : Int) ≤ (r4 : Int) := by omega
                have hk1 : (r4 : Int) < 4 := by omega
                by_cases h20 : m20 = 0
                · subst h20
                  obtain ⟨cr, -⟩ := HS20.out.rootcell hr4
                  dsimp only at cr
                  rcases HXX.out.1 with hx | hx
                  · rw [hx] at cr
                    have HX0 := hid hx
                    have tg := fun w => specTag_calls x0 w
                    unfold tagZ at tg
                    rw [HAX.out.x8] at tg
                    have HTg := hid tg
                    clear tg hx
                    go_wp2_with fail
                    refine (HTg.out _).mono ?_
                    rintro e w1 ⟨rfl, rfl⟩
                    go_wp2_with fail
                    clear cr HTg
                    have HFd : Hid (∀ (mi : Nat), (mi : Int) < F → ∀ (q' : Nat) (X : World), Sw { p with bm := bm, bw := bw, cp := cp, g := g, N := 2 * s } q' ws1 h1 false rsX X → Calls Try.prog 55 #[.pointer (some ⟨bm, 0, none⟩), .int .i64 x0, .int .i64 (mi : Int)] X fun e Xd => ∃ z, e = .returned (.int .i64 z) ∧ FldEnd { p with bm := bm, bw := bw, cp := cp, g := g, N := 2 * s } k q' rsX z Xd) := fun mi hmi q' X hX => by
                      obtain ⟨S, ok, a1, a2, a3⟩ := HAX.out.ok
                      exact sw_field hX ok a1 a2 HAX.out.x8 a3 (by have := HJn.out; have := HF.out; omega) HAX.out.fl (by have := HQk.out; omega) HAX.out.tc
                    have hD : Below W20.heap.size W20 W20.drew := (Below.refl _ _).drew
                    obtain ⟨D, hDe⟩ : ∃ D, W20.drew = D := ⟨_, rfl⟩
                    rw [hDe] at hD
                    have SD := hid (HS20.out.keep hD)
                    have cX : D.cell? ⟨g, r4, none⟩ = some (.int .i64 x0) := by have := (SD.out.rootcell hr4).1; rw [HX0.out] at this; exact this
                    refine pick_begin (S := fun _ => True) (by kernel_rfl) rfl rfl ?_
                    rw [hDe]
                    clear hDe hD HS20 HEn
                    refine pick_op (i := 0) (v := .slice (some ⟨g, 0, none⟩) 4 4) (by kernel_rfl) rfl (by kernel_rfl) (by kernel_rfl) rfl rfl (fun w' _ => by simp [go_sem]) trivial (by simp [go_sem]; exact rfl) ?_
                    refine pick_op (i := 1) (v := .pointer (some ⟨p.B, 0, none⟩)) (by kernel_rfl) rfl (by kernel_rfl) (by kernel_rfl) rfl rfl (fun w' _ => by simp [go_sem]) trivial (by simp [go_sem]; exact rfl) ?_
                    refine pick_op (i := 3) (v := .pointer (some ⟨bm, 0, none⟩)) (by kernel_rfl) rfl (by kernel_rfl) (by kernel_rfl) rfl rfl (fun w' _ => by simp [go_sem]) trivial (by simp [go_sem]; exact rfl) ?_
                    refine pick_op (i := 4) (v := .slice (some ⟨g, 0, none⟩) 4 4) (by kernel_rfl) rfl (by kernel_rfl) (by kernel_rfl) rfl rfl (fun w' _ => by simp [go_sem]) trivial (by simp [go_sem]; exact rfl) ?_
                    refine pick_op (i := 5) (v := .int .i64 (r4 : Int)) (by kernel_rfl) rfl (by kernel_rfl) (by kernel_rfl) rfl rfl (fun w' _ => by simp [go_sem]) trivial (by simp [go_sem]; exact rfl) ?_
                    refine pick_op (i := 8) (v := .pointer (some ⟨p.B, 0, none⟩)) (by kernel_rfl) rfl (by kernel_rfl) (by kernel_rfl) rfl rfl (fun w' _ => by simp [go_sem]) trivial (by simp [go_sem]; exact rfl) ?_
                    refine pick_op (i := 9) (v := .int .i64 kd) (by kernel_rfl) rfl (by kernel_rfl) (by kernel_rfl) rfl rfl (fun w' _ => by simp [go_sem]) trivial (by simp [go_sem]; exact rfl) ?_
                    refine pick_op (i := 6) (v := .pointer (some ⟨g, r4, none⟩)) (by kernel_rfl) rfl (by kernel_rfl) (by kernel_rfl) rfl rfl (fun w' _ => by simp [go_sem, hk0, hk1]) trivial (by simp [go_sem]; exact rfl) ?_
                    refine pick_callOr (i := 2) (j := 7) (by kernel_rfl) ?_ ?_
                    · refine ⟨_, 28, #[.pointer (some ⟨p.B, 0, none⟩), .int .i64 4], rfl, rfl, by simp [go_sem], ?_⟩
                      refine (SD.out.pick (by have := HQX.out; omega) 4 (by omega)).mono ?_
                      rintro e Xa ⟨ma, rfl, ha0, ha1, hsa, -⟩
                      obtain ⟨r6, rfl⟩ := Int.eq_ofNat_of_zero_le ha0
                      have hr6 : r6 < 4 := by omega
                      have hr61 : (r6 : Int) < 4 := by omega
                      have Sa := hid hsa
                      have cX : Xa.cell? ⟨g, r4, none⟩ = some (.int .i64 x0) := by have := (hsa.rootcell hr4).1; rw [HX0.out] at this; exact this
                      clear hsa
                      refine ⟨_, rfl, trivial, ?_⟩
                      refine pick_frame (by simp [go_sem]; exact rfl) ?_
                      refine pick_either (i := 7) (j := 10) (by kernel_rfl) ?_ ?_
                      · refine ⟨_, .int .i64 x0, Xa, rfl, rfl, by simp [go_sem, cX], trivial, ?_⟩
                        refine pick_frame (by simp [go_sem]; exact rfl) ?_
                        refine pick_enter (i := 10) (f := 29) (args := #[.int .i64 kd]) rfl (by kernel_rfl) rfl rfl (by simp [go_sem]) ?_
                        refine (HFc.out Xa).mono ?_
                        rintro e Xb ⟨rfl, rfl⟩
                        have Sb := Sa
                        refine ⟨_, rfl, trivial, ?_⟩
                        refine pick_frame (by simp [go_sem]; exact rfl) ?_
                        refine pick_enter (i := 11) (f := 28) (args := #[.pointer (some ⟨p.B, 0, none⟩), .int .i64 F]) rfl (by kernel_rfl) rfl rfl (by simp [go_sem]) ?_
                        refine (Sb.out.pick (by have := HQX.out; omega) F (by have := HF.out; omega)).mono ?_
                        rintro e Xc ⟨mc, rfl, hc0, hc1, hsc, -⟩
                        obtain ⟨mi, rfl⟩ := Int.eq_ofNat_of_zero_le hc0
                        have Sc := hid hsc
                        have cX : Xc.cell? ⟨g, r4, none⟩ = some (.int .i64 x0) := by have := (hsc.rootcell hr4).1; rw [HX0.out] at this; exact this
                        clear hsc
                        refine ⟨_, rfl, trivial, ?_⟩
                        refine pick_frame (by simp [go_sem]; exact rfl) ?_
                        refine pick_enter (i := 12) (f := 55) (args := #[.pointer (some ⟨bm, 0, none⟩), .int .i64 x0, .int .i64 (mi : Int)]) rfl (by kernel_rfl) rfl rfl (by simp [go_sem]) ?_
                        refine (HFd.out mi (by omega) _ _ Sc.out).mono ?_
                        rintro e Xd ⟨z, rfl, ws2, h2, fu, hsd, hf2, ht2, hg2⟩
                        obtain ⟨cY, zY⟩ := hsd.rootcell hr6
                        dsimp only at cY zY
                        have HEn := hid (hsd.root hr6 z)
                        have HE2 : Hid (h2.flips ≤ 100 ∧ h2.touched ≤ 100000000 ∧ (fu = false → Gd ws2 h2 (rsX.set r6 z) (k + 1))) := ⟨hf2, ht2, hg2 r6 hr6⟩
                        clear hsd hf2 ht2 hg2
                        refine ⟨_, rfl, trivial, ?_⟩
                        refine pick_frame (by simp [go_sem]; exact rfl) ?_
                        refine pick_op (i := 13) (v := .pointer (some ⟨g, r6, none⟩)) (by kernel_rfl) rfl (by kernel_rfl) (by kernel_rfl) rfl rfl (fun w' _ => by simp [go_sem, ha0, hr61]) trivial (by simp [go_sem]; exact rfl) ?_
                        refine pick_skip (i := 14) rfl (w1 := Xd.setCell ⟨g, r6, none⟩ (.int .i64 z)) rfl (by kernel_rfl) rfl rfl (by simp [go_sem, cY, zY]) trivial ?_
                        refine pick_end (by kernel_rfl) ?_
                        clear cX cY zY
                        dsimp only at HEn
                        generalize Xd.setCell ⟨g, r6, none⟩ (.int .i64 z) = Z at *
                        go_wp2_with fail
                        rw [hwi]
                        exact ⟨⟨ii + 1, k + 1, _, ws2, h2, fu, rsX.set r6 z, rfl, HQ1, ⟨HEn.out, by have := HQk.out; omega, by have := HQX.out; omega, HE2.out.2.2, HE2.out.1, HE2.out.2.1⟩⟩, hstepI⟩
                      · refine ⟨_, 29, #[.int .i64 kd], rfl, rfl, by simp [go_sem], ?_⟩
                        refine (HFc.out Xa).mono ?_
                        rintro e Xb ⟨rfl, rfl⟩
                        have Sb := Sa
                        refine ⟨_, rfl, trivial, ?_⟩
                        refine pick_frame (by simp [go_sem]; exact rfl) ?_
                        refine pick_either (i := 7) (j := 11) (by kernel_rfl) ?_ ?_
                        · refine ⟨_, .int .i64 x0, Xa, rfl, rfl, by simp [go_sem, cX], trivial, ?_⟩
                          refine pick_frame (by simp [go_sem]; exact rfl) ?_
                          refine pick_enter (i := 11) (f := 28) (args := #[.pointer (some ⟨p.B, 0, none⟩), .int .i64 F]) rfl (by kernel_rfl) rfl rfl (by simp [go_sem]) ?_
                          refine (Sb.out.pick (by have := HQX.out; omega) F (by have := HF.out; omega)).mono ?_
                          rintro e Xc ⟨mc, rfl, hc0, hc1, hsc, -⟩
                          obtain ⟨mi, rfl⟩ := Int.eq_ofNat_of_zero_le hc0
                          have Sc := hid hsc
                          have cX : Xc.cell? ⟨g, r4, none⟩ = some (.int .i64 x0) := by have := (hsc.rootcell hr4).1; rw [HX0.out] at this; exact this
                          clear hsc
                          refine ⟨_, rfl, trivial, ?_⟩
                          refine pick_frame (by simp [go_sem]; exact rfl) ?_
                          refine pick_enter (i := 12) (f := 55) (args := #[.pointer (some ⟨bm, 0, none⟩), .int .i64 x0, .int .i64 (mi : Int)]) rfl (by kernel_rfl) rfl rfl (by simp [go_sem]) ?_
                          refine (HFd.out mi (by omega) _ _ Sc.out).mono ?_
                          rintro e Xd ⟨z, rfl, ws2, h2, fu, hsd, hf2, ht2, hg2⟩
                          obtain ⟨cY, zY⟩ := hsd.rootcell hr6
                          dsimp only at cY zY
                          have HEn := hid (hsd.root hr6 z)
                          have HE2 : Hid (h2.flips ≤ 100 ∧ h2.touched ≤ 100000000 ∧ (fu = false → Gd ws2 h2 (rsX.set r6 z) (k + 1))) := ⟨hf2, ht2, hg2 r6 hr6⟩
                          clear hsd hf2 ht2 hg2
                          refine ⟨_, rfl, trivial, ?_⟩
                          refine pick_frame (by simp [go_sem]; exact rfl) ?_
                          refine pick_op (i := 13) (v := .pointer (some ⟨g, r6, none⟩)) (by kernel_rfl) rfl (by kernel_rfl) (by kernel_rfl) rfl rfl (fun w' _ => by simp [go_sem, ha0, hr61]) trivial (by simp [go_sem]; exact rfl) ?_
                          refine pick_skip (i := 14) rfl (w1 := Xd.setCell ⟨g, r6, none⟩ (.int .i64 z)) rfl (by kernel_rfl) rfl rfl (by simp [go_sem, cY, zY]) trivial ?_
                          refine pick_end (by kernel_rfl) ?_
                          clear cX cY zY
                          dsimp only at HEn
                          generalize Xd.setCell ⟨g, r6, none⟩ (.int .i64 z) = Z at *
                          go_wp2_with fail
                          rw [hwi]
                          exact ⟨⟨ii + 1, k + 1, _, ws2, h2, fu, rsX.set r6 z, rfl, HQ1, ⟨HEn.out, by have := HQk.out; omega, by have := HQX.out; omega, HE2.out.2.2, HE2.out.1, HE2.out.2.1⟩⟩, hstepI⟩
                        · refine ⟨_, 28, #[.pointer (some ⟨p.B, 0, none⟩), .int .i64 F], rfl, rfl, by simp [go_sem], ?_⟩
                          refine (Sb.out.pick (by have := HQX.out; omega) F (by have := HF.out; omega)).mono ?_
                          rintro e Xc ⟨mc, rfl, hc0, hc1, hsc, -⟩
                          obtain ⟨mi, rfl⟩ := Int.eq_ofNat_of_zero_le hc0
                          have Sc := hid hsc
                          have cX : Xc.cell? ⟨g, r4, none⟩ = some (.int .i64 x0) := by have := (hsc.rootcell hr4).1; rw [HX0.out] at this; exact this
                          clear hsc
                          refine ⟨_, rfl, trivial, ?_⟩
                          refine pick_frame (by simp [go_sem]; exact rfl) ?_
                          refine pick_make (i := 7) (v := .int .i64 x0) (w1 := Xc) rfl (by kernel_rfl) rfl rfl (by simp [go_sem, cX]) trivial (by simp [go_sem]; exact rfl) ?_
                          refine pick_enter (i := 12) (f := 55) (args := #[.pointer (some ⟨bm, 0, none⟩), .int .i64 x0, .int .i64 (mi : Int)]) rfl (by kernel_rfl) rfl rfl (by simp [go_sem]) ?_
                          refine (HFd.out mi (by omega) _ _ Sc.out).mono ?_
                          rintro e Xd ⟨z, rfl, ws2, h2, fu, hsd, hf2, ht2, hg2⟩
                          obtain ⟨cY, zY⟩ := hsd.rootcell hr6
                          dsimp only at cY zY
                          have HEn := hid (hsd.root hr6 z)
                          have HE2 : Hid (h2.flips ≤ 100 ∧ h2.touched ≤ 100000000 ∧ (fu = false → Gd ws2 h2 (rsX.set r6 z) (k + 1))) := ⟨hf2, ht2, hg2 r6 hr6⟩
                          clear hsd hf2 ht2 hg2
                          refine ⟨_, rfl, trivial, ?_⟩
                          refine pick_frame (by simp [go_sem]; exact rfl) ?_
                          refine pick_op (i := 13) (v := .pointer (some ⟨g, r6, none⟩)) (by kernel_rfl) rfl (by kernel_rfl) (by kernel_rfl) rfl rfl (fun w' _ => by simp [go_sem, ha0, hr61]) trivial (by simp [go_sem]; exact rfl) ?_
                          refine pick_skip (i := 14) rfl (w1 := Xd.setCell ⟨g, r6, none⟩ (.int .i64 z)) rfl (by kernel_rfl) rfl rfl (by simp [go_sem, cY, zY]) trivial ?_
                          refine pick_end (by kernel_rfl) ?_
                          clear cX cY zY
                          dsimp only at HEn
                          generalize Xd.setCell ⟨g, r6, none⟩ (.int .i64 z) = Z at *
                          go_wp2_with fail
                          rw [hwi]
                          exact ⟨⟨ii + 1, k + 1, _, ws2, h2, fu, rsX.set r6 z, rfl, HQ1, ⟨HEn.out, by have := HQk.out; omega, by have := HQX.out; omega, HE2.out.2.2, HE2.out.1, HE2.out.2.1⟩⟩, hstepI⟩
                    · refine ⟨_, .int .i64 x0, D, rfl, rfl, by simp [go_sem, cX], trivial, ?_⟩
                      refine pick_frame (by simp [go_sem]; exact rfl) ?_
                      refine pick_enter (i := 2) (f := 28) (args := #[.pointer (some ⟨p.B, 0, none⟩), .int .i64 4]) rfl (by kernel_rfl) rfl rfl (by simp [go_sem]) ?_
                      refine (SD.out.pick (by have := HQX.out; omega) 4 (by omega)).mono ?_
                      rintro e Xa ⟨ma, rfl, ha0, ha1, hsa, -⟩
                      obtain ⟨r6, rfl⟩ := Int.eq_ofNat_of_zero_le ha0
                      have hr6 : r6 < 4 := by omega
                      have hr61 : (r6 : Int) < 4 := by omega
                      have Sa := hid hsa
                      have cX : Xa.cell? ⟨g, r4, none⟩ = some (.int .i64 x0) := by have := (hsa.rootcell hr4).1; rw [HX0.out] at this; exact this
                      clear hsa
                      refine ⟨_, rfl, trivial, ?_⟩
                      refine pick_frame (by simp [go_sem]; exact rfl) ?_
                      refine pick_enter (i := 10) (f := 29) (args := #[.int .i64 kd]) rfl (by kernel_rfl) rfl rfl (by simp [go_sem]) ?_
                      refine (HFc.out Xa).mono ?_
                      rintro e Xb ⟨rfl, rfl⟩
                      have Sb := Sa
                      refine ⟨_, rfl, trivial, ?_⟩
                      refine pick_frame (by simp [go_sem]; exact rfl) ?_
                      refine pick_enter (i := 11) (f := 28) (args := #[.pointer (some ⟨p.B, 0, none⟩), .int .i64 F]) rfl (by kernel_rfl) rfl rfl (by simp [go_sem]) ?_
                      refine (Sb.out.pick (by have := HQX.out; omega) F (by have := HF.out; omega)).mono ?_
                      rintro e Xc ⟨mc, rfl, hc0, hc1, hsc, -⟩
                      obtain ⟨mi, rfl⟩ := Int.eq_ofNat_of_zero_le hc0
                      have Sc := hid hsc
                      have cX : Xc.cell? ⟨g, r4, none⟩ = some (.int .i64 x0) := by have := (hsc.rootcell hr4).1; rw [HX0.out] at this; exact this
                      clear hsc
                      refine ⟨_, rfl, trivial, ?_⟩
                      refine pick_frame (by simp [go_sem]; exact rfl) ?_
                      refine pick_enter (i := 12) (f := 55) (args := #[.pointer (some ⟨bm, 0, none⟩), .int .i64 x0, .int .i64 (mi : Int)]) rfl (by kernel_rfl) rfl rfl (by simp [go_sem]) ?_
                      refine (HFd.out mi (by omega) _ _ Sc.out).mono ?_
                      rintro e Xd ⟨z, rfl, ws2, h2, fu, hsd, hf2, ht2, hg2⟩
                      obtain ⟨cY, zY⟩ := hsd.rootcell hr6
                      dsimp only at cY zY
                      have HEn := hid (hsd.root hr6 z)
                      have HE2 : Hid (h2.flips ≤ 100 ∧ h2.touched ≤ 100000000 ∧ (fu = false → Gd ws2 h2 (rsX.set r6 z) (k + 1))) := ⟨hf2, ht2, hg2 r6 hr6⟩
                      clear hsd hf2 ht2 hg2
                      refine ⟨_, rfl, trivial, ?_⟩
                      refine pick_frame (by simp [go_sem]; exact rfl) ?_
                      refine pick_op (i := 13) (v := .pointer (some ⟨g, r6, none⟩)) (by kernel_rfl) rfl (by kernel_rfl) (by kernel_rfl) rfl rfl (fun w' _ => by simp [go_sem, ha0, hr61]) trivial (by simp [go_sem]; exact rfl) ?_
                      refine pick_skip (i := 14) rfl (w1 := Xd.setCell ⟨g, r6, none⟩ (.int .i64 z)) rfl (by kernel_rfl) rfl rfl (by simp [go_sem, cY, zY]) trivial ?_
                      refine pick_end (by kernel_rfl) ?_
                      clear cX cY zY
                      dsimp only at HEn
                      generalize Xd.setCell ⟨g, r6, none⟩ (.int .i64 z) = Z at *
                      go_wp2_with fail
                      rw [hwi]
                      exact ⟨⟨ii + 1, k + 1, _, ws2, h2, fu, rsX.set r6 z, rfl, HQ1, ⟨HEn.out, by have := HQk.out; omega, by have := HQX.out; omega, HE2.out.2.2, HE2.out.1, HE2.out.2.1⟩⟩, hstepI⟩
                  · generalize rsX.getD r4 0 = xn at cr hx
                    have hx' : (xn % 8 == 0) = false := by simpa using hx
                    have tg := fun w => specTag_calls xn w
                    unfold tagZ at tg
                    have HTg := hid tg
                    clear tg hx
                    go_wp2_with fail
                    refine (HTg.out _).mono ?_
                    rintro e w1 ⟨rfl, rfl⟩
                    go_wp2_with fail
                    rw [hwi]
                    exact ⟨⟨ii + 1, k + 1, qX + 1, ws1, h1, false, rsX, rfl, HQ1, HEn.out _ (by first | exact Below.refl _ _ | exact below_drewN (Below.refl _ _) _)⟩, hstepI⟩
                · have h20' : (m20 == 0) = false := by simpa using h20
                  go_wp2_with fail
                  rw [hwi]
                  exact ⟨⟨ii + 1, k + 1, qX + 1, ws1, h1, false, rsX, rfl, HQ1, HEn.out _ (by first | exact Below.refl _ _ | exact below_drewN (Below.refl _ _) _)⟩, hstepI⟩
    · have c10 := HH.out.sw.wk.cells.2.2.2.2.2.2.2.2.2.2
      dsimp only at c10
      go_wp2_with fail
      exact bodyPost_ret (results_tmp2 (fn := Try.f57) rfl _ _ _) rfl (HEnd.out _ _ HH.out)
end Go.Proofs.Ytebpgglegnljgaa

namespace Go.Proofs.Ytebpgglegnljgaa
open Go.RowKit Go.Deep

structure HpD (B : Nat) (a0 : Option Addr) (n cap q : Nat) (w0 : World) (bw cp g : Nat) (ws : List Int) (h : HpN) (rs : List Int) (W : World) : Prop where
  rd : Rd B a0 n cap q W
  row : CellRow 3 W bw ws.length (intCells ws)
  rt : CellRow 3 W g 4 (intCells rs)
  rl : rs.length = 4
  o2 : w0.heap.size ≤ bw
  o3 : w0.heap.size ≤ g
  n3 : bw ≠ g
  low : B < w0.heap.size
  below : Grw B w0 W
  q0 : q ≤ 1010
  cw : ws.length ≤ cp
  l8 : ws.length ≤ 8000
  l0 : 0 < ws.length
  fl : h.flips ≤ 100
  tc : h.touched ≤ 100000000

def HeapDP (B : Nat) (a0 : Option Addr) (n cap : Nat) (w0 : World) (e : Ending) (W' : World) : Prop :=
  ∃ (q bw cp g gc : Nat) (ws : List Int) (h : HpN) (rs : List Int), e = .returned (.tuple #[heapV (.slice (some ⟨bw, 0, none⟩) ws.length cp) h, .slice (some ⟨g, 0, none⟩) 4 gc]) ∧ HpD B a0 n cap q w0 bw cp g ws h rs W' ∧ 4 ≤ gc

theorem HpD.keep {B : Nat} {a0 : Option Addr} {n cap q : Nat} {w0 : World} {bw cp g : Nat} {ws : List Int} {h : HpN} {rs : List Int} {W W' : World} (s : HpD B a0 n cap q w0 bw cp g ws h rs W) (hb : Below W.heap.size W W') : HpD B a0 n cap q w0 bw cp g ws h rs W' :=
  ⟨s.rd.same (fun k hk => hb.block k (by have := heap_lt s.rd.blk; omega)), s.row.of_block (hb.block _ s.row.lt), s.rt.of_block (hb.block _ s.rt.lt), s.rl, s.o2, s.o3, s.n3, s.low, s.below.keep hb, s.q0, s.cw, s.l8, s.l0, s.fl, s.tc⟩

theorem HpD.only {B : Nat} {a0 : Option Addr} {n cap q q' : Nat} {w0 : World} {bw cp g : Nat} {ws : List Int} {h : HpN} {rs : List Int} {W W' : World} (s : HpD B a0 n cap q w0 bw cp g ws h rs W) (hr : Rd B a0 n cap q' W') (ho : Only B W W') (hq : q' ≤ 1010) : HpD B a0 n cap q' w0 bw cp g ws h rs W' := by
  have := s.o2
  have := s.o3
  have := s.low
  exact ⟨hr, s.row.of_block (ho.block _ (by omega)), s.rt.of_block (ho.block _ (by omega)), s.rl, s.o2, s.o3, s.n3, s.low, s.below.only ho, hq, s.cw, s.l8, s.l0, s.fl, s.tc⟩

theorem HpD.nums {B : Nat} {a0 : Option Addr} {n cap q : Nat} {w0 : World} {bw cp g : Nat} {ws : List Int} {h h' : HpN} {rs : List Int} {W : World} (s : HpD B a0 n cap q w0 bw cp g ws h rs W) (e1 : h'.flips = h.flips) (e2 : h'.touched = h.touched) : HpD B a0 n cap q w0 bw cp g ws h' rs W :=
  ⟨s.rd, s.row, s.rt, s.rl, s.o2, s.o3, s.n3, s.low, s.below, s.q0, s.cw, s.l8, s.l0, by rw [e1]; exact s.fl, by rw [e2]; exact s.tc⟩

theorem HpD.side {B : Nat} {a0 : Option Addr} {n cap q : Nat} {w0 : World} {bw cp g : Nat} {ws : List Int} {h : HpN} {rs : List Int} {W : World} (s : HpD B a0 n cap q w0 bw cp g ws h rs W) {b : Nat} (hb : w0.heap.size ≤ b) (h1 : b ≠ bw) (h2 : b ≠ g) (i : Nat) (v : Value) : HpD B a0 n cap q w0 bw cp g ws h rs (W.setCell ⟨b, i, none⟩ v) := by
  have e : ∀ j, j ≠ b → (W.setCell ⟨b, i, none⟩ v).heap[j]? = W.heap[j]? := fun j hj => Below.heap_setCell W ⟨b, i, none⟩ _ j hj
  have := s.low
  exact ⟨s.rd.same (fun j hj => e j (by omega)), s.row.of_block (e _ (Ne.symm h1)), s.rt.of_block (e _ (Ne.symm h2)), s.rl, s.o2, s.o3, s.n3, s.low, s.below.step ((Below.refl _ _).setCell hb _), s.q0, s.cw, s.l8, s.l0, s.fl, s.tc⟩

theorem HpD.turned {B : Nat} {a0 : Option Addr} {n cap q : Nat} {w0 : World} {bw cp g : Nat} {ws : List Int} {h : HpN} {rs : List Int} {W W' : World} (s : HpD B a0 n cap q w0 bw cp g ws h rs W) {b : Nat} (hb : w0.heap.size ≤ b) (h1 : b ≠ bw) (h2 : b ≠ g) (e : ∀ j, j ≠ b → W'.heap[j]? = W.heap[j]?) (hbl : Below w0.heap.size W W') : HpD B a0 n cap q w0 bw cp g ws h rs W' := by
  have := s.low
  exact ⟨s.rd.same (fun j hj => e j (by omega)), s.row.of_block (e _ (Ne.symm h1)), s.rt.of_block (e _ (Ne.symm h2)), s.rl, s.o2, s.o3, s.n3, s.low, s.below.step hbl, s.q0, s.cw, s.l8, s.l0, s.fl, s.tc⟩

theorem rowi_set {W : World} {g n : Nat} {xs : List Int} (h : CellRow 3 W g n (intCells xs)) (hl : xs.length = n) {k : Nat} (hk : k < n) (x : Int) : CellRow 3 (W.setCell ⟨g, k, none⟩ (.int .i64 x)) g n (intCells (xs.set k x)) := by
  obtain ⟨N, f, hr, h1, h2⟩ := h
  refine ⟨N, _, hr.set k _, h1, fun i hi => ?_⟩
  unfold intCells
  rw [getD_setN _ _ _ _ (by omega)]
  by_cases e : i = k
  · rw [if_pos e, if_pos e]
  · rw [if_neg e, if_neg e]
    exact h2 i hi

theorem row_fz {W : World} {g n : Nat} {F : Nat → Value} (h : CellRow 3 W g n F) {k : Nat} (hk : k < n) : W.frozen? ⟨g, k, none⟩ = false := by
  obtain ⟨N, f, hr, h1, h2⟩ := h
  exact hr.frozen k hk

theorem HpD.word {B : Nat} {a0 : Option Addr} {n cap q : Nat} {w0 : World} {bw cp g : Nat} {ws : List Int} {h : HpN} {rs : List Int} {W : World} (s : HpD B a0 n cap q w0 bw cp g ws h rs W) {k : Nat} (hk : k < ws.length) (x : Int) : HpD B a0 n cap q w0 bw cp g (ws.set k x) h rs (W.setCell ⟨bw, k, none⟩ (.int .i64 x)) := by
  have e : ∀ j, j ≠ bw → (W.setCell ⟨bw, k, none⟩ (.int .i64 x)).heap[j]? = W.heap[j]? := fun j hj => Below.heap_setCell W ⟨bw, k, none⟩ _ j hj
  have := s.low
  have := s.o2
  have hl : (ws.set k x).length = ws.length := List.length_set
  exact ⟨s.rd.same (fun j hj => e j (by omega)), by rw [hl]; exact rowi_set s.row rfl hk x, s.rt.of_block (e _ (Ne.symm s.n3)), s.rl, s.o2, s.o3, s.n3, s.low, s.below.step ((Below.refl _ _).setCell s.o2 _), s.q0, by rw [hl]; exact s.cw, by rw [hl]; exact s.l8, by rw [hl]; exact s.l0, s.fl, s.tc⟩

theorem HpD.root {B : Nat} {a0 : Option Addr} {n cap q : Nat} {w0 : World} {bw cp g : Nat} {ws : List Int} {h : HpN} {rs : List Int} {W : World} (s : HpD B a0 n cap q w0 bw cp g ws h rs W) {k : Nat} (hk : k < 4) (x : Int) : HpD B a0 n cap q w0 bw cp g ws h (rs.set k x) (W.setCell ⟨g, k, none⟩ (.int .i64 x)) := by
  have e : ∀ j, j ≠ g → (W.setCell ⟨g, k, none⟩ (.int .i64 x)).heap[j]? = W.heap[j]? := fun j hj => Below.heap_setCell W ⟨g, k, none⟩ _ j hj
  have := s.low
  have := s.o3
  exact ⟨s.rd.same (fun j hj => e j (by omega)), s.row.of_block (e _ s.n3), rowi_set s.rt s.rl hk x, by rw [List.length_set]; exact s.rl, s.o2, s.o3, s.n3, s.low, s.below.step ((Below.refl _ _).setCell s.o3 _), s.q0, s.cw, s.l8, s.l0, s.fl, s.tc⟩

set_option maxHeartbeats 16000000 in
set_option maxRecDepth 100000 in
theorem heap_calls (B : Nat) (a0 : Option Addr) (n cap : Nat) (W : World) (hr : Rd B a0 n cap 0 W) : Calls Try.prog 27 #[.pointer (some ⟨B, 0, none⟩)] W (HeapDP B a0 n cap W) := by
  have HWk : Hid (∀ X, Below W.heap.size W X → Calls Try.prog 57 #[.pointer (some ⟨B, 0, none⟩)] X (WorkP ⟨X, B, a0, n, cap, 0, 0, 0, 0, 0⟩)) := fun X hX => by
    have hl := heap_lt hr.blk
    have hs := hX.size
    exact work_calls ⟨X, B, a0, n, cap, 0, 0, 0, 0, 0⟩ X (hr.same (fun k hk => hX.block k (by omega))) (by dsimp only; omega) (Grw.refl _ _)
  have HB := hid (heap_lt hr.blk)
  clear hr
  go_enter Try.func27, Try.ntmps27
  go_wp2_with fail
  refine (HWk.out _ ((Below.refl _ _).alloc (Nat.le_refl _) _)).mono ?_
  rintro e W1 ⟨bm, bw, cp, g, q, ws, h, full, rs, gc, rfl, hsw, hq, hgc, h8, h0, hfl, htc⟩
  have hX := (Below.refl W.heap.size W).alloc (Nat.le_refl _) (.cells #[.slice none 0 0, .int .i64 0, .int .i64 0, .int .i64 0, .int .i64 0, .int .i64 0, .int .i64 0, .int .i64 0, .int .i64 0, .int .i64 0] 25)
  have hXs : (W.alloc (.cells #[.slice none 0 0, .int .i64 0, .int .i64 0, .int .i64 0, .int .i64 0, .int .i64 0, .int .i64 0, .int .i64 0, .int .i64 0, .int .i64 0] 25)).heap.size = W.heap.size + 1 := by simp
  have hgw := hsw.below
  have hb1 := hsw.o1
  have hb2 := hsw.o2
  have hb3 := hsw.o3
  dsimp only at hgw hb1 hb2 hb3
  rw [hXs] at hb1 hb2 hb3
  have hrv : HeapBlk W1 W.heap.size (.slice none 0 0) ⟨0, 0, 0, 0, 0, 0, 0, 0, 0⟩ := (hgw.block W.heap.size (by rw [hXs]; omega) (by have := HB.out; omega)).trans (MapKept.heap_alloc W _).1
  have HS1 : Hid (HpD B a0 n cap q W bw cp g ws h rs W1) := ⟨hsw.rd, hsw.row, hsw.rt, hsw.rl, by omega, by omega, hsw.n3, HB.out, ((Grw.refl B W).keep hX).trans hgw, by omega, hgc.2, h8, h0, hfl, htc⟩
  obtain ⟨c0, c1, c2, c3, c4, c5, c6, c7, c8, c9, -⟩ := hsw.wk.cells
  obtain ⟨rv, hrve⟩ : ∃ rv, W.heap.size = rv := ⟨_, rfl⟩
  obtain ⟨L, hL⟩ : ∃ L, ws.length = L := ⟨_, rfl⟩
  have HLL := hid hL
  have HL0 : Hid (0 < L) := by show _ < _; omega
  have HQ0 : Hid (q ≤ 1000) := hq
  have HGc : Hid (4 ≤ gc) := hgc.1
  dsimp only at c0 c1 c2 c3 c4 c5 c6 c7 c8 c9
  rw [hL] at c0
  rw [hrve] at hrv
  have HR1 := hid hrv
  have HE := hid hrve
  have hbm : bm < W1.heap.size := heap_lt hsw.wk
  have hN : Hid (B < rv ∧ rv < bw ∧ rv < g ∧ rv < W1.heap.size ∧ bw < W1.heap.size ∧ g < W1.heap.size) := by
    have e1 := hsw.row.lt
    have e2 := hsw.rt.lt
    have := HB.out
    dsimp only at e1 e2
    exact ⟨by omega, by omega, by omega, by omega, e1, e2⟩
  clear hsw hq hgc h8 h0 hfl htc hX hXs hgw hb1 hb2 hb3 hrv hL HWk
  rw [hrve]
  clear hrve
  go_wp2_with fail
  have HS2 := hid (HS1.out.keep ((Below.refl W1.heap.size W1).alloc (Nat.le_refl _) (.cells #[.slice (some ⟨bw, 0, none⟩) L cp, .int .i64 h.size, .int .i64 h.to, .int .i64 h.bottom, .int .i64 h.top, .int .i64 h.scan, .int .i64 h.fb, .int .i64 h.ft, .int .i64 h.flips, .int .i64 h.touched] 25)))
  have HH2 : Hid (HeapBlk _ W1.heap.size (.slice (some ⟨bw, 0, none⟩) L cp) h) := HeapBlk.new W1 (.slice (some ⟨bw, 0, none⟩) L cp) h
  have HR2 := hid (HR1.out.below ((Below.refl W1.heap.size W1).alloc (Nat.le_refl _) (.cells #[.slice (some ⟨bw, 0, none⟩) L cp, .int .i64 h.size, .int .i64 h.to, .int .i64 h.bottom, .int .i64 h.top, .int .i64 h.scan, .int .i64 h.fb, .int .i64 h.ft, .int .i64 h.flips, .int .i64 h.touched] 25)))
  clear c0 c1 c2 c3 c4 c5 c6 c7 c8 c9 HS1 HR1 hbm
  obtain ⟨hv, hhv⟩ : ∃ hv, W1.heap.size = hv := ⟨_, rfl⟩
  obtain ⟨W2, hW2⟩ : ∃ X, W1.alloc (.cells #[.slice (some ⟨bw, 0, none⟩) L cp, .int .i64 h.size, .int .i64 h.to, .int .i64 h.bottom, .int .i64 h.top, .int .i64 h.scan, .int .i64 h.fb, .int .i64 h.ft, .int .i64 h.flips, .int .i64 h.touched] 25) = X := ⟨_, rfl⟩
  rw [hW2] at HS2 HH2 HR2 ⊢
  rw [hhv] at HH2 hN ⊢
  have HNe := hN
  clear hN hhv hW2
  refine (rd_picks HS2.out.rd (by have := HS2.out.q0; omega) 24 (by omega)).mono ?_
  rintro e W3 ⟨m24, rfl, h240, h241, hr3, ho3⟩
  have HQ : Hid (q + 3 ≤ 1010) := by show _ ≤ _; have := HQ0.out; omega
  have HS3 := hid (HS2.out.only hr3 ho3 (by have := HQ.out; omega))
  have HHv : Hid (HeapBlk W3 hv (.slice (some ⟨bw, 0, none⟩) L cp) h) := (ho3.block hv (by have := HNe.out; omega)).trans HH2.out
  have HRv : Hid (HeapBlk W3 rv (.slice none 0 0) ⟨0, 0, 0, 0, 0, 0, 0, 0, 0⟩) := (ho3.block rv (by have := HNe.out; omega)).trans HR2.out
  clear hr3 ho3 HS2 HH2 HR2 HQ0
  have HWz : Hid (W.heap.size = rv) := HE.out
  rcases (show m24 = 0 ∨ m24 = 1 ∨ m24 = 2 ∨ m24 = 3 ∨ m24 = 4 ∨ (m24 ≠ 0 ∧ m24 ≠ 1 ∧ m24 ≠ 2 ∧ m24 ≠ 3 ∧ m24 ≠ 4) by omega) with h24 | h24 | h24 | h24 | h24 | ⟨z0, z1, z2, z3, z4⟩
  · subst h24
    go_wp2_with fail
    have hD : Below W3.heap.size W3 W3.drew := (Below.refl _ _).drew
    obtain ⟨D, hDe⟩ : ∃ D, W3.drew = D := ⟨_, rfl⟩
    rw [hDe] at hD
    have SD := hid (HS3.out.keep hD)
    have HvD := hid (HHv.out.below hD)
    have RvD := hid (HRv.out.below hD)
    clear HS3 HHv HRv
    refine pick_begin (S := fun w => w.cell? ⟨hv, 0, none⟩ = some (.slice (some ⟨bw, 0, none⟩) L cp)) (by kernel_rfl) rfl rfl ?_
    rw [hDe]
    clear hDe hD
    have cS := HvD.out.cells.1
    refine pick_op (i := 0) (v := .pointer (some ⟨hv, 0, none⟩)) (by kernel_rfl) rfl (by kernel_rfl) (by kernel_rfl) rfl rfl (fun w' _ => by simp [go_sem]) cS (by simp [go_sem]; exact rfl) ?_
    refine pick_op (i := 1) (v := .slice (some ⟨bw, 0, none⟩) L cp) (by kernel_rfl) rfl (by kernel_rfl) (by kernel_rfl) rfl rfl (fun w' hw => by simp [go_sem, hw]) cS (by simp [go_sem]; exact rfl) ?_
    refine pick_op (i := 2) (v := .pointer (some ⟨B, 0, none⟩)) (by kernel_rfl) rfl (by kernel_rfl) (by kernel_rfl) rfl rfl (fun w' _ => by simp [go_sem]) cS (by simp [go_sem]; exact rfl) ?_
    refine pick_op (i := 3) (v := .pointer (some ⟨hv, 0, none⟩)) (by kernel_rfl) rfl (by kernel_rfl) (by kernel_rfl) rfl rfl (fun w' _ => by simp [go_sem]) cS (by simp [go_sem]; exact rfl) ?_
    refine pick_op (i := 4) (v := .slice (some ⟨bw, 0, none⟩) L cp) (by kernel_rfl) rfl (by kernel_rfl) (by kernel_rfl) rfl rfl (fun w' hw => by simp [go_sem, hw]) cS (by simp [go_sem]; exact rfl) ?_
    refine pick_op (i := 5) (v := .int .i64 (L : Int)) (by kernel_rfl) rfl (by kernel_rfl) (by kernel_rfl) rfl rfl (fun w' _ => by simp [go_sem]) cS (by simp [go_sem]; exact rfl) ?_
    refine pick_op (i := 7) (v := .pointer (some ⟨B, 0, none⟩)) (by kernel_rfl) rfl (by kernel_rfl) (by kernel_rfl) rfl rfl (fun w' _ => by simp [go_sem]) cS (by simp [go_sem]; exact rfl) ?_
    refine pick_enter (i := 6) (f := 28) (args := #[.pointer (some ⟨B, 0, none⟩), .int .i64 (L : Int)]) rfl (by kernel_rfl) rfl rfl (by simp [go_sem]) ?_
    refine (rd_picks SD.out.rd (by have := SD.out.q0; omega) (L : Int) (by have := HL0.out; omega)).mono ?_
    rintro e X1 ⟨a1, rfl, ha10, ha11, hra1, hoa1⟩
    have SX1 := hid (SD.out.only hra1 hoa1 (by have := HQ.out; omega))
    have HvX1 : Hid (HeapBlk X1 hv (.slice (some ⟨bw, 0, none⟩) L cp) h) := (hoa1.block hv (by have := HNe.out; omega)).trans HvD.out
    have RvX1 : Hid (HeapBlk X1 rv (.slice none 0 0) ⟨0, 0, 0, 0, 0, 0, 0, 0, 0⟩) := (hoa1.block rv (by have := HNe.out; omega)).trans RvD.out
    have cS := HvX1.out.cells.1
    clear hra1 hoa1
    refine ⟨_, rfl, cS, ?_⟩
    refine pick_frame (by simp [go_sem]; exact rfl) ?_
    refine pick_enter (i := 8) (f := 28) (args := #[.pointer (some ⟨B, 0, none⟩), .int .i64 200]) rfl (by kernel_rfl) rfl rfl (by simp [go_sem]) ?_
    refine (rd_picks SX1.out.rd (by have := SX1.out.q0; omega) 200 (by omega)).mono ?_
    rintro e X2 ⟨a2, rfl, ha20, ha21, hra2, hoa2⟩
    have SX2 := hid (SX1.out.only hra2 hoa2 (by have := HQ.out; omega))
    have HvX2 : Hid (HeapBlk X2 hv (.slice (some ⟨bw, 0, none⟩) L cp) h) := (hoa2.block hv (by have := HNe.out; omega)).trans HvX1.out
    have RvX2 : Hid (HeapBlk X2 rv (.slice none 0 0) ⟨0, 0, 0, 0, 0, 0, 0, 0, 0⟩) := (hoa2.block rv (by have := HNe.out; omega)).trans RvX1.out
    have cS := HvX2.out.cells.1
    clear hra2 hoa2
    refine ⟨_, rfl, cS, ?_⟩
    refine pick_frame (by simp [go_sem]; exact rfl) ?_
    obtain ⟨k1, rfl⟩ := Int.eq_ofNat_of_zero_le ha10
    have hk1 : k1 < ws.length := by rw [HLL.out]; omega
    have cw := SX2.out.row.cell hk1
    have zw := row_fz SX2.out.row hk1
    refine pick_op (i := 9) (v := .pointer (some ⟨bw, k1, none⟩)) (by kernel_rfl) rfl (by kernel_rfl) (by kernel_rfl) rfl rfl (fun w' _ => by simp [go_sem, ha10, ha11]) cS (by simp [go_sem]; exact rfl) ?_
    have HSX := hid (SX2.out.word hk1 a2)
    have HHv : Hid (HeapBlk (X2.setCell ⟨bw, k1, none⟩ (.int .i64 a2)) hv (.slice (some ⟨bw, 0, none⟩) L cp) h) := (Below.heap_setCell X2 ⟨bw, k1, none⟩ _ hv (show hv ≠ bw by have := HNe.out; omega)).trans HvX2.out
    have HRv : Hid (HeapBlk (X2.setCell ⟨bw, k1, none⟩ (.int .i64 a2)) rv (.slice none 0 0) ⟨0, 0, 0, 0, 0, 0, 0, 0, 0⟩) := (Below.heap_setCell X2 ⟨bw, k1, none⟩ _ rv (show rv ≠ bw by have := HNe.out; omega)).trans RvX2.out
    refine pick_skip (i := 10) rfl (w1 := X2.setCell ⟨bw, k1, none⟩ (.int .i64 a2)) rfl (by kernel_rfl) rfl rfl (by simp [go_sem, cw, zw]) HHv.out.cells.1 ?_
    refine pick_end (by kernel_rfl) ?_
    have HLX : Hid ((ws.set k1 a2).length = L) := by show _ = _; rw [List.length_set]; exact HLL.out
    generalize X2.setCell ⟨bw, k1, none⟩ (.int .i64 a2) = WX at *
    clear cw zw cS ha10 ha11 ha20 ha21 hk1
    obtain ⟨wsX, hwsX⟩ : ∃ y, ws.set k1 a2 = y := ⟨_, rfl⟩
    rw [hwsX] at HSX HLX
    clear hwsX
    obtain ⟨hX, hhX⟩ : ∃ y, h = y := ⟨_, rfl⟩
    rw [hhX] at HSX HHv
    obtain ⟨rsX, hrsX⟩ : ∃ y, rs = y := ⟨_, rfl⟩
    rw [hrsX] at HSX
    clear hhX hrsX
    obtain ⟨c0, c1, c2, c3, c4, c5, c6, c7, c8, c9⟩ := HHv.out.cells
    obtain ⟨d0, d1, d2, d3, d4, d5, d6, d7, d8, d9⟩ := HRv.out.cells
    have z0 := frozen_of_heap HRv.out 0
    have z1 := frozen_of_heap HRv.out 1
    have z2 := frozen_of_heap HRv.out 2
    have z3 := frozen_of_heap HRv.out 3
    have z4 := frozen_of_heap HRv.out 4
    have z5 := frozen_of_heap HRv.out 5
    have z6 := frozen_of_heap HRv.out 6
    have z7 := frozen_of_heap HRv.out 7
    have z8 := frozen_of_heap HRv.out 8
    have z9 := frozen_of_heap HRv.out 9
    dsimp only at d0 d1 d2 d3 d4 d5 d6 d7 d8 d9
    go_wp2_with fail
    refine heap_useT HRv.out (.slice (some ⟨bw, 0, none⟩) L cp) hX _ ?_
    intro W' hW' hbl hoth
    obtain ⟨y0, y1, y2, y3, y4, y5, y6, y7, y8, y9⟩ := hW'.cells
    have hne := HNe.out
    have hwz := HWz.out
    exact bodyPost_ret (v := .tuple #[heapV (.slice (some ⟨bw, 0, none⟩) L cp) hX, .slice (some ⟨g, 0, none⟩) 4 gc]) (by simp [results, Try.results27, go_sem, y0, y1, y2, y3, y4, y5, y6, y7, y8, y9, heapV]) rfl ⟨_, bw, cp, g, gc, wsX, hX, rsX, by rw [HLX.out], HSX.out.turned (b := rv) (by omega) (by omega) (by omega) hoth (hbl W.heap.size (by omega)), HGc.out⟩
  · subst h24
    go_wp2_with fail
    have hD : Below W3.heap.size W3 W3.drew := (Below.refl _ _).drew
    obtain ⟨D, hDe⟩ : ∃ D, W3.drew = D := ⟨_, rfl⟩
    rw [hDe] at hD
    have SD := hid (HS3.out.keep hD)
    have HvD := hid (HHv.out.below hD)
    have RvD := hid (HRv.out.below hD)
    clear HS3 HHv HRv
    refine pick_begin (S := fun w => w.cell? ⟨hv, 0, none⟩ = some (.slice (some ⟨bw, 0, none⟩) L cp)) (by kernel_rfl) rfl rfl ?_
    rw [hDe]
    clear hDe hD
    have cS := HvD.out.cells.1
    refine pick_op (i := 0) (v := .slice (some ⟨g, 0, none⟩) 4 gc) (by kernel_rfl) rfl (by kernel_rfl) (by kernel_rfl) rfl rfl (fun w' _ => by simp [go_sem]) cS (by simp [go_sem]; exact rfl) ?_
    refine pick_op (i := 1) (v := .pointer (some ⟨B, 0, none⟩)) (by kernel_rfl) rfl (by kernel_rfl) (by kernel_rfl) rfl rfl (fun w' _ => by simp [go_sem]) cS (by simp [go_sem]; exact rfl) ?_
    refine pick_op (i := 3) (v := .pointer (some ⟨B, 0, none⟩)) (by kernel_rfl) rfl (by kernel_rfl) (by kernel_rfl) rfl rfl (fun w' _ => by simp [go_sem]) cS (by simp [go_sem]; exact rfl) ?_
    refine pick_op (i := 4) (v := .pointer (some ⟨hv, 0, none⟩)) (by kernel_rfl) rfl (by kernel_rfl) (by kernel_rfl) rfl rfl (fun w' _ => by simp [go_sem]) cS (by simp [go_sem]; exact rfl) ?_
    refine pick_op (i := 5) (v := .slice (some ⟨bw, 0, none⟩) L cp) (by kernel_rfl) rfl (by kernel_rfl) (by kernel_rfl) rfl rfl (fun w' hw => by simp [go_sem, hw]) cS (by simp [go_sem]; exact rfl) ?_
    refine pick_op (i := 6) (v := .int .i64 (L : Int)) (by kernel_rfl) rfl (by kernel_rfl) (by kernel_rfl) rfl rfl (fun w' _ => by simp [go_sem]) cS (by simp [go_sem]; exact rfl) ?_
    refine pick_enter (i := 2) (f := 28) (args := #[.pointer (some ⟨B, 0, none⟩), .int .i64 4]) rfl (by kernel_rfl) rfl rfl (by simp [go_sem]) ?_
    refine (rd_picks SD.out.rd (by have := SD.out.q0; omega) 4 (by omega)).mono ?_
    rintro e X1 ⟨a1, rfl, ha10, ha11, hra1, hoa1⟩
    have SX1 := hid (SD.out.only hra1 hoa1 (by have := HQ.out; omega))
    have HvX1 : Hid (HeapBlk X1 hv (.slice (some ⟨bw, 0, none⟩) L cp) h) := (hoa1.block hv (by have := HNe.out; omega)).trans HvD.out
    have RvX1 : Hid (HeapBlk X1 rv (.slice none 0 0) ⟨0, 0, 0, 0, 0, 0, 0, 0, 0⟩) := (hoa1.block rv (by have := HNe.out; omega)).trans RvD.out
    have cS := HvX1.out.cells.1
    clear hra1 hoa1
    refine ⟨_, rfl, cS, ?_⟩
    refine pick_frame (by simp [go_sem]; exact rfl) ?_
    refine pick_enter (i := 7) (f := 28) (args := #[.pointer (some ⟨B, 0, none⟩), .int .i64 (L : Int)]) rfl (by kernel_rfl) rfl rfl (by simp [go_sem]) ?_
    refine (rd_picks SX1.out.rd (by have := SX1.out.q0; omega) (L : Int) (by have := HL0.out; omega)).mono ?_
    rintro e X2 ⟨a2, rfl, ha20, ha21, hra2, hoa2⟩
    have SX2 := hid (SX1.out.only hra2 hoa2 (by have := HQ.out; omega))
    have HvX2 : Hid (HeapBlk X2 hv (.slice (some ⟨bw, 0, none⟩) L cp) h) := (hoa2.block hv (by have := HNe.out; omega)).trans HvX1.out
    have RvX2 : Hid (HeapBlk X2 rv (.slice none 0 0) ⟨0, 0, 0, 0, 0, 0, 0, 0, 0⟩) := (hoa2.block rv (by have := HNe.out; omega)).trans RvX1.out
    have cS := HvX2.out.cells.1
    clear hra2 hoa2
    refine ⟨_, rfl, cS, ?_⟩
    refine pick_frame (by simp [go_sem]; exact rfl) ?_
    obtain ⟨k1, rfl⟩ := Int.eq_ofNat_of_zero_le ha10
    have hk1 : k1 < 4 := by omega
    have cw := SX2.out.rt.cell hk1
    have zw := row_fz SX2.out.rt hk1
    refine pick_op (i := 8) (v := .int .i64 (wrap64 (8 * a2))) (by kernel_rfl) rfl (by kernel_rfl) (by kernel_rfl) rfl rfl (fun w' _ => by simp [go_sem]; exact IntWalk.i64_left _) cS (by simp [go_sem]; exact rfl) ?_
    obtain ⟨y2, hy2⟩ : ∃ y, wrap64 (8 * a2) = y := ⟨_, rfl⟩
    rw [hy2]
    clear hy2
    refine pick_op (i := 9) (v := .pointer (some ⟨g, k1, none⟩)) (by kernel_rfl) rfl (by kernel_rfl) (by kernel_rfl) rfl rfl (fun w' _ => by simp [go_sem, ha10, ha11]) cS (by simp [go_sem]; exact rfl) ?_
    have HSX := hid (SX2.out.root hk1 y2)
    have HHv : Hid (HeapBlk (X2.setCell ⟨g, k1, none⟩ (.int .i64 y2)) hv (.slice (some ⟨bw, 0, none⟩) L cp) h) := (Below.heap_setCell X2 ⟨g, k1, none⟩ _ hv (show hv ≠ g by have := HNe.out; omega)).trans HvX2.out
    have HRv : Hid (HeapBlk (X2.setCell ⟨g, k1, none⟩ (.int .i64 y2)) rv (.slice none 0 0) ⟨0, 0, 0, 0, 0, 0, 0, 0, 0⟩) := (Below.heap_setCell X2 ⟨g, k1, none⟩ _ rv (show rv ≠ g by have := HNe.out; omega)).trans RvX2.out
    refine pick_skip (i := 10) rfl (w1 := X2.setCell ⟨g, k1, none⟩ (.int .i64 y2)) rfl (by kernel_rfl) rfl rfl (by simp [go_sem, cw, zw]) HHv.out.cells.1 ?_
    refine pick_end (by kernel_rfl) ?_
    generalize X2.setCell ⟨g, k1, none⟩ (.int .i64 y2) = WX at *
    clear cw zw cS ha10 ha11 ha20 ha21 hk1
    have HLX := HLL
    obtain ⟨wsX, hwsX⟩ : ∃ y, ws = y := ⟨_, rfl⟩
    rw [hwsX] at HSX HLX
    obtain ⟨hX, hhX⟩ : ∃ y, h = y := ⟨_, rfl⟩
    rw [hhX] at HSX HHv
    obtain ⟨rsX, hrsX⟩ : ∃ y, rs.set k1 y2 = y := ⟨_, rfl⟩
    rw [hrsX] at HSX
    clear hwsX hhX hrsX
    obtain ⟨c0, c1, c2, c3, c4, c5, c6, c7, c8, c9⟩ := HHv.out.cells
    obtain ⟨d0, d1, d2, d3, d4, d5, d6, d7, d8, d9⟩ := HRv.out.cells
    have z0 := frozen_of_heap HRv.out 0
    have z1 := frozen_of_heap HRv.out 1
    have z2 := frozen_of_heap HRv.out 2
    have z3 := frozen_of_heap HRv.out 3
    have z4 := frozen_of_heap HRv.out 4
    have z5 := frozen_of_heap HRv.out 5
    have z6 := frozen_of_heap HRv.out 6
    have z7 := frozen_of_heap HRv.out 7
    have z8 := frozen_of_heap HRv.out 8
    have z9 := frozen_of_heap HRv.out 9
    dsimp only at d0 d1 d2 d3 d4 d5 d6 d7 d8 d9
    go_wp2_with fail
    refine heap_useT HRv.out (.slice (some ⟨bw, 0, none⟩) L cp) hX _ ?_
    intro W' hW' hbl hoth
    obtain ⟨y0, y1, y2, y3, y4, y5, y6, y7, y8, y9⟩ := hW'.cells
    have hne := HNe.out
    have hwz := HWz.out
    exact bodyPost_ret (v := .tuple #[heapV (.slice (some ⟨bw, 0, none⟩) L cp) hX, .slice (some ⟨g, 0, none⟩) 4 gc]) (by simp [results, Try.results27, go_sem, y0, y1, y2, y3, y4, y5, y6, y7, y8, y9, heapV]) rfl ⟨_, bw, cp, g, gc, wsX, hX, rsX, by rw [HLX.out], HSX.out.turned (b := rv) (by omega) (by omega) (by omega) hoth (hbl W.heap.size (by omega)), HGc.out⟩
  · subst h24
    go_wp2_with fail
    have hD : Below W3.heap.size W3 W3.drew := (Below.refl _ _).drew
    obtain ⟨D, hDe⟩ : ∃ D, W3.drew = D := ⟨_, rfl⟩
    rw [hDe] at hD
    have SD := hid (HS3.out.keep hD)
    have HvD := hid (HHv.out.below hD)
    have RvD := hid (HRv.out.below hD)
    clear HS3 HHv HRv
    refine pick_begin (S := fun _ => True) (by kernel_rfl) rfl rfl ?_
    rw [hDe]
    clear hDe hD
    refine pick_op (i := 0) (v := .pointer (some ⟨hv, 5, none⟩)) (by kernel_rfl) rfl (by kernel_rfl) (by kernel_rfl) rfl rfl (fun w' _ => by simp [go_sem]) trivial (by simp [go_sem]; exact rfl) ?_
    refine pick_op (i := 2) (v := .pointer (some ⟨B, 0, none⟩)) (by kernel_rfl) rfl (by kernel_rfl) (by kernel_rfl) rfl rfl (fun w' _ => by simp [go_sem]) trivial (by simp [go_sem]; exact rfl) ?_
    obtain ⟨x, hx⟩ : ∃ x, h.scan = x := ⟨_, rfl⟩
    have cD := HvD.out.cells.2.2.2.2.2.1
    rw [hx] at cD
    refine pick_either (i := 1) (j := 3) (by kernel_rfl) ?_ ?_
    · refine ⟨_, .int .i64 x, D, rfl, rfl, by simp [go_sem, cD], trivial, ?_⟩
      refine pick_frame (by simp [go_sem]; exact rfl) ?_
      clear cD
      refine pick_enter (i := 3) (f := 28) (args := #[.pointer (some ⟨B, 0, none⟩), .int .i64 3]) rfl (by kernel_rfl) rfl rfl (by simp [go_sem]) ?_
      refine (rd_picks SD.out.rd (by have := SD.out.q0; omega) 3 (by omega)).mono ?_
      rintro e X1 ⟨a1, rfl, ha10, ha11, hra1, hoa1⟩
      have SX1 := hid (SD.out.only hra1 hoa1 (by have := HQ.out; omega))
      have HvX1 : Hid (HeapBlk X1 hv (.slice (some ⟨bw, 0, none⟩) L cp) h) := (hoa1.block hv (by have := HNe.out; omega)).trans HvD.out
      have RvX1 : Hid (HeapBlk X1 rv (.slice none 0 0) ⟨0, 0, 0, 0, 0, 0, 0, 0, 0⟩) := (hoa1.block rv (by have := HNe.out; omega)).trans RvD.out
      clear hra1 hoa1
      refine ⟨_, rfl, trivial, ?_⟩
      refine pick_frame (by simp [go_sem]; exact rfl) ?_
      refine pick_op (i := 4) (v := .int .i64 (wrap64 (x + a1))) (by kernel_rfl) rfl (by kernel_rfl) (by kernel_rfl) rfl rfl (fun w' _ => by simp [go_sem]; exact IntWalk.i64_left _) trivial (by simp [go_sem]; exact rfl) ?_
      obtain ⟨y1, hy1⟩ : ∃ y, wrap64 (x + a1) = y := ⟨_, rfl⟩
      rw [hy1]
      clear hy1
      refine pick_op (i := 5) (v := .pointer (some ⟨hv, 5, none⟩)) (by kernel_rfl) rfl (by kernel_rfl) (by kernel_rfl) rfl rfl (fun w' _ => by simp [go_sem]) trivial (by simp [go_sem]; exact rfl) ?_
      have cX := HvX1.out.cells.2.2.2.2.2.1
      have zX := frozen_of_heap HvX1.out 5
      have HSX := hid ((SX1.out.side (b := hv) (by have := HNe.out; have := HWz.out; omega) (by have := HNe.out; omega) (by have := HNe.out; omega) 5 (.int .i64 y1)).nums (h' := { h with scan := y1 }) rfl rfl)
      have HHv : Hid (HeapBlk (X1.setCell ⟨hv, 5, none⟩ (.int .i64 y1)) hv (.slice (some ⟨bw, 0, none⟩) L cp) { h with scan := y1 }) := by
        have hb := HvX1.out
        unfold HeapBlk at hb
        show HeapBlk _ _ _ _
        unfold HeapBlk
        simp [World.setCell, Array.getElem?_modify, hb]
      have HRv : Hid (HeapBlk (X1.setCell ⟨hv, 5, none⟩ (.int .i64 y1)) rv (.slice none 0 0) ⟨0, 0, 0, 0, 0, 0, 0, 0, 0⟩) := (Below.heap_setCell X1 ⟨hv, 5, none⟩ _ rv (show rv ≠ hv by have := HNe.out; omega)).trans RvX1.out
      refine pick_skip (i := 6) rfl (w1 := X1.setCell ⟨hv, 5, none⟩ (.int .i64 y1)) rfl (by kernel_rfl) rfl rfl (by simp [go_sem, cX, zX]) trivial ?_
      refine pick_end (by kernel_rfl) ?_
      generalize X1.setCell ⟨hv, 5, none⟩ (.int .i64 y1) = WX at *
      clear cX zX ha10 ha11 hx
      have HLX := HLL
      obtain ⟨wsX, hwsX⟩ : ∃ y, ws = y := ⟨_, rfl⟩
      rw [hwsX] at HSX HLX
      obtain ⟨hX, hhX⟩ : ∃ y, ({ h with scan := y1 } : HpN) = y := ⟨_, rfl⟩
      rw [hhX] at HSX HHv
      obtain ⟨rsX, hrsX⟩ : ∃ y, rs = y := ⟨_, rfl⟩
      rw [hrsX] at HSX
      clear hwsX hhX hrsX
      obtain ⟨c0, c1, c2, c3, c4, c5, c6, c7, c8, c9⟩ := HHv.out.cells
      obtain ⟨d0, d1, d2, d3, d4, d5, d6, d7, d8, d9⟩ := HRv.out.cells
      have z0 := frozen_of_heap HRv.out 0
      have z1 := frozen_of_heap HRv.out 1
      have z2 := frozen_of_heap HRv.out 2
      have z3 := frozen_of_heap HRv.out 3
      have z4 := frozen_of_heap HRv.out 4
      have z5 := frozen_of_heap HRv.out 5
      have z6 := frozen_of_heap HRv.out 6
      have z7 := frozen_of_heap HRv.out 7
      have z8 := frozen_of_heap HRv.out 8
      have z9 := frozen_of_heap HRv.out 9
      dsimp only at d0 d1 d2 d3 d4 d5 d6 d7 d8 d9
      go_wp2_with fail
      refine heap_useT HRv.out (.slice (some ⟨bw, 0, none⟩) L cp) hX _ ?_
      intro W' hW' hbl hoth
      obtain ⟨y0, y1, y2, y3, y4, y5, y6, y7, y8, y9⟩ := hW'.cells
      have hne := HNe.out
      have hwz := HWz.out
      exact bodyPost_ret (v := .tuple #[heapV (.slice (some ⟨bw, 0, none⟩) L cp) hX, .slice (some ⟨g, 0, none⟩) 4 gc]) (by simp [results, Try.results27, go_sem, y0, y1, y2, y3, y4, y5, y6, y7, y8, y9, heapV]) rfl ⟨_, bw, cp, g, gc, wsX, hX, rsX, by rw [HLX.out], HSX.out.turned (b := rv) (by omega) (by omega) (by omega) hoth (hbl W.heap.size (by omega)), HGc.out⟩
    · clear cD
      refine ⟨_, 28, #[.pointer (some ⟨B, 0, none⟩), .int .i64 3], rfl, rfl, by simp [go_sem], ?_⟩
      refine (rd_picks SD.out.rd (by have := SD.out.q0; omega) 3 (by omega)).mono ?_
      rintro e X1 ⟨a1, rfl, ha10, ha11, hra1, hoa1⟩
      have SX1 := hid (SD.out.only hra1 hoa1 (by have := HQ.out; omega))
      have HvX1 : Hid (HeapBlk X1 hv (.slice (some ⟨bw, 0, none⟩) L cp) h) := (hoa1.block hv (by have := HNe.out; omega)).trans HvD.out
      have RvX1 : Hid (HeapBlk X1 rv (.slice none 0 0) ⟨0, 0, 0, 0, 0, 0, 0, 0, 0⟩) := (hoa1.block rv (by have := HNe.out; omega)).trans RvD.out
      clear hra1 hoa1
      refine ⟨_, rfl, trivial, ?_⟩
      refine pick_frame (by simp [go_sem]; exact rfl) ?_
      have cE := HvX1.out.cells.2.2.2.2.2.1
      rw [hx] at cE
      refine pick_make (i := 1) (v := .int .i64 x) (w1 := X1) rfl (by kernel_rfl) rfl rfl (by simp [go_sem, cE]) trivial (by simp [go_sem]; exact rfl) ?_
      clear cE
      refine pick_op (i := 4) (v := .int .i64 (wrap64 (x + a1))) (by kernel_rfl) rfl (by kernel_rfl) (by kernel_rfl) rfl rfl (fun w' _ => by simp [go_sem]; exact IntWalk.i64_left _) trivial (by simp [go_sem]; exact rfl) ?_
      obtain ⟨y1, hy1⟩ : ∃ y, wrap64 (x + a1) = y := ⟨_, rfl⟩
      rw [hy1]
      clear hy1
      refine pick_op (i := 5) (v := .pointer (some ⟨hv, 5, none⟩)) (by kernel_rfl) rfl (by kernel_rfl) (by kernel_rfl) rfl rfl (fun w' _ => by simp [go_sem]) trivial (by simp [go_sem]; exact rfl) ?_
      have cX := HvX1.out.cells.2.2.2.2.2.1
      have zX := frozen_of_heap HvX1.out 5
      have HSX := hid ((SX1.out.side (b := hv) (by have := HNe.out; have := HWz.out; omega) (by have := HNe.out; omega) (by have := HNe.out; omega) 5 (.int .i64 y1)).nums (h' := { h with scan := y1 }) rfl rfl)
      have HHv : Hid (HeapBlk (X1.setCell ⟨hv, 5, none⟩ (.int .i64 y1)) hv (.slice (some ⟨bw, 0, none⟩) L cp) { h with scan := y1 }) := by
        have hb := HvX1.out
        unfold HeapBlk at hb
        show HeapBlk _ _ _ _
        unfold HeapBlk
        simp [World.setCell, Array.getElem?_modify, hb]
      have HRv : Hid (HeapBlk (X1.setCell ⟨hv, 5, none⟩ (.int .i64 y1)) rv (.slice none 0 0) ⟨0, 0, 0, 0, 0, 0, 0, 0, 0⟩) := (Below.heap_setCell X1 ⟨hv, 5, none⟩ _ rv (show rv ≠ hv by have := HNe.out; omega)).trans RvX1.out
      refine pick_skip (i := 6) rfl (w1 := X1.setCell ⟨hv, 5, none⟩ (.int .i64 y1)) rfl (by kernel_rfl) rfl rfl (by simp [go_sem, cX, zX]) trivial ?_
      refine pick_end (by kernel_rfl) ?_
      generalize X1.setCell ⟨hv, 5, none⟩ (.int .i64 y1) = WX at *
      clear cX zX ha10 ha11 hx
      have HLX := HLL
      obtain ⟨wsX, hwsX⟩ : ∃ y, ws = y := ⟨_, rfl⟩
      rw [hwsX] at HSX HLX
      obtain ⟨hX, hhX⟩ : ∃ y, ({ h with scan := y1 } : HpN) = y := ⟨_, rfl⟩
      rw [hhX] at HSX HHv
      obtain ⟨rsX, hrsX⟩ : ∃ y, rs = y := ⟨_, rfl⟩
      rw [hrsX] at HSX
      clear hwsX hhX hrsX
      obtain ⟨c0, c1, c2, c3, c4, c5, c6, c7, c8, c9⟩ := HHv.out.cells
      obtain ⟨d0, d1, d2, d3, d4, d5, d6, d7, d8, d9⟩ := HRv.out.cells
      have z0 := frozen_of_heap HRv.out 0
      have z1 := frozen_of_heap HRv.out 1
      have z2 := frozen_of_heap HRv.out 2
      have z3 := frozen_of_heap HRv.out 3
      have z4 := frozen_of_heap HRv.out 4
      have z5 := frozen_of_heap HRv.out 5
      have z6 := frozen_of_heap HRv.out 6
      have z7 := frozen_of_heap HRv.out 7
      have z8 := frozen_of_heap HRv.out 8
      have z9 := frozen_of_heap HRv.out 9
      dsimp only at d0 d1 d2 d3 d4 d5 d6 d7 d8 d9
      go_wp2_with fail
      refine heap_useT HRv.out (.slice (some ⟨bw, 0, none⟩) L cp) hX _ ?_
      intro W' hW' hbl hoth
      obtain ⟨y0, y1, y2, y3, y4, y5, y6, y7, y8, y9⟩ := hW'.cells
      have hne := HNe.out
      have hwz := HWz.out
      exact bodyPost_ret (v := .tuple #[heapV (.slice (some ⟨bw, 0, none⟩) L cp) hX, .slice (some ⟨g, 0, none⟩) 4 gc]) (by simp [results, Try.results27, go_sem, y0, y1, y2, y3, y4, y5, y6, y7, y8, y9, heapV]) rfl ⟨_, bw, cp, g, gc, wsX, hX, rsX, by rw [HLX.out], HSX.out.turned (b := rv) (by omega) (by omega) (by omega) hoth (hbl W.heap.size (by omega)), HGc.out⟩
  · subst h24
    go_wp2_with fail
    have hD : Below W3.heap.size W3 W3.drew := (Below.refl _ _).drew
    obtain ⟨D, hDe⟩ : ∃ D, W3.drew = D := ⟨_, rfl⟩
    rw [hDe] at hD
    have SD := hid (HS3.out.keep hD)
    have HvD := hid (HHv.out.below hD)
    have RvD := hid (HRv.out.below hD)
    clear HS3 HHv HRv
    refine pick_begin (S := fun _ => True) (by kernel_rfl) rfl rfl ?_
    rw [hDe]
    clear hDe hD
    refine pick_op (i := 0) (v := .pointer (some ⟨hv, 4, none⟩)) (by kernel_rfl) rfl (by kernel_rfl) (by kernel_rfl) rfl rfl (fun w' _ => by simp [go_sem]) trivial (by simp [go_sem]; exact rfl) ?_
    refine pick_op (i := 2) (v := .pointer (some ⟨B, 0, none⟩)) (by kernel_rfl) rfl (by kernel_rfl) (by kernel_rfl) rfl rfl (fun w' _ => by simp [go_sem]) trivial (by simp [go_sem]; exact rfl) ?_
    obtain ⟨x, hx⟩ : ∃ x, h.top = x := ⟨_, rfl⟩
    have cD := HvD.out.cells.2.2.2.2.1
    rw [hx] at cD
    refine pick_either (i := 1) (j := 3) (by kernel_rfl) ?_ ?_
    · refine ⟨_, .int .i64 x, D, rfl, rfl, by simp [go_sem, cD], trivial, ?_⟩
      refine pick_frame (by simp [go_sem]; exact rfl) ?_
      clear cD
      refine pick_enter (i := 3) (f := 28) (args := #[.pointer (some ⟨B, 0, none⟩), .int .i64 5]) rfl (by kernel_rfl) rfl rfl (by simp [go_sem]) ?_
      refine (rd_picks SD.out.rd (by have := SD.out.q0; omega) 5 (by omega)).mono ?_
      rintro e X1 ⟨a1, rfl, ha10, ha11, hra1, hoa1⟩
      have SX1 := hid (SD.out.only hra1 hoa1 (by have := HQ.out; omega))
      have HvX1 : Hid (HeapBlk X1 hv (.slice (some ⟨bw, 0, none⟩) L cp) h) := (hoa1.block hv (by have := HNe.out; omega)).trans HvD.out
      have RvX1 : Hid (HeapBlk X1 rv (.slice none 0 0) ⟨0, 0, 0, 0, 0, 0, 0, 0, 0⟩) := (hoa1.block rv (by have := HNe.out; omega)).trans RvD.out
      clear hra1 hoa1
      refine ⟨_, rfl, trivial, ?_⟩
      refine pick_frame (by simp [go_sem]; exact rfl) ?_
      refine pick_op (i := 4) (v := .int .i64 (wrap64 (x + a1))) (by kernel_rfl) rfl (by kernel_rfl) (by kernel_rfl) rfl rfl (fun w' _ => by simp [go_sem]; exact IntWalk.i64_left _) trivial (by simp [go_sem]; exact rfl) ?_
      obtain ⟨y1, hy1⟩ : ∃ y, wrap64 (x + a1) = y := ⟨_, rfl⟩
      rw [hy1]
      clear hy1
      refine pick_op (i := 5) (v := .int .i64 (wrap64 (y1 - 2))) (by kernel_rfl) rfl (by kernel_rfl) (by kernel_rfl) rfl rfl (fun w' _ => by simp [go_sem]; exact IntWalk.i64_left _) trivial (by simp [go_sem]; exact rfl) ?_
      obtain ⟨y2, hy2⟩ : ∃ y, wrap64 (y1 - 2) = y := ⟨_, rfl⟩
      rw [hy2]
      clear hy2
      refine pick_op (i := 6) (v := .pointer (some ⟨hv, 4, none⟩)) (by kernel_rfl) rfl (by kernel_rfl) (by kernel_rfl) rfl rfl (fun w' _ => by simp [go_sem]) trivial (by simp [go_sem]; exact rfl) ?_
      have cX := HvX1.out.cells.2.2.2.2.1
      have zX := frozen_of_heap HvX1.out 4
      have HSX := hid ((SX1.out.side (b := hv) (by have := HNe.out; have := HWz.out; omega) (by have := HNe.out; omega) (by have := HNe.out; omega) 4 (.int .i64 y2)).nums (h' := { h with top := y2 }) rfl rfl)
      have HHv : Hid (HeapBlk (X1.setCell ⟨hv, 4, none⟩ (.int .i64 y2)) hv (.slice (some ⟨bw, 0, none⟩) L cp) { h with top := y2 }) := by
        have hb := HvX1.out
        unfold HeapBlk at hb
        show HeapBlk _ _ _ _
        unfold HeapBlk
        simp [World.setCell, Array.getElem?_modify, hb]
      have HRv : Hid (HeapBlk (X1.setCell ⟨hv, 4, none⟩ (.int .i64 y2)) rv (.slice none 0 0) ⟨0, 0, 0, 0, 0, 0, 0, 0, 0⟩) := (Below.heap_setCell X1 ⟨hv, 4, none⟩ _ rv (show rv ≠ hv by have := HNe.out; omega)).trans RvX1.out
      refine pick_skip (i := 7) rfl (w1 := X1.setCell ⟨hv, 4, none⟩ (.int .i64 y2)) rfl (by kernel_rfl) rfl rfl (by simp [go_sem, cX, zX]) trivial ?_
      refine pick_end (by kernel_rfl) ?_
      generalize X1.setCell ⟨hv, 4, none⟩ (.int .i64 y2) = WX at *
      clear cX zX ha10 ha11 hx
      have HLX := HLL
      obtain ⟨wsX, hwsX⟩ : ∃ y, ws = y := ⟨_, rfl⟩
      rw [hwsX] at HSX HLX
      obtain ⟨hX, hhX⟩ : ∃ y, ({ h with top := y2 } : HpN) = y := ⟨_, rfl⟩
      rw [hhX] at HSX HHv
      obtain ⟨rsX, hrsX⟩ : ∃ y, rs = y := ⟨_, rfl⟩
      rw [hrsX] at HSX
      clear hwsX hhX hrsX
      obtain ⟨c0, c1, c2, c3, c4, c5, c6, c7, c8, c9⟩ := HHv.out.cells
      obtain ⟨d0, d1, d2, d3, d4, d5, d6, d7, d8, d9⟩ := HRv.out.cells
      have z0 := frozen_of_heap HRv.out 0
      have z1 := frozen_of_heap HRv.out 1
      have z2 := frozen_of_heap HRv.out 2
      have z3 := frozen_of_heap HRv.out 3
      have z4 := frozen_of_heap HRv.out 4
      have z5 := frozen_of_heap HRv.out 5
      have z6 := frozen_of_heap HRv.out 6
      have z7 := frozen_of_heap HRv.out 7
      have z8 := frozen_of_heap HRv.out 8
      have z9 := frozen_of_heap HRv.out 9
      dsimp only at d0 d1 d2 d3 d4 d5 d6 d7 d8 d9
      go_wp2_with fail
      refine heap_useT HRv.out (.slice (some ⟨bw, 0, none⟩) L cp) hX _ ?_
      intro W' hW' hbl hoth
      obtain ⟨y0, y1, y2, y3, y4, y5, y6, y7, y8, y9⟩ := hW'.cells
      have hne := HNe.out
      have hwz := HWz.out
      exact bodyPost_ret (v := .tuple #[heapV (.slice (some ⟨bw, 0, none⟩) L cp) hX, .slice (some ⟨g, 0, none⟩) 4 gc]) (by simp [results, Try.results27, go_sem, y0, y1, y2, y3, y4, y5, y6, y7, y8, y9, heapV]) rfl ⟨_, bw, cp, g, gc, wsX, hX, rsX, by rw [HLX.out], HSX.out.turned (b := rv) (by omega) (by omega) (by omega) hoth (hbl W.heap.size (by omega)), HGc.out⟩
    · clear cD
      refine ⟨_, 28, #[.pointer (some ⟨B, 0, none⟩), .int .i64 5], rfl, rfl, by simp [go_sem], ?_⟩
      refine (rd_picks SD.out.rd (by have := SD.out.q0; omega) 5 (by omega)).mono ?_
      rintro e X1 ⟨a1, rfl, ha10, ha11, hra1, hoa1⟩
      have SX1 := hid (SD.out.only hra1 hoa1 (by have := HQ.out; omega))
      have HvX1 : Hid (HeapBlk X1 hv (.slice (some ⟨bw, 0, none⟩) L cp) h) := (hoa1.block hv (by have := HNe.out; omega)).trans HvD.out
      have RvX1 : Hid (HeapBlk X1 rv (.slice none 0 0) ⟨0, 0, 0, 0, 0, 0, 0, 0, 0⟩) := (hoa1.block rv (by have := HNe.out; omega)).trans RvD.out
      clear hra1 hoa1
      refine ⟨_, rfl, trivial, ?_⟩
      refine pick_frame (by simp [go_sem]; exact rfl) ?_
      have cE := HvX1.out.cells.2.2.2.2.1
      rw [hx] at cE
      refine pick_make (i := 1) (v := .int .i64 x) (w1 := X1) rfl (by kernel_rfl) rfl rfl (by simp [go_sem, cE]) trivial (by simp [go_sem]; exact rfl) ?_
      clear cE
      refine pick_op (i := 4) (v := .int .i64 (wrap64 (x + a1))) (by kernel_rfl) rfl (by kernel_rfl) (by kernel_rfl) rfl rfl (fun w' _ => by simp [go_sem]; exact IntWalk.i64_left _) trivial (by simp [go_sem]; exact rfl) ?_
      obtain ⟨y1, hy1⟩ : ∃ y, wrap64 (x + a1) = y := ⟨_, rfl⟩
      rw [hy1]
      clear hy1
      refine pick_op (i := 5) (v := .int .i64 (wrap64 (y1 - 2))) (by kernel_rfl) rfl (by kernel_rfl) (by kernel_rfl) rfl rfl (fun w' _ => by simp [go_sem]; exact IntWalk.i64_left _) trivial (by simp [go_sem]; exact rfl) ?_
      obtain ⟨y2, hy2⟩ : ∃ y, wrap64 (y1 - 2) = y := ⟨_, rfl⟩
      rw [hy2]
      clear hy2
      refine pick_op (i := 6) (v := .pointer (some ⟨hv, 4, none⟩)) (by kernel_rfl) rfl (by kernel_rfl) (by kernel_rfl) rfl rfl (fun w' _ => by simp [go_sem]) trivial (by simp [go_sem]; exact rfl) ?_
      have cX := HvX1.out.cells.2.2.2.2.1
      have zX := frozen_of_heap HvX1.out 4
      have HSX := hid ((SX1.out.side (b := hv) (by have := HNe.out; have := HWz.out; omega) (by have := HNe.out; omega) (by have := HNe.out; omega) 4 (.int .i64 y2)).nums (h' := { h with top := y2 }) rfl rfl)
      have HHv : Hid (HeapBlk (X1.setCell ⟨hv, 4, none⟩ (.int .i64 y2)) hv (.slice (some ⟨bw, 0, none⟩) L cp) { h with top := y2 }) := by
        have hb := HvX1.out
        unfold HeapBlk at hb
        show HeapBlk _ _ _ _
        unfold HeapBlk
        simp [World.setCell, Array.getElem?_modify, hb]
      have HRv : Hid (HeapBlk (X1.setCell ⟨hv, 4, none⟩ (.int .i64 y2)) rv (.slice none 0 0) ⟨0, 0, 0, 0, 0, 0, 0, 0, 0⟩) := (Below.heap_setCell X1 ⟨hv, 4, none⟩ _ rv (show rv ≠ hv by have := HNe.out; omega)).trans RvX1.out
      refine pick_skip (i := 7) rfl (w1 := X1.setCell ⟨hv, 4, none⟩ (.int .i64 y2)) rfl (by kernel_rfl) rfl rfl (by simp [go_sem, cX, zX]) trivial ?_
      refine pick_end (by kernel_rfl) ?_
      generalize X1.setCell ⟨hv, 4, none⟩ (.int .i64 y2) = WX at *
      clear cX zX ha10 ha11 hx
      have HLX := HLL
      obtain ⟨wsX, hwsX⟩ : ∃ y, ws = y := ⟨_, rfl⟩
      rw [hwsX] at HSX HLX
      obtain ⟨hX, hhX⟩ : ∃ y, ({ h with top := y2 } : HpN) = y := ⟨_, rfl⟩
      rw [hhX] at HSX HHv
      obtain ⟨rsX, hrsX⟩ : ∃ y, rs = y := ⟨_, rfl⟩
      rw [hrsX] at HSX
      clear hwsX hhX hrsX
      obtain ⟨c0, c1, c2, c3, c4, c5, c6, c7, c8, c9⟩ := HHv.out.cells
      obtain ⟨d0, d1, d2, d3, d4, d5, d6, d7, d8, d9⟩ := HRv.out.cells
      have z0 := frozen_of_heap HRv.out 0
      have z1 := frozen_of_heap HRv.out 1
      have z2 := frozen_of_heap HRv.out 2
      have z3 := frozen_of_heap HRv.out 3
      have z4 := frozen_of_heap HRv.out 4
      have z5 := frozen_of_heap HRv.out 5
      have z6 := frozen_of_heap HRv.out 6
      have z7 := frozen_of_heap HRv.out 7
      have z8 := frozen_of_heap HRv.out 8
      have z9 := frozen_of_heap HRv.out 9
      dsimp only at d0 d1 d2 d3 d4 d5 d6 d7 d8 d9
      go_wp2_with fail
      refine heap_useT HRv.out (.slice (some ⟨bw, 0, none⟩) L cp) hX _ ?_
      intro W' hW' hbl hoth
      obtain ⟨y0, y1, y2, y3, y4, y5, y6, y7, y8, y9⟩ := hW'.cells
      have hne := HNe.out
      have hwz := HWz.out
      exact bodyPost_ret (v := .tuple #[heapV (.slice (some ⟨bw, 0, none⟩) L cp) hX, .slice (some ⟨g, 0, none⟩) 4 gc]) (by simp [results, Try.results27, go_sem, y0, y1, y2, y3, y4, y5, y6, y7, y8, y9, heapV]) rfl ⟨_, bw, cp, g, gc, wsX, hX, rsX, by rw [HLX.out], HSX.out.turned (b := rv) (by omega) (by omega) (by omega) hoth (hbl W.heap.size (by omega)), HGc.out⟩
  · subst h24
    obtain ⟨c0, c1, c2, c3, c4, c5, c6, c7, c8, c9⟩ := HHv.out.cells
    obtain ⟨d0, d1, d2, d3, d4, d5, d6, d7, d8, d9⟩ := HRv.out.cells
    have z0 := frozen_of_heap HRv.out 0
    have z1 := frozen_of_heap HRv.out 1
    have z2 := frozen_of_heap HRv.out 2
    have z3 := frozen_of_heap HRv.out 3
    have z4 := frozen_of_heap HRv.out 4
    have z5 := frozen_of_heap HRv.out 5
    have z6 := frozen_of_heap HRv.out 6
    have z7 := frozen_of_heap HRv.out 7
    have z8 := frozen_of_heap HRv.out 8
    have z9 := frozen_of_heap HRv.out 9
    dsimp only at d0 d1 d2 d3 d4 d5 d6 d7 d8 d9
    have x2 := frozen_of_heap HHv.out 2
    have q1 : rv ≠ hv := by have := HNe.out; omega
    have q2 : hv ≠ rv := Ne.symm q1
    have q3 : ¬ hv = rv := q2
    have q4 : ¬ rv = hv := q1
    go_wp2_with fail
    obtain ⟨tz, htz⟩ : ∃ y, wrap64 (h.size - h.to) = y := ⟨_, rfl⟩
    rw [htz]
    clear htz c0 c1 c2 c3 c4 c5 c6 c7 c8 c9 x2 d0 d1 d2 d3 d4 d5 d6 d7 d8 d9 z0 z1 z2 z3 z4 z5 z6 z7 z8 z9
    have HSX := hid ((HS3.out.side (b := hv) (by have := HNe.out; have := HWz.out; omega) (by have := HNe.out; omega) (by have := HNe.out; omega) 2 (.int .i64 tz)).nums (h' := { h with «to» := tz }) rfl rfl)
    have HRw : Hid (HeapBlk (W3.setCell ⟨hv, 2, none⟩ (.int .i64 tz)) rv (.slice none 0 0) ⟨0, 0, 0, 0, 0, 0, 0, 0, 0⟩) := (Below.heap_setCell W3 ⟨hv, 2, none⟩ _ rv (show rv ≠ hv by have := HNe.out; omega)).trans HRv.out
    clear HHv HRv HS3
    have HRv := HRw
    clear HRw
    generalize W3.setCell ⟨hv, 2, none⟩ (.int .i64 tz) = WX at *
    have HLX := HLL
    obtain ⟨wsX, hwsX⟩ : ∃ y, ws = y := ⟨_, rfl⟩
    rw [hwsX] at HSX HLX
    obtain ⟨rsX, hrsX⟩ : ∃ y, rs = y := ⟨_, rfl⟩
    rw [hrsX] at HSX
    clear hwsX hrsX
    refine heap_useT HRv.out (.slice (some ⟨bw, 0, none⟩) L cp) { h with «to» := tz } _ ?_
    intro W' hW' hbl hoth
    obtain ⟨y0, y1, y2, y3, y4, y5, y6, y7, y8, y9⟩ := hW'.cells
    have hne := HNe.out
    have hwz := HWz.out
    exact bodyPost_ret (v := .tuple #[heapV (.slice (some ⟨bw, 0, none⟩) L cp) { h with «to» := tz }, .slice (some ⟨g, 0, none⟩) 4 gc]) (by simp [results, Try.results27, go_sem, y0, y1, y2, y3, y4, y5, y6, y7, y8, y9, heapV]) rfl ⟨_, bw, cp, g, gc, wsX, { h with «to» := tz }, rsX, by rw [HLX.out], HSX.out.turned (b := rv) (by omega) (by omega) (by omega) hoth (hbl W.heap.size (by omega)), HGc.out⟩
  · have y0 : (m24 == 0) = false := by simpa using z0
    have y1 : (m24 == 1) = false := by simpa using z1
    have y2 : (m24 == 2) = false := by simpa using z2
    have y3 : (m24 == 3) = false := by simpa using z3
    have y4 : (m24 == 4) = false := by simpa using z4
    have HSX := HS3
    have HLX := HLL
    obtain ⟨WX, hWX⟩ : ∃ y, W3 = y := ⟨_, rfl⟩
    rw [hWX] at HSX HHv HRv ⊢
    obtain ⟨wsX, hwsX⟩ : ∃ y, ws = y := ⟨_, rfl⟩
    rw [hwsX] at HSX HLX
    obtain ⟨hX, hhX⟩ : ∃ y, h = y := ⟨_, rfl⟩
    rw [hhX] at HSX HHv
    obtain ⟨rsX, hrsX⟩ : ∃ y, rs = y := ⟨_, rfl⟩
    rw [hrsX] at HSX
    clear HS3 hWX hwsX hhX hrsX
    obtain ⟨c0, c1, c2, c3, c4, c5, c6, c7, c8, c9⟩ := HHv.out.cells
    obtain ⟨d0, d1, d2, d3, d4, d5, d6, d7, d8, d9⟩ := HRv.out.cells
    have z0 := frozen_of_heap HRv.out 0
    have z1 := frozen_of_heap HRv.out 1
    have z2 := frozen_of_heap HRv.out 2
    have z3 := frozen_of_heap HRv.out 3
    have z4 := frozen_of_heap HRv.out 4
    have z5 := frozen_of_heap HRv.out 5
    have z6 := frozen_of_heap HRv.out 6
    have z7 := frozen_of_heap HRv.out 7
    have z8 := frozen_of_heap HRv.out 8
    have z9 := frozen_of_heap HRv.out 9
    dsimp only at d0 d1 d2 d3 d4 d5 d6 d7 d8 d9
    go_wp2_with fail
    refine heap_useT HRv.out (.slice (some ⟨bw, 0, none⟩) L cp) hX _ ?_
    intro W' hW' hbl hoth
    obtain ⟨y0, y1, y2, y3, y4, y5, y6, y7, y8, y9⟩ := hW'.cells
    have hne := HNe.out
    have hwz := HWz.out
    exact bodyPost_ret (v := .tuple #[heapV (.slice (some ⟨bw, 0, none⟩) L cp) hX, .slice (some ⟨g, 0, none⟩) 4 gc]) (by simp [results, Try.results27, go_sem, y0, y1, y2, y3, y4, y5, y6, y7, y8, y9, heapV]) rfl ⟨_, bw, cp, g, gc, wsX, hX, rsX, by rw [HLX.out], HSX.out.turned (b := rv) (by omega) (by omega) (by omega) hoth (hbl W.heap.size (by omega)), HGc.out⟩
end Go.Proofs.Ytebpgglegnljgaa

namespace Go.Proofs.Ytebpgglegnljgaa
open Go.RowKit Go.Deep

theorem rd_new (W : World) (a0 : Option Addr) (len cap m : Nat) (hm : m ≤ len) (hB : BytesAt W a0 len) : Rd W.heap.size a0 m cap 0 (W.alloc (.cells #[.slice a0 m cap, .int .i64 0] 88)) := by
  refine ⟨(MapKept.heap_alloc W _).1, fun h0 => ?_⟩
  obtain ⟨b, off, ea, hb, hz⟩ := hB (by omega)
  refine ⟨b, off, ea, hb, fun i hi => ?_⟩
  obtain ⟨z, hz, h1⟩ := hz i (by omega)
  exact ⟨z, (((Below.refl W.heap.size W).alloc (Nat.le_refl _) _).cell (p := ⟨b, off + i, none⟩) hb).trans hz, h1⟩

theorem BytesAt.later {W W' : World} {a0 : Option Addr} {len : Nat} (h : BytesAt W a0 len) (hb : Below W.heap.size W W') : BytesAt W' a0 len := fun h0 => by
  obtain ⟨b, off, ea, h1, hz⟩ := h h0
  refine ⟨b, off, ea, Nat.lt_of_lt_of_le h1 hb.size, fun i hi => ?_⟩
  obtain ⟨z, hz, h2⟩ := hz i hi
  exact ⟨z, (hb.cell (p := ⟨b, off + i, none⟩) h1).trans hz, h2⟩

def PickSk (P : Program) (l0 : List Oper) (Q : Exit → Act → World → Prop) (S : World → Prop) (n : Nat) (ls : Array Bool) (a : Act) (w : World) (i : Nat) : Prop :=
  ∃ o w1, o.dst = none ∧ l0[i]? = some o ∧ Region.wanted o (yielded l0.toArray a.tmps) = true ∧ (execOp a.eval o).run P w = .ok .skip w1 ∧ S w1 ∧ wpAnyH P .any l0.toArray (NoPanic Q) S n (ls.setIfInBounds i true) a w1

theorem PickSk.op {P : Program} {l0 : List Oper} {Q : Exit → Act → World → Prop} {S : World → Prop} {n i : Nat} {ls : Array Bool} {a : Act} {w : World} (h : PickSk P l0 Q S n ls a w i) : wpOp P l0.toArray (NoPanic Q) i (fun a' w' => S w' ∧ wpAnyH P .any l0.toArray (NoPanic Q) S n (ls.setIfInBounds i true) a' w') a w := by
  obtain ⟨o, w1, hd, ho, hw, hrun, hS, h⟩ := h
  have ho' : l0.toArray[i]? = some o := by simpa using ho
  unfold wpOp
  rw [ho']
  dsimp only
  rw [if_pos hw]
  refine Or.inl ?_
  have hp : a.put o.dst undef = a := by rw [hd]; rfl
  unfold Oper.wp
  rw [hrun]
  refine ⟨hS, ?_⟩
  rw [hp]
  exact h

theorem pick_mkSk {P : Program} {l0 : List Oper} {Q : Exit → Act → World → Prop} {S : World → Prop} {i j n : Nat} {ls : Array Bool} {a : Act} {w : World} (hr : (Region.ready .any l0.toArray ls == [i, j]) = true) (h1 : PickMk P l0 Q S n ls a w i) (h2 : PickSk P l0 Q S n ls a w j) : wpAnyH P .any l0.toArray (NoPanic Q) S (n + 1) ls a w := by
  refine wpAnyH_all (rs := [i, j]) (by simpa using hr) (by simp) (fun k hk => ?_)
  simp only [List.mem_cons, List.not_mem_nil, or_false] at hk
  rcases hk with rfl | rfl
  · exact h1.op
  · exact h2.op

end Go.Proofs.Ytebpgglegnljgaa

namespace Go.Proofs.Ytebpgglegnljgaa
open Go.RowKit

def leftZ (T ws : List Int) : Nat → Int
  | 0 => 0
  | k + 1 => leftZ T ws k + (if T.getD k 0 ≠ 0 ∧ ws.getD k 0 % 16 ≠ 15 then T.getD k 0 else 0)

theorem left_pos {T ws : List Int} (hT : ∀ a : Nat, 0 ≤ T.getD a 0) : ∀ k, 0 ≤ leftZ T ws k
  | 0 => Int.le_refl _
  | k + 1 => by
    have h1 := left_pos (ws := ws) hT k
    have h2 := hT k
    unfold leftZ
    split <;> omega

theorem left_same {T ws ws' : List Int} : ∀ k, (∀ a : Nat, a < k → T.getD a 0 ≠ 0 → ws'.getD a 0 = ws.getD a 0) → leftZ T ws' k = leftZ T ws k
  | 0, _ => rfl
  | k + 1, h => by
    unfold leftZ
    rw [left_same k (fun a ha => h a (by omega))]
    by_cases hk : T.getD k 0 = 0
    · rw [if_neg (fun j => j.1 hk), if_neg (fun j => j.1 hk)]
    · rw [h k (by omega) hk]

theorem left_cut {T ws ws' : List Int} {a : Nat} (ha : T.getD a 0 ≠ 0) (h1 : ws.getD a 0 % 16 ≠ 15) (h2 : ws'.getD a 0 % 16 = 15) (h : ∀ c : Nat, c ≠ a → T.getD c 0 ≠ 0 → ws'.getD c 0 = ws.getD c 0) : ∀ k, a < k → leftZ T ws' k = leftZ T ws k - T.getD a 0
  | 0, hk => by omega
  | k + 1, hk => by
    unfold leftZ
    by_cases e : a = k
    · subst e
      rw [left_same a (fun c hc => h c (by omega)), if_neg (fun j => j.2 h2), if_pos ⟨ha, h1⟩]
      omega
    · rw [left_cut ha h1 h2 h k (by omega)]
      by_cases hk0 : T.getD k 0 = 0
      · rw [if_neg (fun j => j.1 hk0), if_neg (fun j => j.1 hk0)]
        omega
      · rw [h k (by omega) hk0]
        omega

theorem left_has {T ws : List Int} (hT : ∀ a : Nat, 0 ≤ T.getD a 0) {a : Nat} (ha : T.getD a 0 ≠ 0) (h1 : ws.getD a 0 % 16 ≠ 15) (hl : a < ws.length) : T.getD a 0 ≤ leftZ T ws ws.length := by
  have e := left_cut (ws' := ws.set a 15) ha h1 (by rw [getD_set, if_pos ⟨rfl, hl⟩]; decide) (fun c hc _ => by rw [getD_set, if_neg (fun j => hc j.1)]) ws.length hl
  have p := left_pos (ws := ws.set a 15) hT ws.length
  omega

theorem left_fits {T ws : List Int} (ap : Apart T) (hT : ∀ a : Nat, 0 ≤ T.getD a 0) {lo : Int} : ∀ k, ∀ e : Int, lo ≤ e → (∀ a : Nat, a < k → T.getD a 0 ≠ 0 → lo ≤ (a : Int) ∧ (a : Int) + T.getD a 0 ≤ e) → leftZ T ws k ≤ e - lo
  | 0, e, he, _ => by unfold leftZ; omega
  | k + 1, e, he, h => by
    unfold leftZ
    by_cases hk : T.getD k 0 = 0
    · rw [if_neg (fun j => j.1 hk)]
      have := left_fits (ws := ws) ap hT k e he (fun a ha => h a (by omega))
      omega
    · obtain ⟨k1, k2⟩ := h k (by omega) hk
      have i := left_fits (ws := ws) ap hT k (k : Int) k1 (fun a ha h0 => ⟨(h a (by omega) h0).1, ap a k ha h0 hk⟩)
      have := hT k
      split <;> omega

structure Fr (T S : List Int) (s : CN) : Prop where
  d : Dyn True S s.ws s.h
  top : s.h.top = s.h.to + s.h.size
  old : ∀ a : Nat, T.getD a 0 ≠ 0 → S.getD a 0 = T.getD a 0 ∧ ¬ InS s.h a
  all : ∀ a : Nat, S.getD a 0 ≠ 0 → ¬ InS s.h a → T.getD a 0 = S.getD a 0
  room : s.h.bottom - s.h.to + leftZ T s.ws s.ws.length ≤ s.h.size

theorem Fr.pos {T S : List Int} {s : CN} (c : Fr T S s) (a : Nat) : 0 ≤ T.getD a 0 := by
  by_cases h : T.getD a 0 = 0
  · omega
  · have e := (c.old a h).1
    have := c.d.three (a := a) (by rw [e]; exact h)
    omega

theorem Fr.side {T S : List Int} {s : CN} (c : Fr T S s) {p : Nat} (hp : S.getD p 0 ≠ 0) (hi : InS s.h p) : s.h.to ≤ (p : Int) ∧ (p : Int) + S.getD p 0 ≤ s.h.bottom := by
  have h1 := obj_side c.d hp hi
  have h2 := c.top
  have h3 := c.d.three hp
  omega

theorem Fr.next {T S S' : List Int} {s s' : CN} {f : Nat → Nat} (c : Fr T S s) (st : Step S s.ws s.h S' s'.ws s'.h f)
    (new : (s'.h.bottom = s.h.bottom ∧ S' = S) ∨ ∃ n : Nat, (n = 3 ∨ n = 6) ∧ S' = S.set s.h.bottom.toNat n ∧ s'.h.bottom = s.h.bottom + n)
    (hl : leftZ T s'.ws s.ws.length + (s'.h.bottom - s.h.bottom) = leftZ T s.ws s.ws.length) : Fr T S' s' := by
  have hto : s'.h.to = s.h.to := by rw [st.num]
  have hsz : s'.h.size = s.h.size := by rw [st.num]
  have htp : s'.h.top = s.h.top := by rw [st.num]
  refine ⟨st.dyn, by rw [hto, hsz, htp]; exact c.top, fun a ha => ?_, fun a ha hn => ?_, ?_⟩
  · obtain ⟨h1, h2⟩ := c.old a ha
    exact ⟨(st.ext a (by rw [h1]; exact ha)).trans h1, fun k => h2 ((st.ins a).1 k)⟩
  · have hn' : ¬ InS s.h a := fun k => hn ((st.ins a).2 k)
    rcases new with ⟨-, rfl⟩ | ⟨n, h3, rfl, hb⟩
    · exact c.all a ha hn'
    · rw [getD_set] at ha ⊢
      have ne : ¬ (a = s.h.bottom.toNat ∧ s.h.bottom.toNat < S.length) := by
        rintro ⟨rfl, -⟩
        obtain ⟨o1, o2, o3, o4, o5, o6, o7, o8, o9, o10, -⟩ := st.dyn.ord
        obtain ⟨p1, p2, p3, p4, p5, p6, p7, p8, p9, p10, -⟩ := c.d.ord
        refine hn' ?_
        unfold InS
        omega
      rw [if_neg ne] at ha ⊢
      exact c.all a ha hn'
  · have := c.room
    rw [st.len, hto, hsz]
    omega

set_option maxHeartbeats 1000000 in
theorem move_left {T S : List Int} {s : CN} {x : Int} (c : Fr T S s) (l : Pts S s.ws.length x) : ∃ y s', moveZ s x = (some y, s') ∧ leftZ T s'.ws s.ws.length + (s'.h.bottom - s.h.bottom) = leftZ T s.ws s.ws.length := by
  have d := c.d
  have hpos := c.pos
  obtain ⟨o1, o2, o3, o4, o5, o6, o7, o8, o9, o10, o11, o12, o13⟩ := id d.ord
  unfold moveZ
  cases hl : lateZ s.h x with
  | false =>
    rw [if_pos rfl]
    exact ⟨_, _, rfl, by omega⟩
  | true =>
    rw [if_neg (by decide)]
    obtain ⟨hx, hx0, hold⟩ := late_old hl (by omega)
    obtain ⟨l1, l2, hS⟩ := l.2 hx
    generalize (x / 8).toNat = a at *
    have e3 := d.head hS
    have h3 := d.three hS
    by_cases hk : s.ws.getD a 0 % 16 = 15
    · rw [if_pos hk]
      exact ⟨_, _, rfl, by dsimp only; omega⟩
    · rw [if_neg hk]
      unfold Old at hold
      have hni : ¬ InS s.h a := by unfold InS; omega
      have hTa := c.all a hS hni
      have hbl := d.below hS
      have hTa0 : T.getD a 0 ≠ 0 := by rw [hTa]; exact hS
      have hhas := left_has hpos hTa0 hk (by omega)
      have hroom : s.ws.getD a 0 / 16 ≤ s.h.top - s.h.bottom := by
        have := c.room
        have := c.top
        omega
      rw [if_pos hroom]
      refine ⟨_, _, rfl, ?_⟩
      dsimp only
      rw [e3] at hroom ⊢
      obtain ⟨b, hb⟩ := Int.eq_ofNat_of_zero_le (show 0 ≤ s.h.bottom by omega)
      obtain ⟨n, hnn⟩ := Int.eq_ofNat_of_zero_le (show 0 ≤ S.getD a 0 by omega)
      have hbn : s.h.bottom.toNat = b := by omega
      have hwi := d.ends a hS
      unfold Within at hwi
      rw [hnn] at hwi
      rw [hnn, hbn, Int.toNat_natCast]
      rw [hnn] at hroom h3
      have hcw := copyW_at s.ws a b n (by omega) (by omega)
      have hat : ∀ j, (((copyW s.ws a b n).set a ((n : Int) * 16 + 15)).set (a + 1) (8 * s.h.bottom)).getD j 0 = if j = a + 1 then 8 * s.h.bottom else if j = a then (n : Int) * 16 + 15 else if b ≤ j ∧ j < b + n then s.ws.getD (a + (j - b)) 0 else s.ws.getD j 0 := fun j => by
        rw [getD_set, getD_set, hcw, List.length_set, copyW_length]
        by_cases h1 : j = a + 1
        · rw [if_pos ⟨h1, by omega⟩, if_pos h1]
        · rw [if_neg (by omega), if_neg h1]
          by_cases h2 : j = a
          · rw [if_pos ⟨h2, by omega⟩, if_pos h2]
          · rw [if_neg (by omega), if_neg h2]
      generalize ((copyW s.ws a b n).set a ((n : Int) * 16 + 15)).set (a + 1) (8 * s.h.bottom) = W' at hat ⊢
      have cut := left_cut (ws' := W') hTa0 hk (by rw [hat, if_neg (by omega), if_pos rfl]; omega) (fun e he hT => by
        obtain ⟨t1, t2⟩ := c.old e hT
        have hSe : S.getD e 0 ≠ 0 := by rw [t1]; exact hT
        have k := d.ends e hSe
        unfold Within at k
        unfold InS at t2
        have ap : (a : Int) + n ≤ (e : Int) ∨ (e : Int) + S.getD e 0 ≤ (a : Int) := by
          by_cases h : a < e
          · have := d.apart a e h hS hSe
            omega
          · exact Or.inr (d.apart e a (by omega) hSe hS)
        have h3e := d.three hSe
        rw [hat, if_neg (by omega), if_neg (by omega), if_neg (by omega)]) s.ws.length (by omega)
      omega

theorem fr_move {T S : List Int} {s : CN} {x : Int} (c : Fr T S s) (l : Pts S s.ws.length x) : ∃ y s' S' f, moveZ s x = (some y, s') ∧ MoveTold S s x y S' s' f ∧ Fr T S' s' := by
  obtain ⟨y, s', he, hl⟩ := move_left c l
  obtain ⟨S', f, t⟩ := dyn_move c.d l he
  exact ⟨y, s', S', f, he, t, c.next t.step (t.new.imp id (fun k => k.2)) hl⟩

theorem fr_field {T S : List Int} {s : CN} {p i : Nat} (c : Fr T S s) (hp : S.getD p 0 ≠ 0) (hi : InS s.h p) (h1 : 1 ≤ i) (h2 : (i : Int) < S.getD p 0) :
    ∃ y s' S' f, fieldZ s (p + i) = (some y, s') ∧ FieldT S s (p + i) y S' s' f ∧ Fr T S' s' ∧ (lateZ s.h (s.ws.getD (p + i) 0) = false → y = s.ws.getD (p + i) 0) := by
  have d := c.d
  have pq := (d.flds p hp (d.unm p hp hi) i h1 h2).pts
  have hsd := c.side hp hi
  obtain ⟨o1, o2, o3, o4, o5, o6, o7, o8, o9, o10, o11, o12, o13⟩ := id d.ord
  have hqi : InS s.h (p + i) := by unfold InS; push_cast; omega
  cases hl : lateZ s.h (s.ws.getD (p + i) 0) with
  | false =>
    have he : fieldZ s (p + i) = (some (s.ws.getD (p + i) 0), { s with r := s.r + 1 }) := by
      unfold fieldZ
      rw [if_pos hl]
    obtain ⟨S', f, t⟩ := dyn_field d hp hi h1 h2 he
    exact ⟨_, _, S', f, he, t, c.next t.step (t.new.imp id (fun k => k.2)) (by dsimp only; omega), fun _ => rfl⟩
  | true =>
    obtain ⟨y, s2, hm, hle⟩ := move_left (s := { s with r := s.r + 1 }) ⟨c.d, c.top, c.old, c.all, c.room⟩ pq
    have he : fieldZ s (p + i) = (some y, ⟨s2.ws.set (p + i) y, s2.h, s2.r, s2.t + 1⟩) := by
      unfold fieldZ
      rw [if_neg (by rw [hl]; decide), hm]
    obtain ⟨S', f, t⟩ := dyn_field d hp hi h1 h2 he
    refine ⟨_, _, S', f, he, t, c.next t.step (t.new.imp id (fun k => k.2)) ?_, fun k => by cases k⟩
    dsimp only at hle ⊢
    rw [left_same (ws := s2.ws) s.ws.length (fun a _ ha => by
      rw [getD_set, if_neg]
      rintro ⟨rfl, -⟩
      exact (c.old _ ha).2 hqi)]
    exact hle

def Why (R : Nat → Prop) (S ws : List Int) (h : HpN) : Prop :=
  ∀ b : Nat, S.getD b 0 ≠ 0 → InS h b → R b ∨ ∃ p i : Nat, p < b ∧ S.getD p 0 ≠ 0 ∧ InS h p ∧ 1 ≤ i ∧ (i : Int) < S.getD p 0 ∧ ws.getD (p + i) 0 = 8 * (b : Int)

theorem Why.next {R R' : Nat → Prop} {S ws : List Int} {h : HpN} {S' ws' : List Int} {h' : HpN} {f : Nat → Nat} (w : Why R S ws h) (_h0 : 0 ≤ h.bottom) (st : Step S ws h S' ws' h' f) (hR : ∀ b, R b → R' b)
    (new : S' = S ∨ ∃ n : Int, S' = S.set h.bottom.toNat n ∧ (R' h.bottom.toNat ∨ ∃ p i : Nat, p < h.bottom.toNat ∧ S'.getD p 0 ≠ 0 ∧ InS h' p ∧ 1 ≤ i ∧ (i : Int) < S'.getD p 0 ∧ ws'.getD (p + i) 0 = 8 * (h.bottom.toNat : Int)))
    (kept : ∀ p i b : Nat, S.getD p 0 ≠ 0 → InS h p → 1 ≤ i → (i : Int) < S.getD p 0 → InS h b → ws.getD (p + i) 0 = 8 * (b : Int) → ws'.getD (p + i) 0 = 8 * (b : Int)) : Why R' S' ws' h' := by
  intro b hb hi
  have go : S.getD b 0 ≠ 0 → R' b ∨ ∃ p i : Nat, p < b ∧ S'.getD p 0 ≠ 0 ∧ InS h' p ∧ 1 ≤ i ∧ (i : Int) < S'.getD p 0 ∧ ws'.getD (p + i) 0 = 8 * (b : Int) := fun h1 => by
    have hib := (st.ins b).1 hi
    refine (w b h1 hib).imp (hR b) ?_
    rintro ⟨p, i, p1, p2, p3, p4, p5, p6⟩
    have e := st.ext p p2
    exact ⟨p, i, p1, by rw [e]; exact p2, (st.ins p).2 p3, p4, by rw [e]; exact p5, kept p i b p2 p3 p4 p5 hib p6⟩
  rcases new with rfl | ⟨n, hS', hw⟩
  · exact go hb
  · by_cases e : b = h.bottom.toNat
    · subst e
      exact hw
    · refine go ?_
      rw [hS', getD_set, if_neg (fun k => e k.1)] at hb
      exact hb

end Go.Proofs.Ytebpgglegnljgaa

namespace Go.Proofs.Ytebpgglegnljgaa
open Go.RowKit

theorem late_in {h : HpN} {N : Nat} (o : Ordered h N) {x : Int} {b : Nat} (hi : InS h b) (hx : x = 8 * (b : Int)) : lateZ h x = false := by
  obtain ⟨o1, o2, o3, o4, -⟩ := o
  unfold InS at hi
  unfold lateZ
  rw [show (decide (h.size - h.to ≤ x / 8 ∧ x / 8 < h.size - h.to + h.size)) = false from decide_eq_false (by omega), Bool.and_false]

structure MovesF (T S : List Int) (s : CN) (xs : List Int) (k : Nat) (ys : List Int) (S' : List Int) (s' : CN) (f : Nat → Nat) : Prop where
  told : MovesT S s xs k ys S' s' f
  fr : Fr T S' s'
  why : Why (fun b => ∃ j, j < k ∧ ys.getD j 0 = 8 * (b : Int)) S' s'.ws s'.h

theorem fr_moves {T S : List Int} {s : CN} {xs : List Int} (c : Fr T S s) (w : Why (fun _ => False) S s.ws s.h) (hx : ∀ i, i < xs.length → Pts S s.ws.length (xs.getD i 0)) : ∀ k, k ≤ xs.length → ∃ ys s' S' f, movesRun xs k s = some (ys, s') ∧ MovesF T S s xs k ys S' s' f
  | 0, _ => ⟨xs, s, S, id, rfl, ⟨Step.refl c.d, rfl, fun i h => by omega, fun _ _ => rfl, rfl⟩, c, fun b hb hi => (w b hb hi).imp (fun k => k.elim) id⟩
  | k + 1, hk => by
    obtain ⟨zs, s1, S1, f1, h1, m⟩ := fr_moves c w hx k (by omega)
    have t1 := m.told
    have ez := t1.rest k (Nat.le_refl _)
    have px := hx k (by omega)
    have px1 : Pts S1 s1.ws.length (zs.getD k 0) := by rw [ez, t1.step.len]; exact t1.step.pts px
    obtain ⟨y, s2, S2, f2, h2, t2, fr2⟩ := fr_move m.fr px1
    have hl := t1.len
    have g : ∀ j, (zs.set k y).getD j 0 = if j = k then y else zs.getD j 0 := fun j => by
      rw [getD_set]
      by_cases e : j = k
      · rw [if_pos ⟨e, by omega⟩, if_pos e]
      · rw [if_neg (by omega), if_neg e]
    have he : movesRun xs (k + 1) s = some (zs.set k y, s2) := by
      unfold movesRun
      rw [h1]
      dsimp only
      rw [h2]
    obtain ⟨o1, o2, o3, o4, o5, o6, o7, o8, o9, o10, o11, o12, o13⟩ := id m.fr.d.ord
    refine ⟨zs.set k y, s2, S2, fun a => f2 (f1 a), he, ⟨t1.step.comp t2.step, by rw [List.length_set]; exact hl, fun i hi => ?_, fun i hi => by rw [g, if_neg (by omega)]; exact t1.rest i (by omega), t2.scan.trans t1.scan⟩, fr2, ?_⟩
    · rw [g]
      by_cases e : i = k
      · rw [if_pos e, e]
        refine ⟨by rw [← t1.step.len]; exact t2.led, ?_⟩
        have w := t2.word
        rw [ez] at w
        exact (t1.step.word _ px).comp w
      · rw [if_neg e]
        obtain ⟨l1, w1⟩ := t1.done i (by omega)
        exact ⟨t2.step.led l1, w1.comp (t2.step.word _ (by rw [t1.step.len]; exact l1.pts))⟩
    · refine m.why.next (by omega) t2.step ?_ ?_ ?_
      · rintro b ⟨j, j1, j2⟩
        exact ⟨j, by omega, by rw [g, if_neg (by omega)]; exact j2⟩
      · rcases t2.new with ⟨-, e⟩ | ⟨e1, n, -, e2, -⟩
        · exact Or.inl e
        · exact Or.inr ⟨n, e2, Or.inl ⟨k, by omega, by rw [g, if_pos rfl, e1]; omega⟩⟩
      · intro p i b hp hi k1 k2 _ e
        have hsd := m.fr.side hp hi
        rw [t2.kept (p + i) (by unfold InS; push_cast; omega) (Or.inl (by push_cast; omega))]
        exact e

theorem fr_fields {T S : List Int} {s : CN} {p : Nat} {R : Nat → Prop} (c : Fr T S s) (w : Why R S s.ws s.h) (hp : S.getD p 0 ≠ 0) (hi : InS s.h p) : ∀ k : Nat, (k : Int) < S.getD p 0 → ∃ s' S' f, fieldsRun p k s = some s' ∧ FieldsT S s p k S' s' f ∧ Fr T S' s' ∧ Why R S' s'.ws s'.h
  | 0, _ => ⟨s, S, id, rfl, ⟨Step.refl c.d, fun i h1 h2 => by omega, rfl⟩, c, w⟩
  | k + 1, hk => by
    obtain ⟨s1, S1, f1, h1, t1, c1, w1⟩ := fr_fields c w hp hi k (by push_cast at hk; omega)
    have e1 := t1.step.ext p hp
    have hi1 := (t1.step.ins p).2 hi
    have hp1 : S1.getD p 0 ≠ 0 := by rw [e1]; exact hp
    obtain ⟨y, s2, S2, f2, h2, t2, c2, hy⟩ := fr_field (i := k + 1) c1 hp1 hi1 (by omega) (by rw [e1]; exact hk)
    have hsd := c1.side hp1 hi1
    rw [e1] at hsd
    obtain ⟨o1, o2, o3, o4, o5, o6, o7, o8, o9, o10, o11, o12, o13⟩ := id c1.d.ord
    have he : fieldsRun p (k + 1) s = some s2 := by
      unfold fieldsRun
      rw [h1]
      dsimp only
      rw [h2]
    refine ⟨s2, S2, fun a => f2 (f1 a), he, ⟨t1.step.comp t2.step, fun i k1 k2 => ?_, t2.scan.trans t1.scan⟩, c2, ?_⟩
    · have hle := t1.step.len
      by_cases e : i = k + 1
      · rw [e, t2.at_, ← hle]
        exact t2.led
      · have hin : InS s1.h (p + i) := by unfold InS; push_cast at hk ⊢; omega
        rw [t2.kept (p + i) hin (by omega) (by push_cast at hk ⊢; omega)]
        exact t2.step.led (t1.led i k1 (by omega))
    · refine w1.next (by omega) t2.step (fun _ k => k) ?_ ?_
      · rcases t2.new with ⟨-, e⟩ | ⟨e2, n, -, e3, -⟩
        · exact Or.inl e
        · have hx := t2.step.ext p hp1
          refine Or.inr ⟨n, e3, Or.inr ⟨p, k + 1, by omega, by rw [hx]; exact hp1, (t2.step.ins p).2 hi1, by omega, by rw [hx, e1]; exact hk, ?_⟩⟩
          rw [t2.at_, e2]
          omega
      · intro q i b hq hqi k1 k2 hb e
        have hsq := c1.side hq hqi
        by_cases eq : q + i = p + (k + 1)
        · rw [eq] at e ⊢
          rw [t2.at_, hy (late_in c1.d.ord hb e)]
          exact e
        · rw [t2.kept (q + i) (by unfold InS; push_cast; omega) eq (Or.inl (by push_cast; omega))]
          exact e

theorem fr_scan {T S : List Int} {s : CN} {R : Nat → Prop} (c : Fr T S s) (w : Why R S s.ws s.h) : ∃ s' S' f, scanOne s = some s' ∧ Step S s.ws s.h S' s'.ws s'.h f ∧ Fr T S' s' ∧ Why R S' s'.ws s'.h ∧ (s.h.scan = s.h.bottom → s' = s) ∧ (s.h.scan ≠ s.h.bottom → s.h.scan + 3 ≤ s'.h.scan) := by
  have d := c.d
  by_cases hb : s.h.scan = s.h.bottom
  · exact ⟨s, S, id, by unfold scanOne; rw [if_pos hb], Step.refl d, c, w, fun _ => rfl, fun k => absurd hb k⟩
  · obtain ⟨o1, o2, o3, o4, o5, o6, o7, o8, o9, o10, o11, o12, o13⟩ := id d.ord
    obtain ⟨p, hp, hS, hi, hd⟩ := d.begin (by omega)
    have h3 := d.three hS
    obtain ⟨n, hn⟩ := Int.eq_ofNat_of_zero_le (show 0 ≤ S.getD p 0 by omega)
    obtain ⟨s1, S1, f, h1, t, c1, w1⟩ := fr_fields (s := { s with r := s.r + 1 }) ⟨c.d, c.top, c.old, c.all, c.room⟩ w hS hi (n - 1) (by omega)
    have t1 := t.step
    have t2 := t.led
    have t3 := t.scan
    dsimp only at t1 t2 t3
    have e1 := t1.ext p hS
    have hg := t1.grow
    have dd := dyn_past (p := p) t1.dyn (by omega) e1 hS ((t1.ins p).2 hi) (by omega) (fun i k1 k2 => by rw [t1.len]; exact t2 i k1 (by omega))
    have hnum := t1.num
    have he : scanOne s = some { s1 with h := { s1.h with scan := (p : Int) + (n : Int) } } := by
      unfold scanOne
      rw [if_neg hb, hp, Int.toNat_natCast, hd, hn, Int.toNat_natCast, h1]
    have dd' : Dyn True S1 s1.ws { s1.h with scan := (p : Int) + (n : Int) } := by
      rw [show (p : Int) + (n : Int) = s1.h.scan + S.getD p 0 by omega]
      exact dd
    refine ⟨_, S1, f, he, ⟨dd', t1.len, t1.iso, t1.node, t1.word, ?_, hg, t1.inn, t1.ext⟩, ⟨dd', c1.top, c1.old, c1.all, c1.room⟩, w1, fun k => absurd k hb, fun _ => by dsimp only; omega⟩
    dsimp only
    rw [hnum]

theorem fr_scans {T S : List Int} {s : CN} {R : Nat → Prop} (c : Fr T S s) (w : Why R S s.ws s.h) : ∀ k : Nat, ∃ s' S' f, scanRun k s = some s' ∧ Step S s.ws s.h S' s'.ws s'.h f ∧ Fr T S' s' ∧ Why R S' s'.ws s'.h ∧ (s'.h.scan = s'.h.bottom ∨ s.h.scan + 3 * (k : Int) ≤ s'.h.scan)
  | 0 => ⟨s, S, id, rfl, Step.refl c.d, c, w, Or.inr (by omega)⟩
  | k + 1 => by
    obtain ⟨s1, S1, f1, h1, t1, c1, w1, k1⟩ := fr_scans c w k
    obtain ⟨s2, S2, f2, h2, t2, c2, w2, a, b⟩ := fr_scan c1 w1
    refine ⟨s2, S2, fun x => f2 (f1 x), by unfold scanRun; rw [h1]; exact h2, t1.comp t2, c2, w2, ?_⟩
    by_cases e : s1.h.scan = s1.h.bottom
    · rw [a e]
      exact Or.inl e
    · have := b e
      rcases k1 with k1 | k1
      · exact absurd k1 e
      · exact Or.inr (by push_cast; omega)

theorem fr_all {T S : List Int} {s : CN} {R : Nat → Prop} (c : Fr T S s) (w : Why R S s.ws s.h) : ∃ s' S' f, scanRun 4000 s = some s' ∧ Step S s.ws s.h S' s'.ws s'.h f ∧ Fr T S' s' ∧ Why R S' s'.ws s'.h ∧ s'.h.scan = s'.h.bottom := by
  obtain ⟨s', S', f, h1, t, c', w', k⟩ := fr_scans c w 4000
  refine ⟨s', S', f, h1, t, c', w', k.resolve_right (fun k => ?_)⟩
  obtain ⟨o1, o2, o3, o4, o5, o6, o7, o8, o9, o10, o11, o12, o13⟩ := id c.d.ord
  obtain ⟨p1, p2, p3, p4, p5, p6, p7, p8, p9, p10, p11, p12, p13⟩ := id c'.d.ord
  have e1 : s'.h.to = s.h.to := by rw [t.num]
  have e2 : s'.h.size = s.h.size := by rw [t.num]
  omega

theorem fr_start {c : Prop} {S ws : List Int} {h : HpN} (d : Dyn c S ws h) (hb : ¬ h.scan < h.bottom) (hf : h.flips < 4000000000) (r t : Int) : Fr (dropS S h) (dropS S h) ⟨ws, flipH h, r, t⟩ ∧ Why (fun _ => False) (dropS S h) ws (flipH h) := by
  have dd := dyn_flip d hb hf
  obtain ⟨o1, o2, o3, o4, o5, o6, o7, o8, o9, o10, o11, o12, o13⟩ := id d.ord
  have no : ∀ a, InS h a → ¬ InS (flipH h) a := fun a hi k => by
    unfold InS flipH at k
    unfold InS at hi
    dsimp only at k
    omega
  have nn : ∀ a : Nat, (dropS S h).getD a 0 ≠ 0 → ¬ InS (flipH h) a := fun a ha => no a (dropS_of ha).1
  refine ⟨⟨dd, rfl, fun a ha => ⟨rfl, nn a ha⟩, fun a ha _ => rfl, ?_⟩, fun b hb' hi => absurd hi (nn b hb')⟩
  have hT : ∀ a : Nat, 0 ≤ (dropS S h).getD a 0 := fun a => by
    by_cases e : (dropS S h).getD a 0 = 0
    · omega
    · have := dd.three e
      omega
  have := left_fits (ws := ws) (lo := h.to) dd.apart hT ws.length (h.to + h.size) (by omega) (fun a _ ha => by
    obtain ⟨hi, hS⟩ := dropS_of ha
    have hsd := obj_side d hS hi
    rw [dropS_in hi]
    omega)
  show (flipH h).bottom - (flipH h).to + leftZ (dropS S h) ws ws.length ≤ (flipH h).size
  unfold flipH
  dsimp only
  omega

end Go.Proofs.Ytebpgglegnljgaa

namespace Go.Proofs.Ytebpgglegnljgaa
open Go.RowKit

def sumS (g : Nat → Int) : Nat → Int
  | 0 => 0
  | k + 1 => sumS g k + g k

theorem sum_congr {g g' : Nat → Int} : ∀ k, (∀ i, i < k → g i = g' i) → sumS g k = sumS g' k
  | 0, _ => rfl
  | k + 1, h => by
    unfold sumS
    rw [sum_congr k (fun i hi => h i (by omega)), h k (by omega)]

theorem sum_shift (g : Nat → Int) : ∀ k, sumS g (k + 1) = g 0 + sumS (fun i => g (i + 1)) k
  | 0 => by
    unfold sumS sumS
    omega
  | k + 1 => by
    rw [show sumS g (k + 1 + 1) = sumS g (k + 1) + g (k + 1) from rfl, sum_shift g k]
    rw [show sumS (fun i => g (i + 1)) (k + 1) = sumS (fun i => g (i + 1)) k + g (k + 1) from rfl]
    omega

theorem sum_zero {g : Nat → Int} : ∀ k, (∀ i, i < k → g i = 0) → sumS g k = 0
  | 0, _ => rfl
  | k + 1, h => by
    unfold sumS
    rw [sum_zero k (fun i hi => h i (by omega)), h k (by omega)]
    rfl

theorem sum_put {g g' : Nat → Int} {a : Nat} {v : Int} (ha : g' a = g a + v) (h : ∀ i, i ≠ a → g' i = g i) : ∀ k, a < k → sumS g' k = sumS g k + v
  | 0, hk => by omega
  | k + 1, hk => by
    unfold sumS
    by_cases e : a = k
    · subst e
      rw [sum_congr a (fun i hi => h i (by omega)), ha]
      omega
    · rw [sum_put ha h k (by omega), h k (by omega)]
      omega

theorem sum_list {f : Nat → Int} {N : Nat} : ∀ M : List Nat, M.Nodup → (∀ a ∈ M, a < N) → sumS (fun i => f (M.getD i 0)) M.length = sumS (fun a => if a ∈ M then f a else 0) N
  | [], _, _ => by
    rw [sum_zero N (fun i _ => by simp)]
    rfl
  | a :: M, hn, h => by
    rw [List.nodup_cons] at hn
    rw [List.length_cons, sum_shift]
    have e := sum_list (f := f) M hn.2 (fun b hb => h b (List.mem_cons_of_mem _ hb))
    have p := sum_put (g := fun b => if b ∈ M then f b else 0) (g' := fun b => if b ∈ a :: M then f b else 0) (a := a) (v := f a) (by
      rw [if_pos List.mem_cons_self, if_neg hn.1]
      omega) (fun i hi => by
      by_cases hm : i ∈ M
      · rw [if_pos hm, if_pos (List.mem_cons_of_mem _ hm)]
      · rw [if_neg hm, if_neg (fun k => (List.mem_cons.1 k).elim hi hm)]) N (h a List.mem_cons_self)
    rw [p, ← e]
    simp only [List.getD_cons_zero, List.getD_cons_succ]
    omega

theorem sum_gap {g : Nat → Int} {p : Nat} (n : Nat) : ∀ m, 1 ≤ m → m ≤ n → (∀ j, p < j → j < p + n → g j = 0) → sumS g (p + m) = sumS g p + g p
  | 0, h, _, _ => by omega
  | m + 1, _, h2, h => by
    rw [← Nat.add_assoc, show sumS g (p + m + 1) = sumS g (p + m) + g (p + m) from rfl]
    by_cases e : m = 0
    · subst e
      rfl
    · rw [sum_gap n m (by omega) (by omega) h, h (p + m) (by omega) (by omega)]
      omega

theorem sum_row {S : List Int} (ap : Apart S) {p q : Nat} (r : LayRow S p q) : sumS (fun a => S.getD a 0) q = sumS (fun a => S.getD a 0) p + ((q : Int) - p) := by
  induction r with
  | nil p => omega
  | cons n hn hd _ ih =>
    rename_i p q _
    rw [ih, sum_gap (g := fun a => S.getD a 0) n n (by omega) (Nat.le_refl _) (fun j h1 h2 => by
      by_cases e : S.getD j 0 = 0
      · exact e
      · have := ap p j h1 (by rw [hd]; omega) e
        omega)]
    rw [hd]
    push_cast
    omega

theorem tell_pre (ws : List Int) (met : List Nat) (x : Int) : ∃ r, (tellZ ws met x).1 = met ++ r := by
  unfold tellZ
  split
  · split
    · exact ⟨[], by simp⟩
    · exact ⟨_, rfl⟩
  · exact ⟨[], by simp⟩

theorem tell_mem {ws : List Int} {met : List Nat} {x : Int} (hx : x % 8 = 0) : nowZ ws (x / 8).toNat ∈ (tellZ ws met x).1 := by
  unfold tellZ
  rw [if_pos hx]
  split
  · assumption
  · exact List.mem_append.2 (Or.inr (List.mem_singleton.2 rfl))

theorem tells_pre (ws xs : List Int) (met : List Nat) : ∀ k, ∃ r, (tellsRun ws xs k met).1 = met ++ r
  | 0 => ⟨[], by simp [tellsRun]⟩
  | k + 1 => by
    obtain ⟨r, h⟩ := tells_pre ws xs met k
    obtain ⟨r', h'⟩ := tell_pre ws (tellsRun ws xs k met).1 (xs.getD k 0)
    exact ⟨r ++ r', by unfold tellsRun; dsimp only; rw [h', h, List.append_assoc]⟩

theorem tells_mem {ws xs : List Int} {met : List Nat} {j : Nat} (hx : xs.getD j 0 % 8 = 0) : ∀ k, j < k → nowZ ws (xs.getD j 0 / 8).toNat ∈ (tellsRun ws xs k met).1
  | 0, h => by omega
  | k + 1, h => by
    unfold tellsRun
    dsimp only
    by_cases e : j = k
    · subst e
      exact tell_mem hx
    · obtain ⟨r', h'⟩ := tell_pre ws (tellsRun ws xs k met).1 (xs.getD k 0)
      rw [h']
      exact List.mem_append.2 (Or.inl (tells_mem hx k (by omega)))

theorem tells_told (ws xs : List Int) (met : List Nat) : ∀ k, (tellsRun ws xs k met).2.length = k
  | 0 => rfl
  | k + 1 => by
    unfold tellsRun
    dsimp only
    rw [List.length_append, tells_told ws xs met k]
    rfl

theorem graph_pre (ws : List Int) (met : List Nat) (k : Nat) : ∀ m, ∃ r, (graphRun ws (k + m) met).1 = (graphRun ws k met).1 ++ r
  | 0 => ⟨[], by simp⟩
  | m + 1 => by
    obtain ⟨r, h⟩ := graph_pre ws met k m
    obtain ⟨r', h'⟩ := tells_pre ws (fieldsAtZ ws ((graphRun ws (k + m) met).1.getD (k + m) 0)) (graphRun ws (k + m) met).1 (fieldsAtZ ws ((graphRun ws (k + m) met).1.getD (k + m) 0)).length
    refine ⟨r ++ r', ?_⟩
    rw [show (graphRun ws (k + (m + 1)) met).1 = (tellsRun ws (fieldsAtZ ws ((graphRun ws (k + m) met).1.getD (k + m) 0)) (fieldsAtZ ws ((graphRun ws (k + m) met).1.getD (k + m) 0)).length (graphRun ws (k + m) met).1).1 from rfl]
    rw [h', h, List.append_assoc]

theorem graph_get {ws : List Int} {met : List Nat} {j K : Nat} (h : j < K) (hj : j < (graphRun ws j met).1.length) : (graphRun ws K met).1.getD j 0 = (graphRun ws j met).1.getD j 0 := by
  obtain ⟨r, e⟩ := graph_pre ws met j (K - j)
  rw [show j + (K - j) = K by omega] at e
  rw [e]
  simp [List.getD, List.getElem?_append_left hj]

theorem graph_field {ws : List Int} {met : List Nat} {j K i : Nat} (h : j < K) (hi : i < (ws.getD ((graphRun ws j met).1.getD j 0) 0 / 16).toNat - 1) (hx : ws.getD ((graphRun ws j met).1.getD j 0 + 1 + i) 0 % 8 = 0) : nowZ ws (ws.getD ((graphRun ws j met).1.getD j 0 + 1 + i) 0 / 8).toNat ∈ (graphRun ws K met).1 := by
  obtain ⟨r, e⟩ := graph_pre ws met (j + 1) (K - (j + 1))
  rw [show j + 1 + (K - (j + 1)) = K by omega] at e
  rw [e]
  refine List.mem_append.2 (Or.inl ?_)
  rw [show (graphRun ws (j + 1) met).1 = (tellsRun ws (fieldsAtZ ws ((graphRun ws j met).1.getD j 0)) (fieldsAtZ ws ((graphRun ws j met).1.getD j 0)).length (graphRun ws j met).1).1 from rfl]
  have g := fieldsAtZ_get hi
  have := tells_mem (ws := ws) (xs := fieldsAtZ ws ((graphRun ws j met).1.getD j 0)) (met := (graphRun ws j met).1) (j := i) (by rw [g]; exact hx) (fieldsAtZ ws ((graphRun ws j met).1.getD j 0)).length (by rw [fieldsAtZ_len]; exact hi)
  rw [g] at this
  exact this

theorem fields_last {os : List (Int × List Int)} {o : Int × List Int} {k : Nat} (h : os.length = k) : fieldsOf (os ++ [o]) k = o.2 := by
  subst h
  unfold fieldsOf
  simp [List.getD]

theorem graph_words {ws : List Int} {met : List Nat} : ∀ k, (graphRun ws k met).2.length = k ∧ sumS (fun i => 1 + ((fieldsOf (graphRun ws k met).2 i).length : Int)) k = sumS (fun i => 1 + (((ws.getD ((graphRun ws i met).1.getD i 0) 0 / 16).toNat - 1 : Nat) : Int)) k
  | 0 => ⟨rfl, rfl⟩
  | k + 1 => by
    obtain ⟨h1, h2⟩ := graph_words (ws := ws) (met := met) k
    have e : (graphRun ws (k + 1) met).2 = (graphRun ws k met).2 ++ [(ws.getD ((graphRun ws k met).1.getD k 0) 0 % 16, (tellsRun ws (fieldsAtZ ws ((graphRun ws k met).1.getD k 0)) (fieldsAtZ ws ((graphRun ws k met).1.getD k 0)).length (graphRun ws k met).1).2)] := rfl
    refine ⟨by rw [e, List.length_append, h1]; rfl, ?_⟩
    rw [e]
    show sumS _ k + _ = sumS _ k + _
    rw [← h2]
    congr 1
    · refine sum_congr k (fun i hi => ?_)
      unfold fieldsOf
      simp [List.getD, List.getElem?_append_left (show i < (graphRun ws k met).2.length by omega)]
    · dsimp only
      rw [fields_last h1]
      dsimp only
      rw [tells_told, fieldsAtZ_len]

end Go.Proofs.Ytebpgglegnljgaa

namespace Go.Proofs.Ytebpgglegnljgaa
open Go.RowKit

theorem both_new (w : World) (v : Value) (h : HpN) : ∃ W0, (w.alloc (.cells #[v, .int .i64 h.size, .int .i64 h.to, .int .i64 h.bottom, .int .i64 h.top, .int .i64 h.scan, .int .i64 h.fb, .int .i64 h.ft, .int .i64 h.flips, .int .i64 h.touched] 25)).alloc (.cells #[.slice none 0 0, .int .i64 0, .int .i64 0, .int .i64 0, .int .i64 0, .int .i64 0, .int .i64 0, .int .i64 0, .int .i64 0, .int .i64 0] 25) = W0 ∧ HeapBlk W0 w.heap.size v h ∧ HeapBlk W0 (w.heap.size + 1) (.slice none 0 0) ⟨0, 0, 0, 0, 0, 0, 0, 0, 0⟩ ∧ Below w.heap.size w W0 := by
  have h2 := two_kept (w := w) (Below.refl ((w.alloc (.cells #[v, .int .i64 h.size, .int .i64 h.to, .int .i64 h.bottom, .int .i64 h.top, .int .i64 h.scan, .int .i64 h.fb, .int .i64 h.ft, .int .i64 h.flips, .int .i64 h.touched] 25)).alloc (.cells #[.slice none 0 0, .int .i64 0, .int .i64 0, .int .i64 0, .int .i64 0, .int .i64 0, .int .i64 0, .int .i64 0, .int .i64 0, .int .i64 0] 25)).heap.size _)
  exact ⟨_, rfl, h2.1, h2.2.1, h2.2.2⟩

end Go.Proofs.Ytebpgglegnljgaa

namespace Go.Proofs.Ytebpgglegnljgaa
open Go.RowKit

def FlipTold (N n : Nat) (w : World) (o : Option (List Int × CN)) (e : Ending) (w' : World) : Prop :=
  match o with
  | some (ys, s) => ∃ bw cap' g c : Nat, e = .returned (.tuple #[heapV (.slice (some ⟨bw, 0, none⟩) N cap') { s.h with touched := touchZ s }, .slice (some ⟨g, 0, none⟩) n c, .bool true]) ∧ CellRow 3 w' bw N (intCells s.ws) ∧ CellRow 3 w' g n (intCells ys) ∧ g ≠ bw ∧ w.heap.size ≤ bw ∧ w.heap.size ≤ g ∧ Below w.heap.size w w'
  | none => e = .returned (.tuple #[noHeap, .slice none 0 0, .bool false]) ∧ Below w.heap.size w w'

set_option maxHeartbeats 2000000 in
set_option maxRecDepth 100000 in
theorem iFlip_notOk (b off cap N : Nat) (h : HpN) (rg n rc : Nat) (w : World)
    (HLy : Hid (∀ X, Below w.heap.size w X → Calls Try.prog 30 #[heapV (.slice (some ⟨b, off, none⟩) N cap) h] X fun e w' => e = .returned (.tuple #[noLay, .bool false]) ∧ Below X.heap.size X w')) :
    Calls Try.prog 17 #[heapV (.slice (some ⟨b, off, none⟩) N cap) h, .slice (some ⟨rg, 0, none⟩) n rc] w fun e w' => e = .returned (.tuple #[noHeap, .slice none 0 0, .bool false]) ∧ Below w.heap.size w w' := by
  obtain ⟨g1, g2, g3, g4, g5, g6, g7, g8, g9⟩ := h
  unfold heapV at *
  dsimp only at *
  obtain ⟨W0, hW0, hA, hR, k2⟩ := both_new w (.slice (some ⟨b, off, none⟩) N cap) ⟨g1, g2, g3, g4, g5, g6, g7, g8, g9⟩
  dsimp only at hW0
  have HW0 := hid hW0
  have HA := hid hA
  have HR := hid hR
  have HK2 := hid k2
  clear hW0 hA hR k2
  go_enter Try.func17, Try.ntmps17
  go_wp2_with fail
  rw [HW0.out]
  refine (HLy.out _ HK2.out).mono ?_
  rintro e W1 ⟨rfl, hb1⟩
  unfold noLay layV
  dsimp only
  have k1 := HK2.out.trans (hb1.mono HK2.out.size)
  have HB6 := hid (k1.alloc k1.size (.cells #[.slice none 0 0, .int .i64 0, .int .i64 0, .int .i64 0, .int .i64 0, .int .i64 0, .int .i64 0, .int .i64 0, .int .i64 0, .int .i64 0, .slice none 0 0] 58))
  have hR1 := HR.out.below hb1
  have HR6 := hid (hR1.below ((Below.refl _ W1).alloc (Nat.le_refl _) (.cells #[.slice none 0 0, .int .i64 0, .int .i64 0, .int .i64 0, .int .i64 0, .int .i64 0, .int .i64 0, .int .i64 0, .int .i64 0, .int .i64 0, .slice none 0 0] 58)))
  have hltR := heap_lt hR1
  clear k1 hb1 HW0 HA HR HK2 HLy
  clear hR1
  go_upto_if 29 with fail
  generalize W1.alloc (.cells #[.slice none 0 0, .int .i64 0, .int .i64 0, .int .i64 0, .int .i64 0, .int .i64 0, .int .i64 0, .int .i64 0, .int .i64 0, .int .i64 0, .slice none 0 0] 58) = W2 at *
  obtain ⟨c0, c1, c2, c3, c4, c5, c6, c7, c8, c9⟩ := HR6.out.cells
  dsimp only at c0 c1 c2 c3 c4 c5 c6 c7 c8 c9
  have z0 := frozen_of_heap HR6.out 0
  have z1 := frozen_of_heap HR6.out 1
  have z2 := frozen_of_heap HR6.out 2
  have z3 := frozen_of_heap HR6.out 3
  have z4 := frozen_of_heap HR6.out 4
  have z5 := frozen_of_heap HR6.out 5
  have z6 := frozen_of_heap HR6.out 6
  have z7 := frozen_of_heap HR6.out 7
  have z8 := frozen_of_heap HR6.out 8
  have z9 := frozen_of_heap HR6.out 9
  go_wp2_with fail
  refine heap_use HR6.out (.slice none 0 0) ⟨0, 0, 0, 0, 0, 0, 0, 0, 0⟩ _ ?_
  intro W7 hL hb7 _ _
  obtain ⟨y0, y1, y2, y3, y4, y5, y6, y7, y8, y9⟩ := hL.cells
  dsimp only at y0 y1 y2 y3 y4 y5 y6 y7 y8 y9
  exact bodyPost_ret (v := .tuple #[noHeap, .slice none 0 0, .bool false]) (by simp [results, Try.results17, go_sem, y0, y1, y2, y3, y4, y5, y6, y7, y8, y9, noHeap, heapV]) rfl ⟨rfl, HB6.out.trans (hb7 _ (Nat.le_succ _))⟩

set_option maxHeartbeats 2000000 in
set_option maxRecDepth 100000 in
theorem iFlip_scan (b off cap N : Nat) (h : HpN) (rg n rc : Nat) (w : World)
    (ws S : List Int) (hne : (h.scan != h.bottom) = true) (hne2 : ¬ h.scan = h.bottom)
    (HLy : Hid (∀ X, Below w.heap.size w X → Calls Try.prog 30 #[heapV (.slice (some ⟨b, off, none⟩) N cap) h] X fun e w' => ∃ gb, e = .returned (.tuple #[layV (.slice (some ⟨b, off, none⟩) N cap) h (.slice (some ⟨gb, 0, none⟩) N N), .bool true]) ∧ Hid (ISt b off gb N ws S w') ∧ Below X.heap.size X w')) :
    Calls Try.prog 17 #[heapV (.slice (some ⟨b, off, none⟩) N cap) h, .slice (some ⟨rg, 0, none⟩) n rc] w fun e w' => e = .returned (.tuple #[noHeap, .slice none 0 0, .bool false]) ∧ Below w.heap.size w w' := by
  obtain ⟨g1, g2, g3, g4, g5, g6, g7, g8, g9⟩ := h
  unfold heapV at *
  dsimp only at *
  obtain ⟨W0, hW0, hA, hR, k2⟩ := both_new w (.slice (some ⟨b, off, none⟩) N cap) ⟨g1, g2, g3, g4, g5, g6, g7, g8, g9⟩
  dsimp only at hW0
  have HW0 := hid hW0
  have HA := hid hA
  have HR := hid hR
  have HK2 := hid k2
  clear hW0 hA hR k2
  go_enter Try.func17, Try.ntmps17
  go_wp2_with fail
  rw [HW0.out]
  refine (HLy.out _ HK2.out).mono ?_
  rintro e W1 ⟨gb, rfl, HI, hb1⟩
  unfold layV at *
  dsimp only at *
  have k1 := HK2.out.trans (hb1.mono HK2.out.size)
  have HB2 := hid (k1.alloc k1.size (.cells #[.slice (some ⟨b, off, none⟩) N cap, .int .i64 g1, .int .i64 g2, .int .i64 g3, .int .i64 g4, .int .i64 g5, .int .i64 g6, .int .i64 g7, .int .i64 g8, .int .i64 g9, .slice (some ⟨gb, 0, none⟩) N N] 58))
  have HR2 := hid ((HR.out.below hb1).below ((Below.refl _ W1).alloc (Nat.le_refl _) (.cells #[.slice (some ⟨b, off, none⟩) N cap, .int .i64 g1, .int .i64 g2, .int .i64 g3, .int .i64 g4, .int .i64 g5, .int .i64 g6, .int .i64 g7, .int .i64 g8, .int .i64 g9, .slice (some ⟨gb, 0, none⟩) N N] 58)))
  have hA1 := HA.out.below hb1
  have HA2 := hid (hA1.below ((Below.refl _ W1).alloc (Nat.le_refl _) (.cells #[.slice (some ⟨b, off, none⟩) N cap, .int .i64 g1, .int .i64 g2, .int .i64 g3, .int .i64 g4, .int .i64 g5, .int .i64 g6, .int .i64 g7, .int .i64 g8, .int .i64 g9, .slice (some ⟨gb, 0, none⟩) N N] 58)))
  have HI2 := hid (HI.out.kept ((Below.refl _ W1).alloc (Nat.le_refl _) (.cells #[.slice (some ⟨b, off, none⟩) N cap, .int .i64 g1, .int .i64 g2, .int .i64 g3, .int .i64 g4, .int .i64 g5, .int .i64 g6, .int .i64 g7, .int .i64 g8, .int .i64 g9, .slice (some ⟨gb, 0, none⟩) N N] 58)))
  have a3 := hA1.cells.2.2.2.1
  have a5 := hA1.cells.2.2.2.2.2.1
  have hltA := heap_lt hA1
  dsimp only at a3 a5
  clear k1 hb1 HW0 HA HR HK2 HLy HI hA1
  have HR6 := HR2
  have HB6 := HB2
  clear HR2 HB2 HA2 HI2
  go_upto_if 29 with fail
  generalize W1.alloc (.cells #[.slice (some ⟨b, off, none⟩) N cap, .int .i64 g1, .int .i64 g2, .int .i64 g3, .int .i64 g4, .int .i64 g5, .int .i64 g6, .int .i64 g7, .int .i64 g8, .int .i64 g9, .slice (some ⟨gb, 0, none⟩) N N] 58) = W2 at *
  obtain ⟨c0, c1, c2, c3, c4, c5, c6, c7, c8, c9⟩ := HR6.out.cells
  dsimp only at c0 c1 c2 c3 c4 c5 c6 c7 c8 c9
  have z0 := frozen_of_heap HR6.out 0
  have z1 := frozen_of_heap HR6.out 1
  have z2 := frozen_of_heap HR6.out 2
  have z3 := frozen_of_heap HR6.out 3
  have z4 := frozen_of_heap HR6.out 4
  have z5 := frozen_of_heap HR6.out 5
  have z6 := frozen_of_heap HR6.out 6
  have z7 := frozen_of_heap HR6.out 7
  have z8 := frozen_of_heap HR6.out 8
  have z9 := frozen_of_heap HR6.out 9
  go_wp2_with fail
  refine heap_use HR6.out (.slice none 0 0) ⟨0, 0, 0, 0, 0, 0, 0, 0, 0⟩ _ ?_
  intro W7 hL hb7 _ _
  obtain ⟨y0, y1, y2, y3, y4, y5, y6, y7, y8, y9⟩ := hL.cells
  dsimp only at y0 y1 y2 y3 y4 y5 y6 y7 y8 y9
  exact bodyPost_ret (v := .tuple #[noHeap, .slice none 0 0, .bool false]) (by simp [results, Try.results17, go_sem, y0, y1, y2, y3, y4, y5, y6, y7, y8, y9, noHeap, heapV]) rfl ⟨rfl, HB6.out.trans (hb7 _ (Nat.le_succ _))⟩

set_option maxHeartbeats 2000000 in
set_option maxRecDepth 100000 in
theorem iFlip_noRoot (b off cap N : Nat) (h : HpN) (rg n rc : Nat) (w : World)
    (ws S : List Int) (heq : (h.scan != h.bottom) = false)
    (HLy : Hid (∀ X, Below w.heap.size w X → Calls Try.prog 30 #[heapV (.slice (some ⟨b, off, none⟩) N cap) h] X fun e w' => ∃ gb, e = .returned (.tuple #[layV (.slice (some ⟨b, off, none⟩) N cap) h (.slice (some ⟨gb, 0, none⟩) N N), .bool true]) ∧ Hid (ISt b off gb N ws S w') ∧ Below X.heap.size X w'))
    (HRt : Hid (∀ (X : World) (gb : Nat), Below w.heap.size w X → ISt b off gb N ws S X → Calls Try.prog 31 #[layV (.slice (some ⟨b, off, none⟩) N cap) h (.slice (some ⟨gb, 0, none⟩) N N), .slice (some ⟨rg, 0, none⟩) n rc] X fun e w' => e = .returned (.bool false) ∧ Below X.heap.size X w')) :
    Calls Try.prog 17 #[heapV (.slice (some ⟨b, off, none⟩) N cap) h, .slice (some ⟨rg, 0, none⟩) n rc] w fun e w' => e = .returned (.tuple #[noHeap, .slice none 0 0, .bool false]) ∧ Below w.heap.size w w' := by
  obtain ⟨g1, g2, g3, g4, g5, g6, g7, g8, g9⟩ := h
  unfold heapV at *
  dsimp only at *
  obtain ⟨W0, hW0, hA, hR, k2⟩ := both_new w (.slice (some ⟨b, off, none⟩) N cap) ⟨g1, g2, g3, g4, g5, g6, g7, g8, g9⟩
  dsimp only at hW0
  have HW0 := hid hW0
  have HA := hid hA
  have HR := hid hR
  have HK2 := hid k2
  clear hW0 hA hR k2
  go_enter Try.func17, Try.ntmps17
  go_wp2_with fail
  rw [HW0.out]
  refine (HLy.out _ HK2.out).mono ?_
  rintro e W1 ⟨gb, rfl, HI, hb1⟩
  unfold layV at *
  dsimp only at *
  have k1 := HK2.out.trans (hb1.mono HK2.out.size)
  have HB2 := hid (k1.alloc k1.size (.cells #[.slice (some ⟨b, off, none⟩) N cap, .int .i64 g1, .int .i64 g2, .int .i64 g3, .int .i64 g4, .int .i64 g5, .int .i64 g6, .int .i64 g7, .int .i64 g8, .int .i64 g9, .slice (some ⟨gb, 0, none⟩) N N] 58))
  have HR2 := hid ((HR.out.below hb1).below ((Below.refl _ W1).alloc (Nat.le_refl _) (.cells #[.slice (some ⟨b, off, none⟩) N cap, .int .i64 g1, .int .i64 g2, .int .i64 g3, .int .i64 g4, .int .i64 g5, .int .i64 g6, .int .i64 g7, .int .i64 g8, .int .i64 g9, .slice (some ⟨gb, 0, none⟩) N N] 58)))
  have hA1 := HA.out.below hb1
  have HA2 := hid (hA1.below ((Below.refl _ W1).alloc (Nat.le_refl _) (.cells #[.slice (some ⟨b, off, none⟩) N cap, .int .i64 g1, .int .i64 g2, .int .i64 g3, .int .i64 g4, .int .i64 g5, .int .i64 g6, .int .i64 g7, .int .i64 g8, .int .i64 g9, .slice (some ⟨gb, 0, none⟩) N N] 58)))
  have HI2 := hid (HI.out.kept ((Below.refl _ W1).alloc (Nat.le_refl _) (.cells #[.slice (some ⟨b, off, none⟩) N cap, .int .i64 g1, .int .i64 g2, .int .i64 g3, .int .i64 g4, .int .i64 g5, .int .i64 g6, .int .i64 g7, .int .i64 g8, .int .i64 g9, .slice (some ⟨gb, 0, none⟩) N N] 58)))
  have a3 := hA1.cells.2.2.2.1
  have a5 := hA1.cells.2.2.2.2.2.1
  have hltA := heap_lt hA1
  dsimp only at a3 a5
  clear k1 hb1 HW0 HA HR HK2 HLy HI hA1
  go_wp2_with fail
  generalize W1.alloc (.cells #[.slice (some ⟨b, off, none⟩) N cap, .int .i64 g1, .int .i64 g2, .int .i64 g3, .int .i64 g4, .int .i64 g5, .int .i64 g6, .int .i64 g7, .int .i64 g8, .int .i64 g9, .slice (some ⟨gb, 0, none⟩) N N] 58) = W2 at *
  refine (HRt.out _ _ HB2.out HI2.out).mono ?_
  rintro e W6 ⟨rfl, hb6⟩
  have HB6 := hid (HB2.out.trans (hb6.mono HB2.out.size))
  have HR6 := hid (HR2.out.below hb6)
  have HA6 := hid (HA2.out.below hb6)
  clear a3 a5 hltA hb6 HB2 HR2 HA2 HI2
  obtain ⟨c0, c1, c2, c3, c4, c5, c6, c7, c8, c9⟩ := HR6.out.cells
  dsimp only at c0 c1 c2 c3 c4 c5 c6 c7 c8 c9
  have z0 := frozen_of_heap HR6.out 0
  have z1 := frozen_of_heap HR6.out 1
  have z2 := frozen_of_heap HR6.out 2
  have z3 := frozen_of_heap HR6.out 3
  have z4 := frozen_of_heap HR6.out 4
  have z5 := frozen_of_heap HR6.out 5
  have z6 := frozen_of_heap HR6.out 6
  have z7 := frozen_of_heap HR6.out 7
  have z8 := frozen_of_heap HR6.out 8
  have z9 := frozen_of_heap HR6.out 9
  go_wp2_with fail
  refine heap_use HR6.out (.slice none 0 0) ⟨0, 0, 0, 0, 0, 0, 0, 0, 0⟩ _ ?_
  intro W7 hL hb7 _ _
  obtain ⟨y0, y1, y2, y3, y4, y5, y6, y7, y8, y9⟩ := hL.cells
  dsimp only at y0 y1 y2 y3 y4 y5 y6 y7 y8 y9
  exact bodyPost_ret (v := .tuple #[noHeap, .slice none 0 0, .bool false]) (by simp [results, Try.results17, go_sem, y0, y1, y2, y3, y4, y5, y6, y7, y8, y9, noHeap, heapV]) rfl ⟨rfl, HB6.out.trans (hb7 _ (Nat.le_succ _))⟩

end Go.Proofs.Ytebpgglegnljgaa

namespace Go.Proofs.Ytebpgglegnljgaa
open Go.RowKit

def FlipToldC (N n : Nat) (w : World) (o : Option (List Int × CN)) (e : Ending) (w' : World) : Prop :=
  match o with
  | some (ys, s) => ∃ bw cap' g c : Nat, e = .returned (.tuple #[heapV (.slice (some ⟨bw, 0, none⟩) N cap') { s.h with touched := touchZ s }, .slice (some ⟨g, 0, none⟩) n c, .bool true]) ∧ CellRow 3 w' bw N (intCells s.ws) ∧ CellRow 3 w' g n (intCells ys) ∧ g ≠ bw ∧ w.heap.size ≤ bw ∧ w.heap.size ≤ g ∧ Below w.heap.size w w' ∧ N ≤ cap'
  | none => e = .returned (.tuple #[noHeap, .slice none 0 0, .bool false]) ∧ Below w.heap.size w w'

set_option maxHeartbeats 2000000 in
set_option maxRecDepth 100000 in
theorem iFlip_goodC (b off cap N : Nat) (h : HpN) (rg n rc : Nat) (w : World)
    (ws S xs : List Int) (heq : (h.scan != h.bottom) = false) (s0 : CN) (o : Option (List Int × CN))
    (HLy : Hid (∀ X, Below w.heap.size w X → Calls Try.prog 30 #[heapV (.slice (some ⟨b, off, none⟩) N cap) h] X fun e w' => ∃ gb, e = .returned (.tuple #[layV (.slice (some ⟨b, off, none⟩) N cap) h (.slice (some ⟨gb, 0, none⟩) N N), .bool true]) ∧ Hid (ISt b off gb N ws S w') ∧ Below X.heap.size X w'))
    (HRt : Hid (∀ (X : World) (gb : Nat), Below w.heap.size w X → ISt b off gb N ws S X → Calls Try.prog 31 #[layV (.slice (some ⟨b, off, none⟩) N cap) h (.slice (some ⟨gb, 0, none⟩) N N), .slice (some ⟨rg, 0, none⟩) n rc] X fun e w' => e = .returned (.bool true) ∧ Below X.heap.size X w'))
    (HOp : Hid (∀ X, Below w.heap.size w X → Calls Try.prog 42 #[heapV (.slice (some ⟨b, off, none⟩) N cap) h] X fun e w' => ∃ bc bw cap' : Nat, e = .returned (.pointer (some ⟨bc, 0, none⟩)) ∧ (ColAt X bc bw N cap' s0 w' ∧ N ≤ cap') ∧ X.heap.size ≤ bc ∧ X.heap.size ≤ bw))
    (HCl : Hid (∀ X, Below w.heap.size w X → Calls Try.prog 43 #[.slice (some ⟨rg, 0, none⟩) n rc] X fun e w' => ∃ g c, e = .returned (.slice (some ⟨g, 0, none⟩) n c) ∧ Hid (CellRow 3 w' g n (intCells xs)) ∧ X.heap.size ≤ g ∧ Below X.heap.size X w'))
    (HCh : Hid (∀ (X w0 : World) (bc bw cap' g c : Nat), ColAt w0 bc bw N cap' s0 X → g ≠ bc → g ≠ bw → CellRow 3 X g n (intCells xs) → Calls Try.prog 48 #[.pointer (some ⟨bc, 0, none⟩), .slice (some ⟨g, 0, none⟩) n c] X (MovesPost X bc bw N cap' g n o)))
    (HTd : Hid (∀ (ys : List Int) (s1 : CN) (X w0 : World) (bc bw cap' : Nat), o = some (ys, s1) → ColAt w0 bc bw N cap' s1 X → Calls Try.prog 45 #[.pointer (some ⟨bc, 0, none⟩)] X fun e w' => e = .returned (heapV (.slice (some ⟨bw, 0, none⟩) N cap') { s1.h with touched := touchZ s1 }) ∧ Below X.heap.size X w')) :
    Calls Try.prog 17 #[heapV (.slice (some ⟨b, off, none⟩) N cap) h, .slice (some ⟨rg, 0, none⟩) n rc] w (FlipToldC N n w o) := by
  obtain ⟨g1, g2, g3, g4, g5, g6, g7, g8, g9⟩ := h
  unfold heapV at *
  dsimp only at *
  obtain ⟨W0, hW0, hA, hR, k2⟩ := both_new w (.slice (some ⟨b, off, none⟩) N cap) ⟨g1, g2, g3, g4, g5, g6, g7, g8, g9⟩
  dsimp only at hW0
  have HW0 := hid hW0
  have HA := hid hA
  have HR := hid hR
  have HK2 := hid k2
  clear hW0 hA hR k2
  go_enter Try.func17, Try.ntmps17
  go_wp2_with fail
  rw [HW0.out]
  refine (HLy.out _ HK2.out).mono ?_
  rintro e W1 ⟨gb, rfl, HI, hb1⟩
  unfold layV at *
  dsimp only at *
  have k1 := HK2.out.trans (hb1.mono HK2.out.size)
  have HB2 := hid (k1.alloc k1.size (.cells #[.slice (some ⟨b, off, none⟩) N cap, .int .i64 g1, .int .i64 g2, .int .i64 g3, .int .i64 g4, .int .i64 g5, .int .i64 g6, .int .i64 g7, .int .i64 g8, .int .i64 g9, .slice (some ⟨gb, 0, none⟩) N N] 58))
  have HR2 := hid ((HR.out.below hb1).below ((Below.refl _ W1).alloc (Nat.le_refl _) (.cells #[.slice (some ⟨b, off, none⟩) N cap, .int .i64 g1, .int .i64 g2, .int .i64 g3, .int .i64 g4, .int .i64 g5, .int .i64 g6, .int .i64 g7, .int .i64 g8, .int .i64 g9, .slice (some ⟨gb, 0, none⟩) N N] 58)))
  have hA1 := HA.out.below hb1
  have HA2 := hid (hA1.below ((Below.refl _ W1).alloc (Nat.le_refl _) (.cells #[.slice (some ⟨b, off, none⟩) N cap, .int .i64 g1, .int .i64 g2, .int .i64 g3, .int .i64 g4, .int .i64 g5, .int .i64 g6, .int .i64 g7, .int .i64 g8, .int .i64 g9, .slice (some ⟨gb, 0, none⟩) N N] 58)))
  have HI2 := hid (HI.out.kept ((Below.refl _ W1).alloc (Nat.le_refl _) (.cells #[.slice (some ⟨b, off, none⟩) N cap, .int .i64 g1, .int .i64 g2, .int .i64 g3, .int .i64 g4, .int .i64 g5, .int .i64 g6, .int .i64 g7, .int .i64 g8, .int .i64 g9, .slice (some ⟨gb, 0, none⟩) N N] 58)))
  have a3 := hA1.cells.2.2.2.1
  have a5 := hA1.cells.2.2.2.2.2.1
  have hltA := heap_lt hA1
  dsimp only at a3 a5
  clear k1 hb1 HW0 HA HR HK2 HLy HI hA1
  go_wp2_with fail
  generalize W1.alloc (.cells #[.slice (some ⟨b, off, none⟩) N cap, .int .i64 g1, .int .i64 g2, .int .i64 g3, .int .i64 g4, .int .i64 g5, .int .i64 g6, .int .i64 g7, .int .i64 g8, .int .i64 g9, .slice (some ⟨gb, 0, none⟩) N N] 58) = W2 at *
  refine (HRt.out _ _ HB2.out HI2.out).mono ?_
  rintro e W6 ⟨rfl, hb6⟩
  have HB6 := hid (HB2.out.trans (hb6.mono HB2.out.size))
  have HR6 := hid (HR2.out.below hb6)
  have HA6 := hid (HA2.out.below hb6)
  clear a3 a5 hltA hb6 HB2 HR2 HA2 HI2
  obtain ⟨c0, c1, c2, c3, c4, c5, c6, c7, c8, c9⟩ := HA6.out.cells
  dsimp only at c0 c1 c2 c3 c4 c5 c6 c7 c8 c9
  go_wp2_with fail
  refine (HOp.out _ HB6.out).mono ?_
  rintro e W7 ⟨bc, bw, cap', rfl, ⟨hW7, hcpC⟩, hlo, hlo2⟩
  have HCpC := hid hcpC
  clear hcpC
  have HW7 := hid hW7
  have hlt6 := heap_lt HR6.out
  have HB7 := hid (HB6.out.trans ((Col.frame hW7).below hlo hlo2 |>.mono HB6.out.size))
  clear hW7 HOp HA6 c0 c1 c2 c3 c4 c5 c6 c7 c8 c9
  go_wp2_with fail
  refine (HCl.out _ HB7.out).mono ?_
  rintro e W8 ⟨g, gc, rfl, HRw, hg, hb8⟩
  have HW8 := hid (Col.keep HW7.out hb8)
  have hgc : g ≠ bc := by have := heap_lt (Col.blk HW7.out); omega
  have hgw : g ≠ bw := by have := CellRow.lt (Col.row HW7.out); omega
  have hg6 : W6.heap.size ≤ g := by have := (Col.frame HW7.out).size; omega
  have HCh' := hid (HCh.out _ _ _ _ _ _ gc HW8.out hgc hgw HRw.out)
  have HF8 := hid (Col.frame HW8.out)
  clear hb8 HCl HCh HW7 HW8 hg
  go_wp2_with fail
  refine HCh'.out.mono ?_
  intro e W9 hP
  have HP := hid hP
  clear hP HCh'
  have KB : Hid (∀ W9, Frm3 W8 bc bw g W9 → Below w.heap.size w W9 ∧ HeapBlk W9 (w.heap.size + 1) (.slice none 0 0) ⟨0, 0, 0, 0, 0, 0, 0, 0, 0⟩) := fun W9 hf => by
    obtain ⟨f1, f2, f3, f4, f5⟩ := hf
    have e1 : Below W6.heap.size W6 W9 := ⟨f1.trans HF8.out.os, f2.trans HF8.out.tape, f3.trans HF8.out.output, Nat.le_trans HF8.out.size f4, fun c hc => (f5 c (Nat.lt_of_lt_of_le hc HF8.out.size) (by omega) (by omega) (by omega)).trans (HF8.out.block c hc (by omega) (by omega))⟩
    exact ⟨HB6.out.trans (e1.mono HB6.out.size), HR6.out.below e1⟩
  cases o with
  | none =>
    obtain ⟨rfl, -, hf⟩ := HP.out
    have HB8 := hid (KB.out _ hf).1
    have HR8 := hid (KB.out _ hf).2
    clear hf HP KB HF8 HR6 HB6 HTd
    obtain ⟨c0, c1, c2, c3, c4, c5, c6, c7, c8, c9⟩ := HR8.out.cells
    dsimp only at c0 c1 c2 c3 c4 c5 c6 c7 c8 c9
    have z0 := frozen_of_heap HR8.out 0
    have z1 := frozen_of_heap HR8.out 1
    have z2 := frozen_of_heap HR8.out 2
    have z3 := frozen_of_heap HR8.out 3
    have z4 := frozen_of_heap HR8.out 4
    have z5 := frozen_of_heap HR8.out 5
    have z6 := frozen_of_heap HR8.out 6
    have z7 := frozen_of_heap HR8.out 7
    have z8 := frozen_of_heap HR8.out 8
    have z9 := frozen_of_heap HR8.out 9
    go_wp2_with fail
    refine heap_use HR8.out (.slice none 0 0) ⟨0, 0, 0, 0, 0, 0, 0, 0, 0⟩ _ ?_
    intro W10 hL hb7 _ _
    obtain ⟨y0, y1, y2, y3, y4, y5, y6, y7, y8, y9⟩ := hL.cells
    dsimp only at y0 y1 y2 y3 y4 y5 y6 y7 y8 y9
    exact bodyPost_ret (v := .tuple #[noHeap, .slice none 0 0, .bool false]) (by simp [results, Try.results17, go_sem, y0, y1, y2, y3, y4, y5, y6, y7, y8, y9, noHeap, heapV]) rfl ⟨rfl, HB8.out.trans (hb7 _ (Nat.le_succ _))⟩
  | some p =>
    obtain ⟨ys, s1⟩ := p
    obtain ⟨rfl, hc9, hr9, hf9⟩ := HP.out
    have HW9 := hid hc9
    have HRy := hid hr9
    have HF9 := hid hf9
    have HTd' := hid (HTd.out ys s1 W9 W9 bc bw cap' rfl HW9.out)
    clear hc9 hr9 hf9 HP HTd
    obtain ⟨i9, hi9⟩ : ∃ i9, touchZ s1 = i9 := ⟨_, rfl⟩
    have HI9 := hid hi9
    rw [hi9] at HTd'
    clear hi9
    go_wp2_with fail
    refine HTd'.out.mono ?_
    rintro e W10 ⟨rfl, hb10⟩
    have HW10 := hid (Col.keep HW9.out hb10)
    have HRy10 := hid (HRy.out.of_block (hb10.block g HRy.out.lt))
    have HB10 := hid ((KB.out _ HF9.out).1.trans (hb10.mono (KB.out _ HF9.out).1.size))
    have HR10 := hid ((KB.out _ HF9.out).2.below hb10)
    obtain ⟨c0, c1, c2, c3, c4, c5, c6, c7, c8, c9⟩ := HR10.out.cells
    dsimp only at c0 c1 c2 c3 c4 c5 c6 c7 c8 c9
    have z0 := frozen_of_heap HR10.out 0
    have z1 := frozen_of_heap HR10.out 1
    have z2 := frozen_of_heap HR10.out 2
    have z3 := frozen_of_heap HR10.out 3
    have z4 := frozen_of_heap HR10.out 4
    have z5 := frozen_of_heap HR10.out 5
    have z6 := frozen_of_heap HR10.out 6
    have z7 := frozen_of_heap HR10.out 7
    have z8 := frozen_of_heap HR10.out 8
    have z9 := frozen_of_heap HR10.out 9
    have hsz6 := HB6.out.size
    clear hb10 HTd' HW9 HRy HF9 KB HF8 HR6 HB6
    go_wp2_with fail
    refine heap_use HR10.out (.slice (some ⟨bw, 0, none⟩) N cap') ⟨s1.h.size, s1.h.to, s1.h.bottom, s1.h.top, s1.h.scan, s1.h.fb, s1.h.ft, s1.h.flips, i9⟩ _ ?_
    intro W11 hL hb11 _ hoth
    obtain ⟨y0, y1, y2, y3, y4, y5, y6, y7, y8, y9⟩ := hL.cells
    dsimp only at y0 y1 y2 y3 y4 y5 y6 y7 y8 y9
    refine bodyPost_ret (v := .tuple #[heapV (.slice (some ⟨bw, 0, none⟩) N cap') ⟨s1.h.size, s1.h.to, s1.h.bottom, s1.h.top, s1.h.scan, s1.h.fb, s1.h.ft, s1.h.flips, i9⟩, .slice (some ⟨g, 0, none⟩) n gc, .bool true]) (by simp [results, Try.results17, go_sem, y0, y1, y2, y3, y4, y5, y6, y7, y8, y9, heapV]) rfl ?_
    exact ⟨bw, cap', g, gc, by rw [HI9.out], HW10.out.row.of_block (hoth _ (by omega)), HRy10.out.of_block (hoth _ (by omega)), hgw, by omega, by omega, HB10.out.trans (hb11 _ (Nat.le_succ _)), HCpC.out⟩
end Go.Proofs.Ytebpgglegnljgaa

namespace Go.Proofs.Ytebpgglegnljgaa
open Go.RowKit

set_option maxHeartbeats 4000000 in
set_option maxRecDepth 100000 in
theorem sFlip_notOk (b off cap N : Nat) (h : HpN) (rg n rc : Nat) (w : World)
    (HOk : Hid (∀ X, Below w.heap.size w X → Calls Try.prog 35 #[heapV (.slice (some ⟨b, off, none⟩) N cap) h] X fun e w' => e = .returned (.bool false) ∧ Below X.heap.size X w')) :
    Calls Try.prog 18 #[heapV (.slice (some ⟨b, off, none⟩) N cap) h, .slice (some ⟨rg, 0, none⟩) n rc] w fun e w' => e = .returned (.tuple #[noHeap, .slice none 0 0, .bool false]) ∧ Below w.heap.size w w' := by
  obtain ⟨g1, g2, g3, g4, g5, g6, g7, g8, g9⟩ := h
  unfold heapV at *
  dsimp only at *
  obtain ⟨W0, hW0, hA, hR, k2⟩ := both_new w (.slice (some ⟨b, off, none⟩) N cap) ⟨g1, g2, g3, g4, g5, g6, g7, g8, g9⟩
  dsimp only at hW0
  have HW0 := hid hW0
  have HA := hid hA
  have HR := hid hR
  have HK2 := hid k2
  clear hW0 hA hR k2
  go_enter Try.func18, Try.ntmps18
  go_wp2_with fail
  rw [HW0.out]
  refine (HOk.out _ HK2.out).mono ?_
  rintro e W6 ⟨rfl, hb6⟩
  have HB6 := hid (HK2.out.trans (hb6.mono HK2.out.size))
  have HR6 := hid (HR.out.below hb6)
  have HA6 := hid (HA.out.below hb6)
  clear hb6 HW0 HA HR HK2 HOk
  obtain ⟨a0, a1, a2, a3, a4, a5, a6, a7, a8, a9⟩ := HA6.out.cells
  dsimp only at a0 a1 a2 a3 a4 a5 a6 a7 a8 a9
  obtain ⟨c0, c1, c2, c3, c4, c5, c6, c7, c8, c9⟩ := HR6.out.cells
  dsimp only at c0 c1 c2 c3 c4 c5 c6 c7 c8 c9
  have z0 := frozen_of_heap HR6.out 0
  have z1 := frozen_of_heap HR6.out 1
  have z2 := frozen_of_heap HR6.out 2
  have z3 := frozen_of_heap HR6.out 3
  have z4 := frozen_of_heap HR6.out 4
  have z5 := frozen_of_heap HR6.out 5
  have z6 := frozen_of_heap HR6.out 6
  have z7 := frozen_of_heap HR6.out 7
  have z8 := frozen_of_heap HR6.out 8
  have z9 := frozen_of_heap HR6.out 9
  go_wp2_with fail
  refine heap_use HR6.out (.slice none 0 0) ⟨0, 0, 0, 0, 0, 0, 0, 0, 0⟩ _ ?_
  intro W7 hL hb7 _ _
  obtain ⟨y0, y1, y2, y3, y4, y5, y6, y7, y8, y9⟩ := hL.cells
  dsimp only at y0 y1 y2 y3 y4 y5 y6 y7 y8 y9
  exact bodyPost_ret (v := .tuple #[noHeap, .slice none 0 0, .bool false]) (by simp [results, Try.results18, go_sem, y0, y1, y2, y3, y4, y5, y6, y7, y8, y9, noHeap, heapV]) rfl ⟨rfl, HB6.out.trans (hb7 _ (Nat.le_succ _))⟩

set_option maxHeartbeats 4000000 in
set_option maxRecDepth 100000 in
theorem sFlip_scan (b off cap N : Nat) (h : HpN) (rg n rc : Nat) (w : World)
    (hne : (h.scan != h.bottom) = true)
    (HOk : Hid (∀ X, Below w.heap.size w X → Calls Try.prog 35 #[heapV (.slice (some ⟨b, off, none⟩) N cap) h] X fun e w' => e = .returned (.bool true) ∧ Below X.heap.size X w')) :
    Calls Try.prog 18 #[heapV (.slice (some ⟨b, off, none⟩) N cap) h, .slice (some ⟨rg, 0, none⟩) n rc] w fun e w' => e = .returned (.tuple #[noHeap, .slice none 0 0, .bool false]) ∧ Below w.heap.size w w' := by
  obtain ⟨g1, g2, g3, g4, g5, g6, g7, g8, g9⟩ := h
  unfold heapV at *
  dsimp only at *
  obtain ⟨W0, hW0, hA, hR, k2⟩ := both_new w (.slice (some ⟨b, off, none⟩) N cap) ⟨g1, g2, g3, g4, g5, g6, g7, g8, g9⟩
  dsimp only at hW0
  have HW0 := hid hW0
  have HA := hid hA
  have HR := hid hR
  have HK2 := hid k2
  clear hW0 hA hR k2
  go_enter Try.func18, Try.ntmps18
  go_wp2_with fail
  rw [HW0.out]
  refine (HOk.out _ HK2.out).mono ?_
  rintro e W6 ⟨rfl, hb6⟩
  have HB6 := hid (HK2.out.trans (hb6.mono HK2.out.size))
  have HR6 := hid (HR.out.below hb6)
  have HA6 := hid (HA.out.below hb6)
  clear hb6 HW0 HA HR HK2 HOk
  obtain ⟨a0, a1, a2, a3, a4, a5, a6, a7, a8, a9⟩ := HA6.out.cells
  dsimp only at a0 a1 a2 a3 a4 a5 a6 a7 a8 a9
  obtain ⟨c0, c1, c2, c3, c4, c5, c6, c7, c8, c9⟩ := HR6.out.cells
  dsimp only at c0 c1 c2 c3 c4 c5 c6 c7 c8 c9
  have z0 := frozen_of_heap HR6.out 0
  have z1 := frozen_of_heap HR6.out 1
  have z2 := frozen_of_heap HR6.out 2
  have z3 := frozen_of_heap HR6.out 3
  have z4 := frozen_of_heap HR6.out 4
  have z5 := frozen_of_heap HR6.out 5
  have z6 := frozen_of_heap HR6.out 6
  have z7 := frozen_of_heap HR6.out 7
  have z8 := frozen_of_heap HR6.out 8
  have z9 := frozen_of_heap HR6.out 9
  go_wp2_with fail
  refine heap_use HR6.out (.slice none 0 0) ⟨0, 0, 0, 0, 0, 0, 0, 0, 0⟩ _ ?_
  intro W7 hL hb7 _ _
  obtain ⟨y0, y1, y2, y3, y4, y5, y6, y7, y8, y9⟩ := hL.cells
  dsimp only at y0 y1 y2 y3 y4 y5 y6 y7 y8 y9
  exact bodyPost_ret (v := .tuple #[noHeap, .slice none 0 0, .bool false]) (by simp [results, Try.results18, go_sem, y0, y1, y2, y3, y4, y5, y6, y7, y8, y9, noHeap, heapV]) rfl ⟨rfl, HB6.out.trans (hb7 _ (Nat.le_succ _))⟩

set_option maxHeartbeats 4000000 in
set_option maxRecDepth 100000 in
theorem sFlip_many (b off cap N : Nat) (h : HpN) (rg n rc : Nat) (w : World)
    (heq : (h.scan != h.bottom) = false) (hn : (20 : Int) < (n : Int))
    (HOk : Hid (∀ X, Below w.heap.size w X → Calls Try.prog 35 #[heapV (.slice (some ⟨b, off, none⟩) N cap) h] X fun e w' => e = .returned (.bool true) ∧ Below X.heap.size X w')) :
    Calls Try.prog 18 #[heapV (.slice (some ⟨b, off, none⟩) N cap) h, .slice (some ⟨rg, 0, none⟩) n rc] w fun e w' => e = .returned (.tuple #[noHeap, .slice none 0 0, .bool false]) ∧ Below w.heap.size w w' := by
  obtain ⟨g1, g2, g3, g4, g5, g6, g7, g8, g9⟩ := h
  unfold heapV at *
  dsimp only at *
  obtain ⟨W0, hW0, hA, hR, k2⟩ := both_new w (.slice (some ⟨b, off, none⟩) N cap) ⟨g1, g2, g3, g4, g5, g6, g7, g8, g9⟩
  dsimp only at hW0
  have HW0 := hid hW0
  have HA := hid hA
  have HR := hid hR
  have HK2 := hid k2
  clear hW0 hA hR k2
  go_enter Try.func18, Try.ntmps18
  go_wp2_with fail
  rw [HW0.out]
  refine (HOk.out _ HK2.out).mono ?_
  rintro e W6 ⟨rfl, hb6⟩
  have HB6 := hid (HK2.out.trans (hb6.mono HK2.out.size))
  have HR6 := hid (HR.out.below hb6)
  have HA6 := hid (HA.out.below hb6)
  clear hb6 HW0 HA HR HK2 HOk
  obtain ⟨a0, a1, a2, a3, a4, a5, a6, a7, a8, a9⟩ := HA6.out.cells
  dsimp only at a0 a1 a2 a3 a4 a5 a6 a7 a8 a9
  obtain ⟨c0, c1, c2, c3, c4, c5, c6, c7, c8, c9⟩ := HR6.out.cells
  dsimp only at c0 c1 c2 c3 c4 c5 c6 c7 c8 c9
  have z0 := frozen_of_heap HR6.out 0
  have z1 := frozen_of_heap HR6.out 1
  have z2 := frozen_of_heap HR6.out 2
  have z3 := frozen_of_heap HR6.out 3
  have z4 := frozen_of_heap HR6.out 4
  have z5 := frozen_of_heap HR6.out 5
  have z6 := frozen_of_heap HR6.out 6
  have z7 := frozen_of_heap HR6.out 7
  have z8 := frozen_of_heap HR6.out 8
  have z9 := frozen_of_heap HR6.out 9
  go_wp2_with fail
  refine heap_use HR6.out (.slice none 0 0) ⟨0, 0, 0, 0, 0, 0, 0, 0, 0⟩ _ ?_
  intro W7 hL hb7 _ _
  obtain ⟨y0, y1, y2, y3, y4, y5, y6, y7, y8, y9⟩ := hL.cells
  dsimp only at y0 y1 y2 y3 y4 y5 y6 y7 y8 y9
  exact bodyPost_ret (v := .tuple #[noHeap, .slice none 0 0, .bool false]) (by simp [results, Try.results18, go_sem, y0, y1, y2, y3, y4, y5, y6, y7, y8, y9, noHeap, heapV]) rfl ⟨rfl, HB6.out.trans (hb7 _ (Nat.le_succ _))⟩

set_option maxHeartbeats 4000000 in
set_option maxRecDepth 100000 in
theorem sFlip_noRoot (b off cap N : Nat) (h : HpN) (rg n rc : Nat) (w : World)
    (heq : (h.scan != h.bottom) = false) (hn : ¬ (20 : Int) < (n : Int))
    (HOk : Hid (∀ X, Below w.heap.size w X → Calls Try.prog 35 #[heapV (.slice (some ⟨b, off, none⟩) N cap) h] X fun e w' => e = .returned (.bool true) ∧ Below X.heap.size X w'))
    (HRt : Hid (∀ X, Below w.heap.size w X → Calls Try.prog 36 #[heapV (.slice (some ⟨b, off, none⟩) N cap) h, .slice (some ⟨rg, 0, none⟩) n rc] X fun e w' => e = .returned (.bool false) ∧ Below X.heap.size X w')) :
    Calls Try.prog 18 #[heapV (.slice (some ⟨b, off, none⟩) N cap) h, .slice (some ⟨rg, 0, none⟩) n rc] w fun e w' => e = .returned (.tuple #[noHeap, .slice none 0 0, .bool false]) ∧ Below w.heap.size w w' := by
  obtain ⟨g1, g2, g3, g4, g5, g6, g7, g8, g9⟩ := h
  unfold heapV at *
  dsimp only at *
  obtain ⟨W0, hW0, hA, hR, k2⟩ := both_new w (.slice (some ⟨b, off, none⟩) N cap) ⟨g1, g2, g3, g4, g5, g6, g7, g8, g9⟩
  dsimp only at hW0
  have HW0 := hid hW0
  have HA := hid hA
  have HR := hid hR
  have HK2 := hid k2
  clear hW0 hA hR k2
  go_enter Try.func18, Try.ntmps18
  go_wp2_with fail
  rw [HW0.out]
  refine (HOk.out _ HK2.out).mono ?_
  rintro e W6 ⟨rfl, hb6⟩
  have HB6 := hid (HK2.out.trans (hb6.mono HK2.out.size))
  have HR6 := hid (HR.out.below hb6)
  have HA6 := hid (HA.out.below hb6)
  clear hb6 HW0 HA HR HK2 HOk
  obtain ⟨a0, a1, a2, a3, a4, a5, a6, a7, a8, a9⟩ := HA6.out.cells
  dsimp only at a0 a1 a2 a3 a4 a5 a6 a7 a8 a9
  go_wp2_with fail
  refine (HRt.out _ HB6.out).mono ?_
  rintro e W7 ⟨rfl, hb7⟩
  have HB7 := hid (HB6.out.trans (hb7.mono HB6.out.size))
  have HR7 := hid (HR6.out.below hb7)
  have HA7 := hid (HA6.out.below hb7)
  clear hb7 HB6 HR6 HA6 HRt a0 a1 a2 a3 a4 a5 a6 a7 a8 a9
  obtain ⟨c0, c1, c2, c3, c4, c5, c6, c7, c8, c9⟩ := HR7.out.cells
  dsimp only at c0 c1 c2 c3 c4 c5 c6 c7 c8 c9
  have z0 := frozen_of_heap HR7.out 0
  have z1 := frozen_of_heap HR7.out 1
  have z2 := frozen_of_heap HR7.out 2
  have z3 := frozen_of_heap HR7.out 3
  have z4 := frozen_of_heap HR7.out 4
  have z5 := frozen_of_heap HR7.out 5
  have z6 := frozen_of_heap HR7.out 6
  have z7 := frozen_of_heap HR7.out 7
  have z8 := frozen_of_heap HR7.out 8
  have z9 := frozen_of_heap HR7.out 9
  go_wp2_with fail
  refine heap_use HR7.out (.slice none 0 0) ⟨0, 0, 0, 0, 0, 0, 0, 0, 0⟩ _ ?_
  intro W8 hL hb8 _ _
  obtain ⟨y0, y1, y2, y3, y4, y5, y6, y7, y8, y9⟩ := hL.cells
  dsimp only at y0 y1 y2 y3 y4 y5 y6 y7 y8 y9
  exact bodyPost_ret (v := .tuple #[noHeap, .slice none 0 0, .bool false]) (by simp [results, Try.results18, go_sem, y0, y1, y2, y3, y4, y5, y6, y7, y8, y9, noHeap, heapV]) rfl ⟨rfl, HB7.out.trans (hb8 _ (Nat.le_succ _))⟩

set_option maxHeartbeats 4000000 in
set_option maxRecDepth 100000 in
theorem sFlip_good (b off cap N : Nat) (h : HpN) (rg n rc : Nat) (w : World)
    (heq : (h.scan != h.bottom) = false) (hn : ¬ (20 : Int) < (n : Int)) (xs : List Int) (hl : xs.length = n) (hrg : 0 < n → rg < w.heap.size) (Hxs : Hid (∀ k, k < n → w.cell? ⟨rg, k, none⟩ = some (.int .i64 (xs.getD k 0)))) (s0 : CN) (o : Option (List Int × CN))
    (HOk : Hid (∀ X, Below w.heap.size w X → Calls Try.prog 35 #[heapV (.slice (some ⟨b, off, none⟩) N cap) h] X fun e w' => e = .returned (.bool true) ∧ Below X.heap.size X w'))
    (HRt : Hid (∀ X, Below w.heap.size w X → Calls Try.prog 36 #[heapV (.slice (some ⟨b, off, none⟩) N cap) h, .slice (some ⟨rg, 0, none⟩) n rc] X fun e w' => e = .returned (.bool true) ∧ Below X.heap.size X w'))
    (HOp : Hid (∀ X, Below w.heap.size w X → Calls Try.prog 46 #[heapV (.slice (some ⟨b, off, none⟩) N cap) h] X fun e w' => ∃ bm bw cap' : Nat, e = .returned (.pointer (some ⟨bm, 0, none⟩)) ∧ Wk X bm bw N cap' s0 false w' ∧ X.heap.size ≤ bm ∧ X.heap.size ≤ bw))
    (HFl : Hid (∀ (X w0 : World) (bm bw cap' g c : Nat), Wk w0 bm bw N cap' s0 false X → g ≠ bm → g ≠ bw → CellRow 3 X g n (intCells xs) → Calls Try.prog 49 #[.pointer (some ⟨bm, 0, none⟩), .slice (some ⟨g, 0, none⟩) n c] X (SMovesPost X bm bw N cap' g n o))) :
    Calls Try.prog 18 #[heapV (.slice (some ⟨b, off, none⟩) N cap) h, .slice (some ⟨rg, 0, none⟩) n rc] w (FlipTold N n w o) := by
  obtain ⟨g1, g2, g3, g4, g5, g6, g7, g8, g9⟩ := h
  unfold heapV at *
  dsimp only at *
  obtain ⟨W0, hW0, hA, hR, k2⟩ := both_new w (.slice (some ⟨b, off, none⟩) N cap) ⟨g1, g2, g3, g4, g5, g6, g7, g8, g9⟩
  dsimp only at hW0
  have HW0 := hid hW0
  have HA := hid hA
  have HR := hid hR
  have HK2 := hid k2
  clear hW0 hA hR k2
  go_enter Try.func18, Try.ntmps18
  go_wp2_with fail
  rw [HW0.out]
  refine (HOk.out _ HK2.out).mono ?_
  rintro e W6 ⟨rfl, hb6⟩
  have HB6 := hid (HK2.out.trans (hb6.mono HK2.out.size))
  have HR6 := hid (HR.out.below hb6)
  have HA6 := hid (HA.out.below hb6)
  clear hb6 HW0 HA HR HK2 HOk
  obtain ⟨a0, a1, a2, a3, a4, a5, a6, a7, a8, a9⟩ := HA6.out.cells
  dsimp only at a0 a1 a2 a3 a4 a5 a6 a7 a8 a9
  go_wp2_with fail
  refine (HRt.out _ HB6.out).mono ?_
  rintro e W7 ⟨rfl, hb7⟩
  have HB7 := hid (HB6.out.trans (hb7.mono HB6.out.size))
  have HR7 := hid (HR6.out.below hb7)
  have HA7 := hid (HA6.out.below hb7)
  clear hb7 HB6 HR6 HA6 HRt a0 a1 a2 a3 a4 a5 a6 a7 a8 a9
  obtain ⟨a0, a1, a2, a3, a4, a5, a6, a7, a8, a9⟩ := HA7.out.cells
  dsimp only at a0 a1 a2 a3 a4 a5 a6 a7 a8 a9
  go_wp2_with fail
  refine (HOp.out _ HB7.out).mono ?_
  rintro e W8 ⟨bm, bw, cap', rfl, hW8, hlo, hlo2⟩
  have HW8 := hid hW8
  have hlt7 := heap_lt HR7.out
  have hk8 := hW8.frame.below hlo hlo2
  have HB8 := hid (HB7.out.trans (hk8.mono HB7.out.size))
  have hbmlt := heap_lt hW8.blk
  have hbwlt := hW8.row.lt
  clear hW8 HOp HA7 a0 a1 a2 a3 a4 a5 a6 a7 a8 a9
  obtain ⟨i0, hi, hz0, hz1, hz2⟩ := info_parts info_int
  have hE : (W8.alloc (.cells #[] 3)).heap[W8.heap.size]? = some (.cells #[] 3) := (MapKept.heap_alloc W8 _).1
  have k9 := (Below.refl W8.heap.size W8).alloc (Nat.le_refl _) (.cells #[] 3)
  have hsz9 : (W8.alloc (.cells #[] 3)).heap.size = W8.heap.size + 1 := by simp
  have HE := hid hE
  have HK9 := hid k9
  have HS9 := hid hsz9
  clear hE k9 hsz9
  go_wp2_with (first
    | (at_builtin; refine wpList_append_own _ rfl _ _ 23 rfl W8.heap.size 3 i0 (.int .i64 0) 1 8 Try.underlying23 hi hz0 hz1 hz2 rfl (by decide) (.slice (some ⟨W8.heap.size, 0, none⟩) 0 0) 0 [] rfl ⟨rfl, Or.inr ⟨W8.heap.size, 0, #[], rfl, by omega, HE.out, by omega, by decide, rfl, rfl⟩⟩ ⟨rg, 0, none⟩ n rc (xs.map (fun x => Value.int .i64 x)) rfl (by simp [hl]) (fun j u hu => ?_) (fun u hu => ?_) (by unfold maxLen; omega) (by omega) (by rw [HS9.out]; omega) ?_))
  · rw [List.getElem?_map] at hu
    obtain ⟨x, hx, rfl⟩ := Option.map_eq_some_iff.1 hu
    have hj : j < n := by have := (List.getElem?_eq_some_iff.1 hx).1; omega
    have hkw := HB8.out.trans (HK9.out.mono HB8.out.size)
    have e := (hkw.cell (p := ⟨rg, j, none⟩) (hrg (by omega))).trans (Hxs.out j hj)
    rw [show xs.getD j 0 = x by simp [List.getD, hx]] at e
    have ea : (⟨rg, 0, none⟩ : Addr).add j = ⟨rg, j, none⟩ := by
      unfold Addr.add
      split
      · simp_all
      · simp
    rw [ea]
    exact e
  · simp only [List.mem_map] at hu
    obtain ⟨x, _, rfl⟩ := hu
    rfl
  · intro v' W9 hown hgrow hnil
    obtain ⟨-, hh | ⟨g, gc, cur, rfl, hg, hcur, hcp, hcm, hcs, htk⟩⟩ := id hown
    · exact absurd hh.1 (by simpa using hnil)
    obtain ⟨hrow, hlow⟩ := row_of_owns hl hown
    have hb9 : Below W8.heap.size W8 W9 := Below.grown HK9.out hgrow (by rw [HS9.out]; omega) (fun j hj => by simp [Value.ownBlock] at hj; omega)
    have HW9 := hid (HW8.out.keep hb9)
    have hgm : g ≠ bm := by omega
    have hgw : g ≠ bw := by omega
    have HRw := hid hrow
    have HFl' := hid (HFl.out _ _ _ _ _ _ gc HW9.out hgm hgw hrow)
    have HF9 := hid HW9.out.frame
    have hg7 : W7.heap.size ≤ g := by have := HW8.out.frame.size; omega
    clear hown hgrow hnil hcur hcp hcm hcs htk hrow hb9 HFl HW8 HE HK9 HS9 HB8 hbmlt hbwlt hk8 HW9
    go_wp2_with fail
    refine HFl'.out.mono ?_
    rintro e W10 ⟨rfl, hf, hP⟩
    have HP := hid hP
    have HF10 := hid hf
    clear hP hf HFl' HRw
    have KB : Hid (Below w.heap.size w W10 ∧ HeapBlk W10 (w.heap.size + 1) (.slice none 0 0) ⟨0, 0, 0, 0, 0, 0, 0, 0, 0⟩) := by
      obtain ⟨f1, f2, f3, f4, f5⟩ := HF10.out
      have e1 : Below W7.heap.size W7 W10 := ⟨f1.trans HF9.out.os, f2.trans HF9.out.tape, f3.trans HF9.out.output, Nat.le_trans HF9.out.size f4, fun c hc => (f5 c (Nat.lt_of_lt_of_le hc HF9.out.size) (by omega) (by omega) (by omega)).trans (HF9.out.block c hc (by omega) (by omega))⟩
      exact ⟨HB7.out.trans (e1.mono HB7.out.size), HR7.out.below e1⟩
    have hsz7 := HB7.out.size
    have HB10 := hid KB.out.1
    have HR10 := hid KB.out.2
    obtain ⟨c0, c1, c2, c3, c4, c5, c6, c7, c8, c9⟩ := HR10.out.cells
    dsimp only at c0 c1 c2 c3 c4 c5 c6 c7 c8 c9
    have z0 := frozen_of_heap HR10.out 0
    have z1 := frozen_of_heap HR10.out 1
    have z2 := frozen_of_heap HR10.out 2
    have z3 := frozen_of_heap HR10.out 3
    have z4 := frozen_of_heap HR10.out 4
    have z5 := frozen_of_heap HR10.out 5
    have z6 := frozen_of_heap HR10.out 6
    have z7 := frozen_of_heap HR10.out 7
    have z8 := frozen_of_heap HR10.out 8
    have z9 := frozen_of_heap HR10.out 9
    clear KB HF9 HF10 HB7 HR7
    cases o with
    | none =>
      obtain ⟨⟨s1, hc, -⟩, -⟩ := HP.out
      have d10 := hc.blk.cells.2.2.2.2.2.2.2.2.2.2
      clear hc HP
      go_wp2_with fail
      refine heap_use HR10.out (.slice none 0 0) ⟨0, 0, 0, 0, 0, 0, 0, 0, 0⟩ _ ?_
      intro W11 hL hb11 _ _
      obtain ⟨y0, y1, y2, y3, y4, y5, y6, y7, y8, y9⟩ := hL.cells
      dsimp only at y0 y1 y2 y3 y4 y5 y6 y7 y8 y9
      exact bodyPost_ret (v := .tuple #[noHeap, .slice none 0 0, .bool false]) (by simp [results, Try.results18, go_sem, y0, y1, y2, y3, y4, y5, y6, y7, y8, y9, noHeap, heapV]) rfl ⟨rfl, HB10.out.trans (hb11 _ (Nat.le_succ _))⟩
    | some p =>
      obtain ⟨ys, s1⟩ := p
      obtain ⟨hc, hry⟩ := HP.out
      have HW10 := hid hc
      have HRy := hid hry
      obtain ⟨d0, d1, d2, d3, d4, d5, d6, d7, d8, d9, d10⟩ := hc.blk.cells
      obtain ⟨tau, htau⟩ : ∃ tau, touchZ s1 = tau := ⟨_, rfl⟩
      rw [htau] at d9
      have HTau := hid htau
      clear htau hc hry HP
      go_wp2_with fail
      refine heap_use HR10.out (.slice (some ⟨bw, 0, none⟩) N cap') ⟨s1.h.size, s1.h.to, s1.h.bottom, s1.h.top, s1.h.scan, s1.h.fb, s1.h.ft, s1.h.flips, tau⟩ _ ?_
      intro W11 hL hb11 _ hoth
      obtain ⟨y0, y1, y2, y3, y4, y5, y6, y7, y8, y9⟩ := hL.cells
      dsimp only at y0 y1 y2 y3 y4 y5 y6 y7 y8 y9
      refine bodyPost_ret (v := .tuple #[heapV (.slice (some ⟨bw, 0, none⟩) N cap') ⟨s1.h.size, s1.h.to, s1.h.bottom, s1.h.top, s1.h.scan, s1.h.fb, s1.h.ft, s1.h.flips, tau⟩, .slice (some ⟨g, 0, none⟩) n gc, .bool true]) (by simp [results, Try.results18, go_sem, y0, y1, y2, y3, y4, y5, y6, y7, y8, y9, heapV]) rfl ?_
      exact ⟨bw, cap', g, gc, by rw [HTau.out], HW10.out.row.of_block (hoth _ (by omega)), HRy.out.of_block (hoth _ (by omega)), hgw, by omega, by omega, HB10.out.trans (hb11 _ (Nat.le_succ _))⟩

end Go.Proofs.Ytebpgglegnljgaa

namespace Go.Proofs.Ytebpgglegnljgaa
open Go.RowKit

def ToldF (W : World) (ans : List Int) (H : HpN) (ys : List Int) (ok : Bool) (e : Ending) (w' : World) : Prop :=
  (∃ v u, e = .returned (.tuple #[heapV v H, u, .bool ok]) ∧ SliceR 3 1 W.heap.size w' v ans.length (intCells ans) ∧ SliceR 3 1 W.heap.size w' u ys.length (intCells ys) ∧ (ans.length ≠ 0 → ys.length ≠ 0 → u.ownBlock ≠ v.ownBlock)) ∧ Below W.heap.size W w'

theorem toldF_none {W w' : World} {e : Ending} (h : e = .returned (.tuple #[noHeap, .slice none 0 0, .bool false]) ∧ Below W.heap.size W w') : ToldF W [] ⟨0, 0, 0, 0, 0, 0, 0, 0, 0⟩ [] false e w' :=
  ⟨⟨_, _, h.1, ⟨none, 0, rfl, Or.inl rfl⟩, ⟨none, 0, rfl, Or.inl rfl⟩, fun h => absurd rfl h⟩, h.2⟩

theorem toldF_some {N n : Nat} {W w' : World} {ys : List Int} {s : CN} {e : Ending} (hl : s.ws.length = N) (hn : ys.length = n) (h : FlipTold N n W (some (ys, s)) e w') : ToldF W s.ws { s.h with touched := touchZ s } ys true e w' := by
  obtain ⟨bw, cap, g, c, rfl, hr, hr2, hne, hlow, hlow2, hb⟩ := h
  subst hl
  subst hn
  exact ⟨⟨_, _, rfl, ⟨some ⟨bw, 0, none⟩, cap, rfl, Or.inr ⟨bw, rfl, hlow, by rw [Nat.mul_one]; exact hr⟩⟩, ⟨some ⟨g, 0, none⟩, c, rfl, Or.inr ⟨g, rfl, hlow2, by rw [Nat.mul_one]; exact hr2⟩⟩, fun _ _ => by simp [Value.ownBlock]; exact hne⟩, hb⟩

end Go.Proofs.Ytebpgglegnljgaa

namespace Go.Proofs.Ytebpgglegnljgaa
open Go.RowKit

set_option maxHeartbeats 1000000 in
set_option maxRecDepth 100000 in
theorem collectorOf_cap (b off cap N : Nat) (ws : List Int) (h : HpN) (w : World) (hN0 : 0 < N) (hl : ws.length = N) (hN : N ≤ 8000) (hb : b < w.heap.size)
    (hw : ∀ k, k < N → w.cell? ⟨b, off + k, none⟩ = some (.int .i64 (ws.getD k 0))) :
    Calls Try.prog 42 #[heapV (.slice (some ⟨b, off, none⟩) N cap) h] w fun e w' => ∃ bc bw cap' : Nat, e = .returned (.pointer (some ⟨bc, 0, none⟩)) ∧ (Col w bc bw N cap' ws h 0 0 w' ∧ N ≤ cap') ∧ w.heap.size ≤ bc ∧ w.heap.size ≤ bw := by
  have HCl := hid (fun (X : World) (hX : Below w.heap.size w X) => Try.slices_Clone_int b off N cap ws X (by omega) (by omega) (fun j hj => (hX.cell (p := ⟨b, off + j, none⟩) hb).trans (hw j (by omega))))
  clear hw
  obtain ⟨g1, g2, g3, g4, g5, g6, g7, g8, g9⟩ := h
  unfold heapV
  dsimp only
  go_enter Try.func42, Try.ntmps42
  go_wp2_with fail
  refine (HCl.out _ (by first | exact (Below.refl _ _).alloc (Nat.le_refl _) _ | exact ((Below.refl _ _).alloc (Nat.le_refl _) _).drew)).mono ?_
  rintro e W1 ⟨v', rfl, how, hv0, hb1⟩
  have hH : HeapBlk W1 w.heap.size (.slice (some ⟨b, off, none⟩) N cap) ⟨g1, g2, g3, g4, g5, g6, g7, g8, g9⟩ := (hb1.block w.heap.size (by simp)).trans ((MapKept.heap_alloc w _).1)
  obtain ⟨hxl, hh | ⟨g, cp, cur, rfl, hg, hcur, hcp, -, hcs, htk⟩⟩ := how
  · exact absurd hh.1 hv0
  have hbl : Below w.heap.size w W1 := one_below hb1
  obtain ⟨c0, c1, c2, c3, c4, c5, c6, c7, c8, c9⟩ := hH.cells
  dsimp only at c0 c1 c2 c3 c4 c5 c6 c7 c8 c9
  have f0 := frozen_of_heap hH 0
  have HB := hid hbl
  have HCur := hid hcur
  have HG : Hid (w.heap.size < g) := by have := hg; simp at this; exact this
  have HH := hid hH
  clear hb1 hbl hcur hg hH HCl hv0 hxl
  go_wp2_with fail
  go_ret
  have hrow : CellRow 3 W1 g N (intCells ws) := by
    refine ⟨cp, fun i => (cur[i]?).getD undef, ⟨cur, (0, 0), HCur.out, by omega, fun i hi => ?_, Or.inl rfl⟩, hcp, fun i hi => ?_⟩
    · have e := Array.getElem?_eq_getElem (xs := cur) (i := i) (by omega)
      dsimp only
      rw [e]
      rfl
    · have e : (cur.toList.take (N * 1))[i]? = (List.map (Value.int IntKind.i64) (List.take N ws))[i]? := by rw [htk]
      rw [Nat.mul_one, List.getElem?_take_of_lt hi, List.getElem?_map, List.getElem?_take_of_lt hi, Array.getElem?_toList, List.getElem?_eq_getElem (by omega)] at e
      dsimp only
      rw [e]
      simp [intCells, List.getD, hl, hi]
  have hs : (W1.setCell ⟨w.heap.size, 0, none⟩ (.slice (some ⟨g, 0, none⟩) N cp)).heap.size = W1.heap.size := by simp [World.setCell]
  have hgl := hrow.lt
  have hsz := HB.out.size
  refine ⟨W1.heap.size, g, cp, rfl, ⟨⟨?_, ?_, hl, by omega, Frm.of_below ((HB.out.setCell (Nat.le_refl _) _).alloc (by rw [hs]; exact hsz) _)⟩, hcp⟩, hsz, Nat.le_of_lt HG.out⟩
  · have e := (MapKept.heap_alloc (W1.setCell ⟨w.heap.size, 0, none⟩ (.slice (some ⟨g, 0, none⟩) N cp)) (.cells #[.slice (some ⟨g, 0, none⟩) N cp, .int .i64 g1, .int .i64 g2, .int .i64 g3, .int .i64 g4, .int .i64 g5, .int .i64 g6, .int .i64 g7, .int .i64 g8, .int .i64 g9, .int .i64 0, .int .i64 0] 102)).1
    rw [hs] at e
    exact e
  · refine hrow.of_block ?_
    have e1 := ((Below.refl (W1.setCell ⟨w.heap.size, 0, none⟩ (.slice (some ⟨g, 0, none⟩) N cp)).heap.size _).alloc (Nat.le_refl _) (.cells #[.slice (some ⟨g, 0, none⟩) N cp, .int .i64 g1, .int .i64 g2, .int .i64 g3, .int .i64 g4, .int .i64 g5, .int .i64 g6, .int .i64 g7, .int .i64 g8, .int .i64 g9, .int .i64 0, .int .i64 0] 102)).block g (by rw [hs]; exact hgl)
    exact e1.trans (Below.heap_setCell _ _ _ _ (by have := HG.out; dsimp only; omega))

end Go.Proofs.Ytebpgglegnljgaa
