/- The program's CodeDepths. -/
import Derived.Test.YtfmkgppkgmjpfaaDoorImplOk
import Derived.Test.YtfmkgppkgmjpfaaDoorCheckSt
import Derived.Test.YtfmkgppkgmjpfaaDoorStagesL
import Derived.Test.YtfmkgppkgmjpfaaDoorStagesG
namespace Go.Proofs.YtfmkgppkgmjpfaaDoor
open Go.RowKit

def depF (f : Sq → Int) (T : List Sq) (k i : Nat) : Value := if i < k then .int .i64 (f (tg T i)) else .int .i64 0

theorem info_intD : (Tryd.prog.info? 3).map (fun i => (i.zero, i.size, i.bytes)) = some (some (.int .i64 0), 1, 8) := by kernel_rfl

theorem made_row (n : Nat) (hn : n ≤ 1500) (w : World) : ∃ c : Array Value, c.size = n ∧ (∀ i, i < n → c[i]? = some (.int .i64 0)) ∧
    (Instr.makeSlice 29 (.int .i64 (n : Int)) (.int .i64 (n : Int))).run Tryd.prog w = .ok (.slice (some ⟨w.heap.size, 0, none⟩) n n) (w.alloc (.cells c 3)) := by
  obtain ⟨i0, hi, hz0, hz1, hz2⟩ := info_parts info_intD
  have h := run_make (P := Tryd.prog) w 29 3 i0 _ Tryd.underlying29 hi hz0 .i64 .i64 n n (by omega) (Int.le_refl _) (by rw [hz2]; omega) (by omega)
  rw [hz1] at h
  simp only [Int.toNat_natCast] at h
  refine ⟨_, ?_, fun i hi => ?_, h⟩
  · rw [size_madeCells]
    omega
  · simp [madeCells, Value.cells, hi, Nat.mod_one]

/-- What lies in memory ahead of a round. -/
structure Dp (w0 : World) (g gN gV N : Nat) (T : List Sq) (k : Nat) (X : World) : Prop where
  row : X.rowIs g 51 (3 * N) (spF T)
  nm : X.rowIs gN 3 N (depF envV T k)
  vl : X.rowIs gV 3 N (depF stkV T k)
  bel : Below w0.heap.size w0 X
  lo : w0.heap.size ≤ gN ∧ w0.heap.size ≤ gV
  ne : gN ≠ gV ∧ g ≠ gN ∧ g ≠ gV

theorem depF_step {f : Sq → Int} {T : List Sq} {k : Nat} {x : Int} (hx : x = f (tg T k)) (j : Nat) : (if j = k then Value.int .i64 x else depF f T k j) = depF f T (k + 1) j := by
  unfold depF
  by_cases h : j = k
  · subst h
    rw [if_pos rfl, if_pos (by omega), hx]
  · rw [if_neg h]
    by_cases h2 : j < k
    · rw [if_pos h2, if_pos (by omega)]
    · rw [if_neg h2, if_neg (by omega)]

theorem depF_twice {f : Sq → Int} {T : List Sq} {k : Nat} {x y : Int} (hx : x = f (tg T k)) (j : Nat) : (if j = k then Value.int .i64 x else if j = k then Value.int .i64 y else depF f T k j) = depF f T (k + 1) j := by
  by_cases h : j = k
  · rw [if_pos h, ← depF_step hx j, if_pos h]
  · rw [if_neg h, ← depF_step hx j, if_neg h, if_neg h]

def ImplDepthP (w : World) (is : List In) (e : Ending) (w' : World) : Prop :=
  Below w.heap.size w w' ∧ ((validZ is = false ∧ e = .returned (.tuple #[.slice none 0 0, .slice none 0 0, .bool false])) ∨
    (validZ is = true ∧ ∃ T gN gV, Whole is T ∧ e = .returned (.tuple #[.slice (some ⟨gN, 0, none⟩) is.length is.length, .slice (some ⟨gV, 0, none⟩) is.length is.length, .bool true]) ∧ w.heap.size ≤ gN ∧ w.heap.size ≤ gV ∧ gN ≠ gV ∧ w'.rowIs gN 3 is.length (depF envV T is.length) ∧ w'.rowIs gV 3 is.length (depF stkV T is.length)))

theorem spF_0 (T : List Sq) (k : Nat) : spF T (k * 3) = .int .i64 (tg T k).n := by
  unfold spF
  rw [show k * 3 / 3 = k by omega, show k * 3 % 3 = 0 by omega]
  rfl
theorem spF_1 (T : List Sq) (k : Nat) : spF T (k * 3 + 1) = .int .i64 (tg T k).v := by
  unfold spF
  rw [show (k * 3 + 1) / 3 = k by omega, show (k * 3 + 1) % 3 = 1 by omega]
  rfl
theorem spF_2 (T : List Sq) (k : Nat) : spF T (k * 3 + 2) = .int .i64 (tg T k).p := by
  unfold spF
  rw [show (k * 3 + 2) / 3 = k by omega, show (k * 3 + 2) % 3 = 2 by omega]
  rfl

set_option maxHeartbeats 8000000 in
set_option maxRecDepth 100000 in
theorem implDepths_any {ac : Option Addr} {cc : Nat} {is : List In} (w : World) (hL : LaidE w) (h : InsSlice w (.slice ac is.length cc) is) (hcc : is.length ≤ cc) :
    Calls Tryd.prog 11 #[.slice ac is.length cc] w (ImplDepthP w is) := by
  have HS := hid (spots_any w h hcc)
  have HL := hid hL
  obtain ⟨N, hN⟩ : ∃ N, is.length = N := ⟨_, rfl⟩
  have HN := hid hN
  rw [hN] at HS ⊢
  clear h hL hcc hN
  go_enter Tryd.func11, Tryd.ntmps11
  go_wp2_with fail
  refine HS.out.mono ?_
  rintro e W1 ⟨hb, ⟨hv, pb, rfl⟩ | ⟨hv, T, g, hw, rfl, hrow⟩⟩
  · have HI := hid (isBad_hit pb W1 (HL.out.stays hb))
    have HB := hid hb
    have HV := hid hv
    clear hb hv HS HL
    go_wp2_with fail
    refine HI.out.mono ?_
    rintro e W2 ⟨rfl, hb2⟩
    have HB2 := hid hb2
    clear hb2 HI
    go_wp2_with fail
    go_ret3
    exact ⟨HB.out.trans (HB2.out.mono HB.out.size), Or.inl ⟨HV.out, rfl⟩⟩
  have HI := hid (isBad_nil W1)
  have HB := hid hb
  have HV := hid (And.intro hv hw)
  have HR := hid hrow
  have HN15 : Hid (N ≤ 1500) := by
    show N ≤ 1500
    have hg := HV.out.1
    unfold validZ codeOkZ at hg
    rw [Bool.and_eq_true, Bool.and_eq_true] at hg
    have := of_decide_eq_true hg.1.1
    have := HN.out
    omega
  clear hb hv hw hrow HS HL
  rw [HN.out] at HR ⊢
  go_wp2_with fail
  refine HI.out.mono ?_
  rintro e W2 ⟨rfl, hb2⟩
  have HB2 := hid (HB.out.trans (hb2.mono HB.out.size))
  have HR2 := hid (HR.out.of_block (hb2.block _ HR.out.lt))
  clear hb2 HI HB HR
  go_wp2_with fail
  refine pick_begin (S := fun _ => True) (by kernel_rfl) rfl rfl ?_
  refine pick_op (i := 0) (v := .slice ac N cc) (by kernel_rfl) rfl (by kernel_rfl) (by kernel_rfl) rfl rfl (fun w' _ => by simp [go_sem]) trivial (by simp [go_sem]; exact rfl) ?_
  refine pick_op (i := 1) (v := .int .i64 (N : Int)) (by kernel_rfl) rfl (by kernel_rfl) (by kernel_rfl) rfl rfl (fun w' _ => by simp [go_sem]) trivial (by simp [go_sem]; exact rfl) ?_
  refine pick_op (i := 3) (v := .slice ac N cc) (by kernel_rfl) rfl (by kernel_rfl) (by kernel_rfl) rfl rfl (fun w' _ => by simp [go_sem]) trivial (by simp [go_sem]; exact rfl) ?_
  refine pick_op (i := 4) (v := .int .i64 (N : Int)) (by kernel_rfl) rfl (by kernel_rfl) (by kernel_rfl) rfl rfl (fun w' _ => by simp [go_sem]) trivial (by simp [go_sem]; exact rfl) ?_
  obtain ⟨c1, hs1, hz1, hm1⟩ := made_row N HN15.out W2.drew
  obtain ⟨c2, hs2, hz2, hm2⟩ := made_row N HN15.out ((W2.alloc (.cells c1 3)).drew)
  have hb1 := HB2.out.trans (((Below.refl W2.heap.size W2).drew).mono HB2.out.size)
  have hb2 := hb1.alloc hb1.size (.cells c1 3)
  have hb3 := hb2.alloc hb2.size (.cells c2 3)
  have t2 := two_new W2.drew (.cells c1 3) (.cells c2 3)
  have HX : Hid (((W2.drew.alloc (.cells c1 3)).alloc (.cells c2 3)).rowIs W2.heap.size 3 N (fun _ => .int .i64 0) ∧ ((W2.drew.alloc (.cells c1 3)).alloc (.cells c2 3)).rowIs (W2.heap.size + 1) 3 N (fun _ => .int .i64 0)) := ⟨⟨c1, t2.1, hs1, hz1⟩, ⟨c2, t2.2, hs2, hz2⟩⟩
  have HR3 := hid (((HR2.out.drew).alloc (.cells c1 3)).alloc (.cells c2 3))
  have HB3 := hid hb3
  have HLt : Hid (g < W2.heap.size ∧ w.heap.size ≤ W2.heap.size) := ⟨HR2.out.lt, HB2.out.size⟩
  clear hb1 hb2 hb3 t2 hs1 hz1 hs2 hz2
  refine pick_fork (i := 2) (j := 5) (by kernel_rfl) ?_ ?_
  · refine ⟨_, .slice (some ⟨W2.heap.size, 0, none⟩) N N, (W2.drew.alloc (.cells c1 3)), rfl, rfl, by simp [go_sem]; rw [hm1]; rfl, trivial, ?_⟩
    refine pick_frame (by simp [go_sem]; exact rfl) ?_
    refine pick_op (i := 6) (v := .slice (some ⟨W2.heap.size, 0, none⟩) N N) (by kernel_rfl) rfl (by kernel_rfl) (by kernel_rfl) rfl rfl (fun w' _ => by simp [go_sem]) trivial (by simp [go_sem]; exact rfl) ?_
    refine pick_make (i := 5) (v := .slice (some ⟨W2.heap.size + 1, 0, none⟩) N N) (w1 := ((W2.drew.alloc (.cells c1 3)).alloc (.cells c2 3))) rfl (by kernel_rfl) rfl rfl (by simp [go_sem]; rw [hm2]; simp; rfl) trivial (by simp [go_sem]; exact rfl) ?_
    refine pick_make (i := 7) (v := .slice (some ⟨W2.heap.size + 1, 0, none⟩) N N) (w1 := ((W2.drew.alloc (.cells c1 3)).alloc (.cells c2 3))) rfl (by kernel_rfl) rfl rfl (by simp [go_sem]) trivial (by simp [go_sem]; exact rfl) ?_
    refine pick_end (by kernel_rfl) ?_
    have HDp : Hid (Dp w g (W2.heap.size) (W2.heap.size + 1) N T 0 ((W2.drew.alloc (.cells c1 3)).alloc (.cells c2 3))) := ⟨HR3.out, HX.out.1.congr (fun i _ => rfl), HX.out.2.congr (fun i _ => rfl), HB3.out, ⟨by have := HLt.out; omega, by have := HLt.out; omega⟩, ⟨by omega, by have := HLt.out; omega, by have := HLt.out; omega⟩⟩
    obtain ⟨X, hX⟩ : ∃ X, ((W2.drew.alloc (.cells c1 3)).alloc (.cells c2 3)) = X := ⟨_, rfl⟩
    rw [hX] at HDp ⊢
    clear hX HX HR3 HB3 hm1 hm2 HR2 HB2 HLt
    generalize hgV : W2.heap.size + 1 = gV at HDp ⊢
    clear hgV
    generalize W2.heap.size = gN at HDp ⊢
    go_wp2_with fail
    have hd0 := HDp.out
    go_loopw [26] (fun i wr => ∃ k : Nat, k ≤ N ∧ i = .int .i64 k ∧ Hid (Dp w g gN gV N T k wr)) (fun i _ => N - (intOf i).toNat)
    case atStart => exact ⟨0, Nat.zero_le _, rfl, HDp.out⟩
    case round =>
      obtain ⟨k, hk, rfl, HD⟩ := hrel
      clear HDp hd0
      by_cases hkl : (k : Int) < (N : Int)
      · have f0 := HD.out.row.cell (i := k * 3) (by omega)
        have f1 := HD.out.row.cell (i := k * 3 + 1) (by omega)
        have f2 := HD.out.row.cell (i := k * 3 + 2) (by omega)
        rw [spF_0] at f0
        rw [spF_1] at f1
        rw [spF_2] at f2
        have hi0 : (0 : Int) ≤ (k : Int) := by omega
        obtain ⟨s, hs⟩ : ∃ s, tg T k = s := ⟨_, rfl⟩
        rw [hs] at f0 f1 f2
        have HSq := hid hs
        clear hs
        go_wp2_with fail
        clear f0 f1 f2
        have hA := MapKept.heap_alloc wr (.cells #[.int .i64 s.n, .int .i64 s.v, .int .i64 s.p] 51)
        have HDa : Hid (Dp w g gN gV N T k (wr.alloc (.cells #[.int .i64 s.n, .int .i64 s.v, .int .i64 s.p] 51))) := ⟨HD.out.row.alloc _, HD.out.nm.alloc _, HD.out.vl.alloc _, HD.out.bel.alloc HD.out.bel.size _, HD.out.lo, HD.out.ne⟩
        have HNe : Hid (wr.heap.size ≠ gN ∧ wr.heap.size ≠ gV) := ⟨by have := HD.out.nm.lt; omega, by have := HD.out.vl.lt; omega⟩
        generalize wr.alloc (.cells #[.int .i64 s.n, .int .i64 s.v, .int .i64 s.p] 51) = Y at hA HDa ⊢
        generalize wr.heap.size = b at hA HNe ⊢
        have HBk := hid hA.1
        have e0 := cell_of_heap hA.1 0
        have e1 := cell_of_heap hA.1 1
        simp at e0 e1
        clear hA HD
        refine pick_begin (S := fun w' => w'.cell? ⟨b, 0, none⟩ = some (.int .i64 s.n) ∧ w'.cell? ⟨b, 1, none⟩ = some (.int .i64 s.v)) (by kernel_rfl) rfl rfl ?_
        have hS0 : (Y.drew).cell? ⟨b, 0, none⟩ = some (.int .i64 s.n) ∧ (Y.drew).cell? ⟨b, 1, none⟩ = some (.int .i64 s.v) := ⟨e0, e1⟩
        refine pick_op (i := 0) (v := .slice (some ⟨gN, 0, none⟩) N N) (by kernel_rfl) rfl (by kernel_rfl) (by kernel_rfl) rfl rfl (fun w' h => by simp [go_sem]) hS0 (by simp [go_sem]; exact rfl) ?_
        refine pick_op (i := 1) (v := .int .i64 (k : Int)) (by kernel_rfl) rfl (by kernel_rfl) (by kernel_rfl) rfl rfl (fun w' h => by simp [go_sem]) hS0 (by simp [go_sem]; exact rfl) ?_
        refine pick_op (i := 2) (v := .slice (some ⟨gV, 0, none⟩) N N) (by kernel_rfl) rfl (by kernel_rfl) (by kernel_rfl) rfl rfl (fun w' h => by simp [go_sem]) hS0 (by simp [go_sem]; exact rfl) ?_
        refine pick_op (i := 3) (v := .int .i64 (k : Int)) (by kernel_rfl) rfl (by kernel_rfl) (by kernel_rfl) rfl rfl (fun w' h => by simp [go_sem]) hS0 (by simp [go_sem]; exact rfl) ?_
        refine pick_op (i := 4) (v := .pointer (some ⟨b, 0, none⟩)) (by kernel_rfl) rfl (by kernel_rfl) (by kernel_rfl) rfl rfl (fun w' h => by simp [go_sem]) hS0 (by simp [go_sem]; exact rfl) ?_
        refine pick_op (i := 5) (v := .int .i64 s.n) (by kernel_rfl) rfl (by kernel_rfl) (by kernel_rfl) rfl rfl (fun w' h => by simp [go_sem, h.1]) hS0 (by simp [go_sem]; exact rfl) ?_
        refine pick_op (i := 6) (v := .pointer (some ⟨b, 1, none⟩)) (by kernel_rfl) rfl (by kernel_rfl) (by kernel_rfl) rfl rfl (fun w' h => by simp [go_sem]) hS0 (by simp [go_sem]; exact rfl) ?_
        refine pick_op (i := 7) (v := .int .i64 s.v) (by kernel_rfl) rfl (by kernel_rfl) (by kernel_rfl) rfl rfl (fun w' h => by simp [go_sem, h.2]) hS0 (by simp [go_sem]; exact rfl) ?_
        refine pick_op (i := 8) (v := .pointer (some ⟨gN, k, none⟩)) (by kernel_rfl) rfl (by kernel_rfl) (by kernel_rfl) rfl rfl (fun w' h => by simp [go_sem, hi0, hkl]) hS0 (by simp [go_sem]; exact rfl) ?_
        have hn0 := HDa.out.nm.cell (i := k) (by omega)
        have hn1 := HDa.out.nm.frozen k
        have HY1 := hid (HDa.out.nm.drew.set k (.int .i64 s.n))
        have q0 : ((Y.drew).setCell ⟨gN, k, none⟩ (.int .i64 s.n)).cell? ⟨b, 0, none⟩ = some (.int .i64 s.n) ∧ ((Y.drew).setCell ⟨gN, k, none⟩ (.int .i64 s.n)).cell? ⟨b, 1, none⟩ = some (.int .i64 s.v) := by
          have hb := Below.heap_setCell Y.drew ⟨gN, k, none⟩ (.int .i64 s.n) b HNe.out.1
          exact ⟨by rw [← e0]; unfold World.cell?; simp only [hb]; rfl, by rw [← e1]; unfold World.cell?; simp only [hb]; rfl⟩
        refine pick_skip (i := 9) (w1 := (Y.drew).setCell ⟨gN, k, none⟩ (.int .i64 s.n)) (by exact rfl) rfl (by kernel_rfl) rfl rfl (by simp [go_sem, hn0, hn1]; try rfl) q0 ?_
        refine pick_make (i := 10) (v := .pointer (some ⟨gV, k, none⟩)) (w1 := (Y.drew).setCell ⟨gN, k, none⟩ (.int .i64 s.n)) rfl (by kernel_rfl) rfl rfl (by simp [go_sem, hi0, hkl]) q0 (by simp [go_sem]; exact rfl) ?_
        have HV1 := hid (HDa.out.vl.drew.setOther (a := ⟨gN, k, none⟩) (Ne.symm HDa.out.ne.1) (.int .i64 s.n))
        have hv0 : (Y.setCell ⟨gN, k, none⟩ (.int .i64 s.n)).cell? ⟨gV, k, none⟩ = some _ := HV1.out.cell (i := k) (by omega)
        have hv1 : Y.frozen? ⟨gV, k, none⟩ = false := HDa.out.vl.frozen k
        have q1 : (((Y.drew).setCell ⟨gN, k, none⟩ (.int .i64 s.n)).setCell ⟨gV, k, none⟩ (.int .i64 s.v)).cell? ⟨b, 0, none⟩ = some (.int .i64 s.n) ∧ (((Y.drew).setCell ⟨gN, k, none⟩ (.int .i64 s.n)).setCell ⟨gV, k, none⟩ (.int .i64 s.v)).cell? ⟨b, 1, none⟩ = some (.int .i64 s.v) := by
          have hb := Below.heap_setCell ((Y.drew).setCell ⟨gN, k, none⟩ (.int .i64 s.n)) ⟨gV, k, none⟩ (.int .i64 s.v) b HNe.out.2
          refine ⟨?_, ?_⟩
          · rw [← q0.1]
            unfold World.cell?
            simp only [hb]
          · rw [← q0.2]
            unfold World.cell?
            simp only [hb]
        refine pick_skip (i := 11) (w1 := ((Y.drew).setCell ⟨gN, k, none⟩ (.int .i64 s.n)).setCell ⟨gV, k, none⟩ (.int .i64 s.v)) (by exact rfl) rfl (by kernel_rfl) rfl rfl (by simp [go_sem, hv0, hv1]; try rfl) q1 ?_
        refine pick_end (by kernel_rfl) ?_
        have HZb : Hid ((((Y.drew).setCell ⟨gN, k, none⟩ (.int .i64 s.n)).setCell ⟨gV, k, none⟩ (.int .i64 s.v)).heap[b]? = _) := (Below.heap_setCell _ ⟨gV, k, none⟩ _ b HNe.out.2).trans ((Below.heap_setCell Y.drew ⟨gN, k, none⟩ _ b HNe.out.1).trans HBk.out)
        have HZn := hid (HY1.out.setOther (a := ⟨gV, k, none⟩) HDa.out.ne.1 (.int .i64 s.v))
        have HZv := hid (HV1.out.set k (.int .i64 s.v))
        have HZg := hid ((HDa.out.row.drew.setOther (a := ⟨gN, k, none⟩) HDa.out.ne.2.1 (.int .i64 s.n)).setOther (a := ⟨gV, k, none⟩) HDa.out.ne.2.2 (.int .i64 s.v))
        have HZl := hid (And.intro HDa.out.lo HDa.out.ne)
        have HZw := hid (below_setAt (below_setAt HDa.out.bel.drew ⟨gN, k, none⟩ (.int .i64 s.n) HDa.out.lo.1) ⟨gV, k, none⟩ (.int .i64 s.v) HDa.out.lo.2)
        generalize ((Y.drew).setCell ⟨gN, k, none⟩ (.int .i64 s.n)).setCell ⟨gV, k, none⟩ (.int .i64 s.v) = Z at HZb HZn HZv HZg HZw ⊢
        clear q0 q1 hv0 hv1 HV1 HY1 hn0 hn1 hS0 e0 e1 HDa HBk HNe
        have e2 := cell_of_heap HZb.out 2
        simp at e2
        by_cases hp : s.p = 0
        · rw [hp] at e2
          have z0 := HZn.out.cell (i := k) (by omega)
          have z1 := HZn.out.frozen k
          have z2 := (HZv.out.setOther (a := ⟨gN, k, none⟩) (Ne.symm HZl.out.2.1) (.int .i64 (-1))).cell (i := k) (by omega)
          have z3 := HZv.out.frozen k
          go_wp2_with fail
          rw [wrap_inc (n := N) (by omega) (by have := HN15.out; omega)]
          refine ⟨⟨k + 1, by omega, rfl, ?_⟩, by simp only [intOf, Int.toNat_natCast]; omega⟩
          show Dp _ _ _ _ _ _ _ _
          have hl := HZl.out
          exact ⟨(HZg.out.setOther (a := ⟨gN, k, none⟩) hl.2.2.1 _).setOther (a := ⟨gV, k, none⟩) hl.2.2.2 _,
            ((HZn.out.set k _).setOther (a := ⟨gV, k, none⟩) hl.2.1 _).congr (fun j _ => depF_twice (f := envV) (by rw [HSq.out]; unfold envV; rw [if_pos hp]) j),
            ((HZv.out.setOther (a := ⟨gN, k, none⟩) (Ne.symm hl.2.1) _).set k _).congr (fun j _ => depF_twice (f := stkV) (by rw [HSq.out]; unfold stkV; rw [if_pos hp]) j),
            below_setAt (below_setAt HZw.out ⟨gN, k, none⟩ _ hl.1.1) ⟨gV, k, none⟩ _ hl.1.2, hl.1, hl.2⟩
        · have hp2 : (s.p == 0) = false := by simpa using hp
          go_wp2_with fail
          rw [wrap_inc (n := N) (by omega) (by have := HN15.out; omega)]
          refine ⟨⟨k + 1, by omega, rfl, ?_⟩, by simp only [intOf, Int.toNat_natCast]; omega⟩
          show Dp _ _ _ _ _ _ _ _
          have hl := HZl.out
          exact ⟨HZg.out, HZn.out.congr (fun j _ => depF_step (f := envV) (by rw [HSq.out]; unfold envV; rw [if_neg hp]) j), HZv.out.congr (fun j _ => depF_step (f := stkV) (by rw [HSq.out]; unfold stkV; rw [if_neg hp]) j), HZw.out, hl.1, hl.2⟩
      · go_wp2_with fail
        go_ret3
        obtain rfl : k = N := by omega
        exact ⟨HD.out.bel, Or.inr ⟨HV.out.1, T, gN, gV, HV.out.2, by rw [HN.out]; rfl, HD.out.lo.1, HD.out.lo.2, HD.out.ne.1, by rw [HN.out]; exact HD.out.nm, by rw [HN.out]; exact HD.out.vl⟩⟩
  · refine ⟨_, .slice (some ⟨W2.heap.size, 0, none⟩) N N, (W2.drew.alloc (.cells c1 3)), rfl, rfl, by simp [go_sem]; rw [hm1]; rfl, trivial, ?_⟩
    refine pick_frame (by simp [go_sem]; exact rfl) ?_
    refine pick_make (i := 2) (v := .slice (some ⟨W2.heap.size + 1, 0, none⟩) N N) (w1 := ((W2.drew.alloc (.cells c1 3)).alloc (.cells c2 3))) rfl (by kernel_rfl) rfl rfl (by simp [go_sem]; rw [hm2]; simp; rfl) trivial (by simp [go_sem]; exact rfl) ?_
    refine pick_make (i := 6) (v := .slice (some ⟨W2.heap.size + 1, 0, none⟩) N N) (w1 := ((W2.drew.alloc (.cells c1 3)).alloc (.cells c2 3))) rfl (by kernel_rfl) rfl rfl (by simp [go_sem]) trivial (by simp [go_sem]; exact rfl) ?_
    refine pick_make (i := 7) (v := .slice (some ⟨W2.heap.size, 0, none⟩) N N) (w1 := ((W2.drew.alloc (.cells c1 3)).alloc (.cells c2 3))) rfl (by kernel_rfl) rfl rfl (by simp [go_sem]) trivial (by simp [go_sem]; exact rfl) ?_
    refine pick_end (by kernel_rfl) ?_
    have HDp : Hid (Dp w g (W2.heap.size + 1) (W2.heap.size) N T 0 ((W2.drew.alloc (.cells c1 3)).alloc (.cells c2 3))) := ⟨HR3.out, HX.out.2.congr (fun i _ => rfl), HX.out.1.congr (fun i _ => rfl), HB3.out, ⟨by have := HLt.out; omega, by have := HLt.out; omega⟩, ⟨by omega, by have := HLt.out; omega, by have := HLt.out; omega⟩⟩
    obtain ⟨X, hX⟩ : ∃ X, ((W2.drew.alloc (.cells c1 3)).alloc (.cells c2 3)) = X := ⟨_, rfl⟩
    rw [hX] at HDp ⊢
    clear hX HX HR3 HB3 hm1 hm2 HR2 HB2 HLt
    generalize hgN : W2.heap.size + 1 = gN at HDp ⊢
    clear hgN
    generalize W2.heap.size = gV at HDp ⊢
    go_wp2_with fail
    have hd0 := HDp.out
    go_loopw [26] (fun i wr => ∃ k : Nat, k ≤ N ∧ i = .int .i64 k ∧ Hid (Dp w g gN gV N T k wr)) (fun i _ => N - (intOf i).toNat)
    case atStart => exact ⟨0, Nat.zero_le _, rfl, HDp.out⟩
    case round =>
      obtain ⟨k, hk, rfl, HD⟩ := hrel
      clear HDp hd0
      by_cases hkl : (k : Int) < (N : Int)
      · have f0 := HD.out.row.cell (i := k * 3) (by omega)
        have f1 := HD.out.row.cell (i := k * 3 + 1) (by omega)
        have f2 := HD.out.row.cell (i := k * 3 + 2) (by omega)
        rw [spF_0] at f0
        rw [spF_1] at f1
        rw [spF_2] at f2
        have hi0 : (0 : Int) ≤ (k : Int) := by omega
        obtain ⟨s, hs⟩ : ∃ s, tg T k = s := ⟨_, rfl⟩
        rw [hs] at f0 f1 f2
        have HSq := hid hs
        clear hs
        go_wp2_with fail
        clear f0 f1 f2
        have hA := MapKept.heap_alloc wr (.cells #[.int .i64 s.n, .int .i64 s.v, .int .i64 s.p] 51)
        have HDa : Hid (Dp w g gN gV N T k (wr.alloc (.cells #[.int .i64 s.n, .int .i64 s.v, .int .i64 s.p] 51))) := ⟨HD.out.row.alloc _, HD.out.nm.alloc _, HD.out.vl.alloc _, HD.out.bel.alloc HD.out.bel.size _, HD.out.lo, HD.out.ne⟩
        have HNe : Hid (wr.heap.size ≠ gN ∧ wr.heap.size ≠ gV) := ⟨by have := HD.out.nm.lt; omega, by have := HD.out.vl.lt; omega⟩
        generalize wr.alloc (.cells #[.int .i64 s.n, .int .i64 s.v, .int .i64 s.p] 51) = Y at hA HDa ⊢
        generalize wr.heap.size = b at hA HNe ⊢
        have HBk := hid hA.1
        have e0 := cell_of_heap hA.1 0
        have e1 := cell_of_heap hA.1 1
        simp at e0 e1
        clear hA HD
        refine pick_begin (S := fun w' => w'.cell? ⟨b, 0, none⟩ = some (.int .i64 s.n) ∧ w'.cell? ⟨b, 1, none⟩ = some (.int .i64 s.v)) (by kernel_rfl) rfl rfl ?_
        have hS0 : (Y.drew).cell? ⟨b, 0, none⟩ = some (.int .i64 s.n) ∧ (Y.drew).cell? ⟨b, 1, none⟩ = some (.int .i64 s.v) := ⟨e0, e1⟩
        refine pick_op (i := 0) (v := .slice (some ⟨gN, 0, none⟩) N N) (by kernel_rfl) rfl (by kernel_rfl) (by kernel_rfl) rfl rfl (fun w' h => by simp [go_sem]) hS0 (by simp [go_sem]; exact rfl) ?_
        refine pick_op (i := 1) (v := .int .i64 (k : Int)) (by kernel_rfl) rfl (by kernel_rfl) (by kernel_rfl) rfl rfl (fun w' h => by simp [go_sem]) hS0 (by simp [go_sem]; exact rfl) ?_
        refine pick_op (i := 2) (v := .slice (some ⟨gV, 0, none⟩) N N) (by kernel_rfl) rfl (by kernel_rfl) (by kernel_rfl) rfl rfl (fun w' h => by simp [go_sem]) hS0 (by simp [go_sem]; exact rfl) ?_
        refine pick_op (i := 3) (v := .int .i64 (k : Int)) (by kernel_rfl) rfl (by kernel_rfl) (by kernel_rfl) rfl rfl (fun w' h => by simp [go_sem]) hS0 (by simp [go_sem]; exact rfl) ?_
        refine pick_op (i := 4) (v := .pointer (some ⟨b, 0, none⟩)) (by kernel_rfl) rfl (by kernel_rfl) (by kernel_rfl) rfl rfl (fun w' h => by simp [go_sem]) hS0 (by simp [go_sem]; exact rfl) ?_
        refine pick_op (i := 5) (v := .int .i64 s.n) (by kernel_rfl) rfl (by kernel_rfl) (by kernel_rfl) rfl rfl (fun w' h => by simp [go_sem, h.1]) hS0 (by simp [go_sem]; exact rfl) ?_
        refine pick_op (i := 6) (v := .pointer (some ⟨b, 1, none⟩)) (by kernel_rfl) rfl (by kernel_rfl) (by kernel_rfl) rfl rfl (fun w' h => by simp [go_sem]) hS0 (by simp [go_sem]; exact rfl) ?_
        refine pick_op (i := 7) (v := .int .i64 s.v) (by kernel_rfl) rfl (by kernel_rfl) (by kernel_rfl) rfl rfl (fun w' h => by simp [go_sem, h.2]) hS0 (by simp [go_sem]; exact rfl) ?_
        refine pick_op (i := 8) (v := .pointer (some ⟨gN, k, none⟩)) (by kernel_rfl) rfl (by kernel_rfl) (by kernel_rfl) rfl rfl (fun w' h => by simp [go_sem, hi0, hkl]) hS0 (by simp [go_sem]; exact rfl) ?_
        have hn0 := HDa.out.nm.cell (i := k) (by omega)
        have hn1 := HDa.out.nm.frozen k
        have HY1 := hid (HDa.out.nm.drew.set k (.int .i64 s.n))
        have q0 : ((Y.drew).setCell ⟨gN, k, none⟩ (.int .i64 s.n)).cell? ⟨b, 0, none⟩ = some (.int .i64 s.n) ∧ ((Y.drew).setCell ⟨gN, k, none⟩ (.int .i64 s.n)).cell? ⟨b, 1, none⟩ = some (.int .i64 s.v) := by
          have hb := Below.heap_setCell Y.drew ⟨gN, k, none⟩ (.int .i64 s.n) b HNe.out.1
          exact ⟨by rw [← e0]; unfold World.cell?; simp only [hb]; rfl, by rw [← e1]; unfold World.cell?; simp only [hb]; rfl⟩
        refine pick_skip (i := 9) (w1 := (Y.drew).setCell ⟨gN, k, none⟩ (.int .i64 s.n)) (by exact rfl) rfl (by kernel_rfl) rfl rfl (by simp [go_sem, hn0, hn1]; try rfl) q0 ?_
        refine pick_make (i := 10) (v := .pointer (some ⟨gV, k, none⟩)) (w1 := (Y.drew).setCell ⟨gN, k, none⟩ (.int .i64 s.n)) rfl (by kernel_rfl) rfl rfl (by simp [go_sem, hi0, hkl]) q0 (by simp [go_sem]; exact rfl) ?_
        have HV1 := hid (HDa.out.vl.drew.setOther (a := ⟨gN, k, none⟩) (Ne.symm HDa.out.ne.1) (.int .i64 s.n))
        have hv0 : (Y.setCell ⟨gN, k, none⟩ (.int .i64 s.n)).cell? ⟨gV, k, none⟩ = some _ := HV1.out.cell (i := k) (by omega)
        have hv1 : Y.frozen? ⟨gV, k, none⟩ = false := HDa.out.vl.frozen k
        have q1 : (((Y.drew).setCell ⟨gN, k, none⟩ (.int .i64 s.n)).setCell ⟨gV, k, none⟩ (.int .i64 s.v)).cell? ⟨b, 0, none⟩ = some (.int .i64 s.n) ∧ (((Y.drew).setCell ⟨gN, k, none⟩ (.int .i64 s.n)).setCell ⟨gV, k, none⟩ (.int .i64 s.v)).cell? ⟨b, 1, none⟩ = some (.int .i64 s.v) := by
          have hb := Below.heap_setCell ((Y.drew).setCell ⟨gN, k, none⟩ (.int .i64 s.n)) ⟨gV, k, none⟩ (.int .i64 s.v) b HNe.out.2
          refine ⟨?_, ?_⟩
          · rw [← q0.1]
            unfold World.cell?
            simp only [hb]
          · rw [← q0.2]
            unfold World.cell?
            simp only [hb]
        refine pick_skip (i := 11) (w1 := ((Y.drew).setCell ⟨gN, k, none⟩ (.int .i64 s.n)).setCell ⟨gV, k, none⟩ (.int .i64 s.v)) (by exact rfl) rfl (by kernel_rfl) rfl rfl (by simp [go_sem, hv0, hv1]; try rfl) q1 ?_
        refine pick_end (by kernel_rfl) ?_
        have HZb : Hid ((((Y.drew).setCell ⟨gN, k, none⟩ (.int .i64 s.n)).setCell ⟨gV, k, none⟩ (.int .i64 s.v)).heap[b]? = _) := (Below.heap_setCell _ ⟨gV, k, none⟩ _ b HNe.out.2).trans ((Below.heap_setCell Y.drew ⟨gN, k, none⟩ _ b HNe.out.1).trans HBk.out)
        have HZn := hid (HY1.out.setOther (a := ⟨gV, k, none⟩) HDa.out.ne.1 (.int .i64 s.v))
        have HZv := hid (HV1.out.set k (.int .i64 s.v))
        have HZg := hid ((HDa.out.row.drew.setOther (a := ⟨gN, k, none⟩) HDa.out.ne.2.1 (.int .i64 s.n)).setOther (a := ⟨gV, k, none⟩) HDa.out.ne.2.2 (.int .i64 s.v))
        have HZl := hid (And.intro HDa.out.lo HDa.out.ne)
        have HZw := hid (below_setAt (below_setAt HDa.out.bel.drew ⟨gN, k, none⟩ (.int .i64 s.n) HDa.out.lo.1) ⟨gV, k, none⟩ (.int .i64 s.v) HDa.out.lo.2)
        generalize ((Y.drew).setCell ⟨gN, k, none⟩ (.int .i64 s.n)).setCell ⟨gV, k, none⟩ (.int .i64 s.v) = Z at HZb HZn HZv HZg HZw ⊢
        clear q0 q1 hv0 hv1 HV1 HY1 hn0 hn1 hS0 e0 e1 HDa HBk HNe
        have e2 := cell_of_heap HZb.out 2
        simp at e2
        by_cases hp : s.p = 0
        · rw [hp] at e2
          have z0 := HZn.out.cell (i := k) (by omega)
          have z1 := HZn.out.frozen k
          have z2 := (HZv.out.setOther (a := ⟨gN, k, none⟩) (Ne.symm HZl.out.2.1) (.int .i64 (-1))).cell (i := k) (by omega)
          have z3 := HZv.out.frozen k
          go_wp2_with fail
          rw [wrap_inc (n := N) (by omega) (by have := HN15.out; omega)]
          refine ⟨⟨k + 1, by omega, rfl, ?_⟩, by simp only [intOf, Int.toNat_natCast]; omega⟩
          show Dp _ _ _ _ _ _ _ _
          have hl := HZl.out
          exact ⟨(HZg.out.setOther (a := ⟨gN, k, none⟩) hl.2.2.1 _).setOther (a := ⟨gV, k, none⟩) hl.2.2.2 _,
            ((HZn.out.set k _).setOther (a := ⟨gV, k, none⟩) hl.2.1 _).congr (fun j _ => depF_twice (f := envV) (by rw [HSq.out]; unfold envV; rw [if_pos hp]) j),
            ((HZv.out.setOther (a := ⟨gN, k, none⟩) (Ne.symm hl.2.1) _).set k _).congr (fun j _ => depF_twice (f := stkV) (by rw [HSq.out]; unfold stkV; rw [if_pos hp]) j),
            below_setAt (below_setAt HZw.out ⟨gN, k, none⟩ _ hl.1.1) ⟨gV, k, none⟩ _ hl.1.2, hl.1, hl.2⟩
        · have hp2 : (s.p == 0) = false := by simpa using hp
          go_wp2_with fail
          rw [wrap_inc (n := N) (by omega) (by have := HN15.out; omega)]
          refine ⟨⟨k + 1, by omega, rfl, ?_⟩, by simp only [intOf, Int.toNat_natCast]; omega⟩
          show Dp _ _ _ _ _ _ _ _
          have hl := HZl.out
          exact ⟨HZg.out, HZn.out.congr (fun j _ => depF_step (f := envV) (by rw [HSq.out]; unfold envV; rw [if_neg hp]) j), HZv.out.congr (fun j _ => depF_step (f := stkV) (by rw [HSq.out]; unfold stkV; rw [if_neg hp]) j), HZw.out, hl.1, hl.2⟩
      · go_wp2_with fail
        go_ret3
        obtain rfl : k = N := by omega
        exact ⟨HD.out.bel, Or.inr ⟨HV.out.1, T, gN, gV, HV.out.2, by rw [HN.out]; rfl, HD.out.lo.1, HD.out.lo.2, HD.out.ne.1, by rw [HN.out]; exact HD.out.nm, by rw [HN.out]; exact HD.out.vl⟩⟩
end Go.Proofs.YtfmkgppkgmjpfaaDoor
