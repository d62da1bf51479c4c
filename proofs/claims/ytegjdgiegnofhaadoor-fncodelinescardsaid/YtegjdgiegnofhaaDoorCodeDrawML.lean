/- The draw of code. -/
import Derived.Test.YtegjdgiegnofhaaDoorCompAllML
import Derived.Test.YtegjdgiegnofhaaDoorGenOML
import Derived.Test.YtegjdgiegnofhaaDoorGenJML
namespace Go.Proofs.YtegjdgiegnofhaaDoor
open Go.RowKit Go.Deep

def CodePost (d : Dr) (W : World) (p : Nat) (e : Ending) (W' : World) : Prop :=
  ∃ v cs q, e = .returned v ∧ W'.ownsRow W.heap.size 28 4 v cs.length (rowZ In.cell 4 cs) ∧ cs.length ≤ 960000 ∧ Rdr d W' q ∧ q ≤ p + 200010 ∧ Grew d W W'

theorem bytes_lowC {d : Dr} {W : World} {p : Nat} (h : Rdr d W p) : ∀ b off, d.a0 = some ⟨b, off, none⟩ → 0 < d.len → b < W.heap.size := fun b off ea hl => by
  obtain ⟨b', off', ea', hq, -⟩ := h.bytes hl
  rw [ea] at ea'
  cases ea'
  exact hq.1

/-- What lies there when code is spoilt: the reader, the code in a row of one's own. -/
structure Cd (d : Dr) (W X : World) (p g cap : Nat) (cs : List In) : Prop where
  rd : Rdr d X p
  gr : Grew d W X
  row : X.ownsRow W.heap.size 28 4 (.slice (some ⟨g, 0, none⟩) cs.length cap) cs.length (rowZ In.cell 4 cs)
  lo : d.B < W.heap.size ∧ d.G = d.B

theorem Cd.pick {d : Dr} {W X X' : World} {p p' g cap : Nat} {cs : List In} (h : Cd d W X p g cap cs) (hr : Rdr d X' p') (hg : Grew d X X') : Cd d W X' p' g cap cs :=
  ⟨hr, h.gr.trans hg, g_grew h.row h.lo.1 (by rw [h.lo.2]; exact h.lo.1) hg, h.lo⟩

theorem Cd.below {d : Dr} {W X X' : World} {p g cap : Nat} {cs : List In} (h : Cd d W X p g cap cs) (hb : Below X.heap.size X X') : Cd d W X' p g cap cs := h.pick (h.rd.below hb) (Grew.of_below hb)

theorem Cd.at {d : Dr} {W X : World} {p g cap : Nat} {cs : List In} (h : Cd d W X p g cap cs) : W.heap.size ≤ g ∧ g < X.heap.size ∧ ∃ cur, X.heap[g]? = some (.cells cur 28) := by
  obtain ⟨h1, cur, h2⟩ := g_type h.row (g := g) rfl
  exact ⟨h1, heap_lt h2, cur, h2⟩

/-- A block of one's own is written. -/
theorem Cd.other {d : Dr} {W X X' : World} {p g cap p0 q : Nat} {cs : List In} (h : Cd d W X p g cap cs) (h0 : Rdr d W p0) (ho : ∀ k, k ≠ q → X'.heap[k]? = X.heap[k]?) (hs : X'.heap.size = X.heap.size) (hos : X'.os = X.os ∧ X'.tape = X.tape ∧ X'.output = X.output) (hq : W.heap.size ≤ q) : Rdr d X' p ∧ Grew d W X' := by
  have hlo := h.lo
  refine ⟨⟨(ho _ (by omega)).trans h.rd.blk, fun hl => ?_⟩, ⟨hos.1.trans h.gr.os, hos.2.1.trans h.gr.tape, hos.2.2.trans h.gr.output, by rw [hs]; exact h.gr.size, fun k hk => (ho k (by have := hk.1; omega)).trans (h.gr.block k hk)⟩⟩
  obtain ⟨b, off, ea, hq2, hz⟩ := h.rd.bytes hl
  have hbl := bytes_lowC h0 b off ea hl
  refine ⟨b, off, ea, ⟨by rw [hs]; exact hq2.1, hq2.2⟩, fun i hi => ?_⟩
  obtain ⟨z, hz, h5⟩ := hz i hi
  exact ⟨z, (World.cell?_of_block (a := ⟨b, off + i, none⟩) (ho b (by omega))).trans hz, h5⟩

theorem Cd.set {d : Dr} {W X : World} {p g cap p0 q : Nat} {cs : List In} (h : Cd d W X p g cap cs) (h0 : Rdr d W p0) (hq : W.heap.size ≤ q) (hne : q ≠ g) (j : Nat) (v : Value) : Cd d W (X.setCell ⟨q, j, none⟩ v) p g cap cs := by
  have ho : ∀ k, k ≠ q → (X.setCell ⟨q, j, none⟩ v).heap[k]? = X.heap[k]? := fun k hk => Below.heap_setCell X ⟨q, j, none⟩ v k hk
  obtain ⟨h1, h2⟩ := h.other (q := q) (X' := X.setCell ⟨q, j, none⟩ v) h0 ho (by simp [World.setCell]) ⟨rfl, rfl, rfl⟩ hq
  exact ⟨h1, h2, g_same h.row (fun k hk => ho k (fun e => by cases hk; exact hne e.symm)), h.lo⟩

theorem Cd.quad {d : Dr} {W X : World} {p g cap p0 k : Nat} {cs : List In} (h : Cd d W X p g cap cs) (h0 : Rdr d W p0) (hk : k < cs.length) (i : In) : Cd d W (quad X g k i) p g cap (cs.set k i) := by
  obtain ⟨e, hs⟩ := quad_other X g k i
  obtain ⟨h1, h2⟩ := h.other (q := g) h0 e hs (quad_os X g k i) h.at.1
  exact ⟨h1, h2, quad_row h.row hk i, h.lo⟩

theorem box_sets {W : World} {q : Nat} {x0 x1 x2 x3 : Value} (h : W.heap[q]? = some (.cells #[x0, x1, x2, x3] 28)) (v : Value) : (W.setCell ⟨q, 0, none⟩ v).heap[q]? = some (.cells #[v, x1, x2, x3] 28) := by
  simp [World.setCell, Array.getElem?_modify, h]

theorem app_ins {W : World} {B : Nat} {v : Value} {l m : List In} {b off cap : Nat} (hown : W.ownsRow B 28 4 v l.length (rowZ In.cell 4 l)) (hc : InsAt W b off m) (hm : l.length + m.length ≤ 2000000) (hB : B ≤ W.heap.size) (ty : TypeId) :
    ∃ v' W', (Builtin.append_ #[23, 23] ty #[v, .slice (some ⟨b, off, none⟩) m.length cap]).run Tryd.prog W = .ok v' W' ∧ W'.ownsRow B 28 4 v' (l ++ m).length (rowZ In.cell 4 (l ++ m)) ∧ W.grownBy W' v.ownBlock := by
  obtain ⟨i0, hinf, hz0, hz1, hz2⟩ := info_parts info_insC
  obtain ⟨v', W', hr, h2, h3, -, -⟩ := run_append_own_at (P := Tryd.prog) W B 23 ty 28 i0 _ 4 32 Tryd.underlying23 hinf hz0 hz1 hz2 rfl (by decide) v l.length (rowZ In.cell 4 l) hown ⟨b, off, none⟩ m.length cap (rowZ In.cell 4 m) (rowZ_len _ 4 m)
    (fun j u hu => by
      have hj : j < m.length * 4 := by
        have := (List.getElem?_eq_some_iff.1 hu).1
        rwa [rowZ_len] at this
      rw [rowZ_get In.cell 4 (by decide) m j hj] at hu
      cases hu
      rw [Addr.add_lit]
      have := hc (j / 4) (by omega) (j % 4) (by omega)
      rwa [show off + j / 4 * 4 + j % 4 = off + j by omega] at this)
    (fun u hu => by
      unfold rowZ at hu
      rw [List.mem_flatMap] at hu
      obtain ⟨x, -, hu⟩ := hu
      rw [List.mem_map] at hu
      obtain ⟨i, -, rfl⟩ := hu
      unfold In.cell
      split <;> rfl) (by unfold maxLen; omega) (by omega) hB
  refine ⟨v', W', hr, ?_, h3⟩
  rw [List.length_append, rowZ_app]
  exact h2

theorem ins_at {X : World} {B g cap : Nat} {cs : List In} (h : X.ownsRow B 28 4 (.slice (some ⟨g, 0, none⟩) cs.length cap) cs.length (rowZ In.cell 4 cs)) : InsAt X g 0 cs := fun k hk c hc => by
  rw [Nat.zero_add, h.cellAt (k * 4 + c) (by omega), rowZ_get In.cell 4 (by decide) cs _ (by omega), show (k * 4 + c) / 4 = k by omega, show (k * 4 + c) % 4 = c by omega]

theorem ins_part {W : World} {b : Nat} {ns l r : List In} {k : Nat} (h : InsAt W b 0 ns) (hd : ns.drop k = l ++ r) : InsAt W b (k * 4) l := fun j hj c hc => by
  have hlen := congrArg List.length hd
  simp only [List.length_drop, List.length_append] at hlen
  have e := h (k + j) (by omega) c hc
  rw [show 0 + (k + j) * 4 + c = k * 4 + j * 4 + c by omega] at e
  rw [e]
  congr 2
  have : ns.getD (k + j) default = (ns.drop k).getD j default := by simp [List.getD, List.getElem?_drop]
  rw [this, hd]
  simp [List.getD, List.getElem?_append_left hj]

theorem ins_last {W : World} {b e o : Nat} {ns : List In} (h : ns.drop e = [] ∨ o = e * 4) (hn : InsAt W b 0 ns) : InsAt W b o (ns.drop e) := by
  rcases h with h | rfl
  · rw [h]
    exact fun k hk => by simp at hk
  · exact ins_part (r := []) hn (by simp)

theorem ins_made (X : World) : (X.alloc (.cells #[] 28)).ownsRow X.heap.size 28 4 (.slice (some ⟨X.heap.size, 0, none⟩) 0 0) ([] : List In).length (rowZ In.cell 4 []) := World.ownsRow_made X #[] 0 (Nat.le_refl _) (Nat.zero_le _) rfl

theorem effW_of {d : Dr} {W : World} {ad : Option Addr} {n cp : Nat} {es : List Ef} (h : EffsD d W (.slice ad n cp) es) : n = es.length ∧ EffW W ad cp es := by
  rcases h.1 with ⟨h1, h2⟩ | ⟨b, off, cap, h1, h2, rfl, h4, h5⟩
  · cases h1
    exact ⟨h2.symm, Or.inl ⟨rfl, List.eq_nil_of_length_eq_zero h2, rfl⟩⟩
  · cases h1
    refine ⟨rfl, Or.inr ⟨b, rfl, h4.1, fun k hk c hc => ?_, h2⟩⟩
    rw [Nat.zero_add]
    have := h5 (k * 3 + c) (by omega)
    rw [Nat.zero_add] at this
    rw [this]
    exact congrArg some (cell_div es Ef.cell 3 k c hc)

theorem treeN_of {d : Dr} {W : World} {v : Value} {ns : List Nd} (h : NodesD d W v ns) (h1 : 1 ≤ ns.length) : ∃ b cap, v = .slice (some ⟨b, 0, none⟩) ns.length cap ∧ b < W.heap.size ∧ NodesAt W b 0 ns := by
  have hsl := h.slice
  rcases h.1 with ⟨h2, h3⟩ | ⟨b, off, cap, h2, h3, rfl, h4, -⟩
  · omega
  · refine ⟨b, cap, h2, h4.1, ?_⟩
    obtain ⟨a, c, e, h5⟩ := hsl
    rw [h2] at e
    cases e
    rcases h5 with rfl | ⟨b', off', e', -, hn⟩
    · simp at h1
    · cases e'
      exact hn

set_option maxHeartbeats 8000000 in
set_option maxRecDepth 100000 in
theorem code_calls {d : Dr} {W : World} {p : Nat} (hG : d.G = d.B) (h : Rdr d W p) (hp : p ≤ 500000) : Calls Tryd.prog 9 #[.pointer (some ⟨d.B, 0, none⟩)] W (CodePost d W p) := by
  have hB := heap_lt h.blk
  have H0 := hid (And.intro h (And.intro hp (And.intro hB hG)))
  have HP := hid (prog_calls hG h hp)
  clear hG h hp hB
  go_enter Tryd.func9, Tryd.ntmps9
  go_wp2_with fail
  refine HP.out.mono ?_
  rintro e W1 ⟨ad, n, cp, vt, es, ns, p1, rfl, hE, hE4, hN, hT, hR, hq, hg⟩
  obtain ⟨rfl, hEW⟩ := effW_of hE
  obtain ⟨tn, tk, t1, -, -, t4⟩ := hT
  obtain ⟨bt, cn, rfl, hbt, hNA⟩ := treeN_of hN (by rw [t1]; simp)
  have HC := hid (compile_calls (cn := cn) hEW (by omega) hbt hNA t4)
  have HR := hid (And.intro hR (And.intro hq hg))
  clear HP hE hE4 hN hR hq hg hEW hbt hNA t1 t4
  go_wp2_with fail
  refine HC.out.mono ?_
  rintro e W2 ⟨v, cs, x, rfl, hown, hcl, hb, -, -⟩
  obtain ⟨adv, cpv, rfl⟩ := own_slice hown
  have HO := hid (own_base hown HR.out.2.2.size)
  have HCl := hid hcl
  have R2 := hid (HR.out.1.below hb)
  have G2 := hid (HR.out.2.2.trans (Grew.of_below hb))
  have HQ := hid HR.out.2.1
  clear HC hown hcl hb HR
  obtain ⟨L, hL⟩ : ∃ L, cs.length = L := ⟨_, rfl⟩
  have HL := hid hL
  rw [hL] at HO ⊢
  clear hL
  go_wp2_with fail
  refine (rdr_pick R2.out (by have := HQ.out; have := H0.out.2.1; omega) 4 (by decide)).mono ?_
  rintro e W3 ⟨m4, rfl, hm40, hm41, hr3, hg3, -, -⟩
  have R3 := hid hr3
  have G3 := hid (G2.out.trans hg3)
  have O3 := hid (g_grew HO.out H0.out.2.2.1 (by rw [H0.out.2.2.2]; exact H0.out.2.2.1) hg3)
  clear hr3 hg3 R2 G2 HO
  have FIN : Hid (CodePost d W p (.returned (.slice adv L cpv)) W3) := ⟨_, cs, _, rfl, by rw [HL.out]; exact O3.out, by have := HCl.out; omega, R3.out, by have := HQ.out; omega, G3.out⟩
  by_cases h4 : m4 = 0
  · subst h4
    by_cases hL0 : (0 : Int) < (L : Int)
    · obtain ⟨g, hgv⟩ : ∃ g, adv = some ⟨g, 0, none⟩ := by
        obtain ⟨-, ⟨-, h0⟩ | ⟨g, cap, cur, e, -⟩⟩ := O3.out
        · omega
        · cases e
          exact ⟨g, rfl⟩
      subst hgv
      have C3 : Hid (Cd d W W3 (p1 + 1) g cpv cs) := ⟨R3.out, G3.out, by rw [HL.out]; exact O3.out, H0.out.2.2.1, H0.out.2.2.2⟩
      clear R3 G3 O3 FIN hm40 hm41
      go_wp2_with fail
      refine (rdr_pick C3.out.rd (by have := HQ.out; have := H0.out.2.1; omega) (L : Int) hL0).mono ?_
      rintro e W4 ⟨mk, rfl, hmk0, hmk1, hr4, hg4, -, -⟩
      have C4 := hid (C3.out.pick hr4 hg4)
      obtain ⟨k, rfl⟩ : ∃ k : Nat, mk = (k : Int) := ⟨mk.toNat, by omega⟩
      have hcs := ins_at C4.out.row
      have hkl : k < cs.length := by rw [HL.out]; omega
      have HK := hid hkl
      have c0 := hcs k hkl 0 (by omega)
      have c1 := hcs k hkl 1 (by omega)
      have c2 := hcs k hkl 2 (by omega)
      have c3 := hcs k hkl 3 (by omega)
      obtain ⟨⟨op, a, b, c⟩, hi⟩ : ∃ i, cs.getD k default = i := ⟨_, rfl⟩
      rw [hi] at c0 c1 c2 c3
      simp only [In.cell, Nat.add_zero, Nat.zero_add] at c0 c1 c2 c3
      have hA := (MapKept.heap_alloc W4 (.cells #[.int .i64 op, .int .i64 a, .int .i64 b, .int .i64 c] 28)).1
      have hB1 := (Below.refl W4.heap.size W4).alloc (Nat.le_refl _) (.cells #[.int .i64 op, .int .i64 a, .int .i64 b, .int .i64 c] 28)
      obtain ⟨Y, hY⟩ : ∃ Y, W4.alloc (.cells #[.int .i64 op, .int .i64 a, .int .i64 b, .int .i64 c] 28) = Y := ⟨_, rfl⟩
      rw [hY] at hA hB1
      have HY := hid hY
      have HA := hid hA
      have CY := hid (C4.out.below hB1)
      have hqg : W4.heap.size ≠ g := by have := C4.out.at.2.1; omega
      have HQg := hid (And.intro hqg (show W.heap.size ≤ W4.heap.size from C4.out.gr.size))
      obtain ⟨q, hqq⟩ : ∃ q, W4.heap.size = q := ⟨_, rfl⟩
      rw [hqq] at HA HQg
      clear hcs hkl hi hA hB1 hY hr4 hg4 C3 C4 hqg
      go_upto_region 5 with fail
      rw [HY.out]
      try rw [hqq]
      clear HY c0 c1 c2 c3 hqq hmk0
      go_wp2_with fail
      refine (rdr_pick CY.out.rd (by have := HQ.out; have := H0.out.2.1; omega) 7 (by decide)).mono ?_
      rintro e W6 ⟨m7, rfl, hm70, hm71, hr6, hg6, -, ho6⟩
      have C6 := hid (CY.out.pick hr6 hg6)
      have A6 := hid ((ho6 q (by have := HQg.out.2; have := CY.out.lo; omega)).trans HA.out)
      clear hr6 hg6 ho6 HA CY
      have hk0 : (0 : Int) ≤ (k : Int) := by omega
      have HE : Hid (∀ Z s, Cd d W Z s g cpv cs → s ≤ p1 + 4 → ∀ i : In, CodePost d W p (.returned (.slice (some ⟨g, 0, none⟩) L cpv)) (quad Z g k i)) := fun Z s hz hs i => by
        have h1 := hz.quad H0.out.1 HK.out i
        have h2 := h1.row
        rw [List.length_set] at h2
        have h3 := HL.out
        refine ⟨_, cs.set k i, _, rfl, ?_, by rw [List.length_set]; have := HCl.out; omega, h1.rd, by have := HQ.out; omega, h1.gr⟩
        rw [List.length_set, ← h3]
        exact h2
      have h7 : m7 = 0 ∨ m7 = 1 ∨ m7 = 2 ∨ m7 = 3 ∨ m7 = 4 ∨ m7 = 5 ∨ m7 = 6 := by omega
      clear hm70 hm71
      rcases h7 with rfl | rfl | rfl | rfl | rfl | rfl | rfl
      · have x0 := cell_of_heap A6.out 0
        have z0 := frozen_of_heap A6.out 0
        simp at x0
        go_wp2_with fail
        refine (rdr_pick C6.out.rd (by have := HQ.out; have := H0.out.2.1; omega) 28 (by decide)).mono ?_
        rintro e W7 ⟨m8, rfl, hm80, hm81, hr7, hg7, -, ho7⟩
        have C7 := hid (C6.out.pick hr7 hg7)
        have A7 := hid ((ho7 q (by have := HQg.out.2; have := C6.out.lo; omega)).trans A6.out)
        clear hr7 hg7 ho7 x0 z0
        obtain ⟨zz, hzz⟩ : ∃ zz : Int, m8 - 1 = zz := ⟨_, rfl⟩
        have x0 := cell_of_heap A7.out 0
        have z0 := frozen_of_heap A7.out 0
        simp at x0
        have C8 := hid (C7.out.set H0.out.1 HQg.out.2 HQg.out.1 0 (.int .i64 zz))
        have A8 := hid (box_sets A7.out (.int .i64 zz))
        obtain ⟨Z, hZ⟩ : ∃ Z, W7.setCell ⟨q, 0, none⟩ (.int .i64 zz) = Z := ⟨_, rfl⟩
        rw [hZ] at C8 A8
        have HZ := hid hZ
        have HZz := hid hzz
        clear hZ hzz
        go_upto_region 20 with fail
        rw [HZz.out, HZ.out]
        clear HZ x0 z0
        have x0 := cell_of_heap A8.out 0
        have x1 := cell_of_heap A8.out 1
        have x2 := cell_of_heap A8.out 2
        have x3 := cell_of_heap A8.out 3
        simp at x0 x1 x2 x3
        obtain ⟨-, -, cur, hcur⟩ := C8.out.at
        have hcs := ins_at C8.out.row
        have y0 := hcs k HK.out 0 (by omega)
        have f0 := frozen_of_heap hcur (k * 4)
        have y1 := hcs k HK.out 1 (by omega)
        have f1 := frozen_of_heap hcur (k * 4 + 1)
        have y2 := hcs k HK.out 2 (by omega)
        have f2 := frozen_of_heap hcur (k * 4 + 2)
        have y3 := hcs k HK.out 3 (by omega)
        have f3 := frozen_of_heap hcur (k * 4 + 3)
        simp only [Nat.add_zero, Nat.zero_add] at y0 y1 y2 y3
        clear hcur hcs
        have HR := hid (HE.out Z _ C8.out (by omega) ⟨zz, a, b, c⟩)
        unfold quad at HR
        dsimp only at HR
        go_wp2_with fail
        go_ret
        exact HR.out
      · have c1 := cell_of_heap A6.out 1
        simp at c1
        go_upto_region 9 with fail
        have hD : Below W6.heap.size W6 W6.drew := (Below.refl _ _).drew
        obtain ⟨D, hDe⟩ : ∃ D, W6.drew = D := ⟨_, rfl⟩
        rw [hDe] at hD
        have CD := hid (C6.out.below hD)
        have AD := hid ((hD.block q (heap_lt A6.out)).trans A6.out)
        refine pick_begin (S := fun _ => True) (by kernel_rfl) rfl rfl ?_
        rw [hDe]
        clear hDe hD c1
        refine pick_op (i := 0) (v := .pointer (some ⟨q, 1, none⟩)) (by kernel_rfl) rfl (by kernel_rfl) (by kernel_rfl) rfl rfl (fun w' _ => by simp [go_sem]) trivial (by simp [go_sem]; exact rfl) ?_
        refine pick_op (i := 2) (v := .pointer (some ⟨d.B, 0, none⟩)) (by kernel_rfl) rfl (by kernel_rfl) (by kernel_rfl) rfl rfl (fun w' _ => by simp [go_sem]) trivial (by simp [go_sem]; exact rfl) ?_
        refine pick_either (i := 1) (j := 3) (by kernel_rfl) ?_ ?_
        · have c1 := cell_of_heap AD.out 1
          simp at c1
          refine ⟨_, .int .i64 a, D, rfl, rfl, by simp [go_sem, c1], trivial, ?_⟩
          refine pick_frame (by simp [go_sem]; exact rfl) ?_
          clear c1
          refine pick_enter (i := 3) (f := 22) (args := #[.pointer (some ⟨d.B, 0, none⟩), .int .i64 3]) rfl (by kernel_rfl) rfl rfl (by simp [go_sem]) ?_
          refine (rdr_pick CD.out.rd (by have := HQ.out; have := H0.out.2.1; omega) 3 (by decide)).mono ?_
          rintro e W7 ⟨m8, rfl, hm80, hm81, hr7, hg7, -, ho7⟩
          have C7 := hid (CD.out.pick hr7 hg7)
          have A7 := hid ((ho7 q (by have := HQg.out.2; have := CD.out.lo; omega)).trans AD.out)
          clear hr7 hg7 ho7
          refine ⟨_, rfl, trivial, ?_⟩
          refine pick_frame (by simp [go_sem]; exact rfl) ?_
          have c1 := cell_of_heap A7.out 1
          have z1 := frozen_of_heap A7.out 1
          simp at c1
          refine pick_op (i := 4) (v := .int .i64 (wrap64 (a + m8))) (by kernel_rfl) rfl (by kernel_rfl) (by kernel_rfl) rfl rfl (fun w' _ => by simp [go_sem]; exact IntWalk.i64_left _) trivial (by simp [go_sem]; exact rfl) ?_
          obtain ⟨z4, hz4⟩ : ∃ z : Int, wrap64 (a + m8) = z := ⟨_, rfl⟩
          rw [hz4]
          clear hz4
          refine pick_op (i := 5) (v := .int .i64 (wrap64 (z4 - 1))) (by kernel_rfl) rfl (by kernel_rfl) (by kernel_rfl) rfl rfl (fun w' _ => by simp [go_sem]; exact IntWalk.i64_left _) trivial (by simp [go_sem]; exact rfl) ?_
          obtain ⟨zz, hzz⟩ : ∃ z : Int, wrap64 (z4 - 1) = z := ⟨_, rfl⟩
          rw [hzz]
          clear hzz
          refine pick_op (i := 6) (v := .pointer (some ⟨q, 1, none⟩)) (by kernel_rfl) rfl (by kernel_rfl) (by kernel_rfl) rfl rfl (fun w' _ => by simp [go_sem]) trivial (by simp [go_sem]; exact rfl) ?_
          refine pick_skip (i := 7) rfl (w1 := W7.setCell ⟨q, 1, none⟩ (.int .i64 zz)) rfl (by kernel_rfl) rfl rfl (by simp [go_sem, c1, z1]) trivial ?_
          refine pick_end (by kernel_rfl) ?_
          have C8 := hid (C7.out.set H0.out.1 HQg.out.2 HQg.out.1 1 (.int .i64 zz))
          have A8 := hid (box_set A7.out (.int .i64 zz)).1
          generalize W7.setCell ⟨q, 1, none⟩ (.int .i64 zz) = Z at *
          clear c1 z1
          go_upto_region 20 with fail
          have x0 := cell_of_heap A8.out 0
          have x1 := cell_of_heap A8.out 1
          have x2 := cell_of_heap A8.out 2
          have x3 := cell_of_heap A8.out 3
          simp at x0 x1 x2 x3
          obtain ⟨-, -, cur, hcur⟩ := C8.out.at
          have hcs := ins_at C8.out.row
          have y0 := hcs k HK.out 0 (by omega)
          have f0 := frozen_of_heap hcur (k * 4)
          have y1 := hcs k HK.out 1 (by omega)
          have f1 := frozen_of_heap hcur (k * 4 + 1)
          have y2 := hcs k HK.out 2 (by omega)
          have f2 := frozen_of_heap hcur (k * 4 + 2)
          have y3 := hcs k HK.out 3 (by omega)
          have f3 := frozen_of_heap hcur (k * 4 + 3)
          simp only [Nat.add_zero, Nat.zero_add] at y0 y1 y2 y3
          clear hcur hcs
          have HR := hid (HE.out Z _ C8.out (by omega) ⟨op, zz, b, c⟩)
          unfold quad at HR
          dsimp only at HR
          go_wp2_with fail
          go_ret
          exact HR.out
        · refine ⟨_, 22, #[.pointer (some ⟨d.B, 0, none⟩), .int .i64 3], rfl, rfl, by simp [go_sem], ?_⟩
          refine (rdr_pick CD.out.rd (by have := HQ.out; have := H0.out.2.1; omega) 3 (by decide)).mono ?_
          rintro e W7 ⟨m8, rfl, hm80, hm81, hr7, hg7, -, ho7⟩
          have C7 := hid (CD.out.pick hr7 hg7)
          have A7 := hid ((ho7 q (by have := HQg.out.2; have := CD.out.lo; omega)).trans AD.out)
          clear hr7 hg7 ho7
          refine ⟨_, rfl, trivial, ?_⟩
          refine pick_frame (by simp [go_sem]; exact rfl) ?_
          have c1 := cell_of_heap A7.out 1
          have z1 := frozen_of_heap A7.out 1
          simp at c1
          refine pick_make (i := 1) (v := .int .i64 a) (w1 := W7) rfl (by kernel_rfl) rfl rfl (by simp [go_sem, c1]) trivial (by simp [go_sem]; exact rfl) ?_
          refine pick_op (i := 4) (v := .int .i64 (wrap64 (a + m8))) (by kernel_rfl) rfl (by kernel_rfl) (by kernel_rfl) rfl rfl (fun w' _ => by simp [go_sem]; exact IntWalk.i64_left _) trivial (by simp [go_sem]; exact rfl) ?_
          obtain ⟨z4, hz4⟩ : ∃ z : Int, wrap64 (a + m8) = z := ⟨_, rfl⟩
          rw [hz4]
          clear hz4
          refine pick_op (i := 5) (v := .int .i64 (wrap64 (z4 - 1))) (by kernel_rfl) rfl (by kernel_rfl) (by kernel_rfl) rfl rfl (fun w' _ => by simp [go_sem]; exact IntWalk.i64_left _) trivial (by simp [go_sem]; exact rfl) ?_
          obtain ⟨zz, hzz⟩ : ∃ z : Int, wrap64 (z4 - 1) = z := ⟨_, rfl⟩
          rw [hzz]
          clear hzz
          refine pick_op (i := 6) (v := .pointer (some ⟨q, 1, none⟩)) (by kernel_rfl) rfl (by kernel_rfl) (by kernel_rfl) rfl rfl (fun w' _ => by simp [go_sem]) trivial (by simp [go_sem]; exact rfl) ?_
          refine pick_skip (i := 7) rfl (w1 := W7.setCell ⟨q, 1, none⟩ (.int .i64 zz)) rfl (by kernel_rfl) rfl rfl (by simp [go_sem, c1, z1]) trivial ?_
          refine pick_end (by kernel_rfl) ?_
          have C8 := hid (C7.out.set H0.out.1 HQg.out.2 HQg.out.1 1 (.int .i64 zz))
          have A8 := hid (box_set A7.out (.int .i64 zz)).1
          generalize W7.setCell ⟨q, 1, none⟩ (.int .i64 zz) = Z at *
          clear c1 z1
          go_upto_region 20 with fail
          have x0 := cell_of_heap A8.out 0
          have x1 := cell_of_heap A8.out 1
          have x2 := cell_of_heap A8.out 2
          have x3 := cell_of_heap A8.out 3
          simp at x0 x1 x2 x3
          obtain ⟨-, -, cur, hcur⟩ := C8.out.at
          have hcs := ins_at C8.out.row
          have y0 := hcs k HK.out 0 (by omega)
          have f0 := frozen_of_heap hcur (k * 4)
          have y1 := hcs k HK.out 1 (by omega)
          have f1 := frozen_of_heap hcur (k * 4 + 1)
          have y2 := hcs k HK.out 2 (by omega)
          have f2 := frozen_of_heap hcur (k * 4 + 2)
          have y3 := hcs k HK.out 3 (by omega)
          have f3 := frozen_of_heap hcur (k * 4 + 3)
          simp only [Nat.add_zero, Nat.zero_add] at y0 y1 y2 y3
          clear hcur hcs
          have HR := hid (HE.out Z _ C8.out (by omega) ⟨op, zz, b, c⟩)
          unfold quad at HR
          dsimp only at HR
          go_wp2_with fail
          go_ret
          exact HR.out
      · have x0 := cell_of_heap A6.out 2
        have z0 := frozen_of_heap A6.out 2
        simp at x0
        go_wp2_with fail
        refine (rdr_pick C6.out.rd (by have := HQ.out; have := H0.out.2.1; omega) 3 (by decide)).mono ?_
        rintro e W7 ⟨m8, rfl, hm80, hm81, hr7, hg7, -, ho7⟩
        have C7 := hid (C6.out.pick hr7 hg7)
        have A7 := hid ((ho7 q (by have := HQg.out.2; have := C6.out.lo; omega)).trans A6.out)
        clear hr7 hg7 ho7 x0 z0
        obtain ⟨zz, hzz⟩ : ∃ zz : Int, m8 = zz := ⟨_, rfl⟩
        have x0 := cell_of_heap A7.out 2
        have z0 := frozen_of_heap A7.out 2
        simp at x0
        have C8 := hid (C7.out.set H0.out.1 HQg.out.2 HQg.out.1 2 (.int .i64 zz))
        have A8 := hid ((box_set A7.out (.int .i64 zz)).2.1)
        obtain ⟨Z, hZ⟩ : ∃ Z, W7.setCell ⟨q, 2, none⟩ (.int .i64 zz) = Z := ⟨_, rfl⟩
        rw [hZ] at C8 A8
        have HZ := hid hZ
        have HZz := hid hzz
        clear hZ hzz
        go_upto_region 20 with fail
        have hm := HZz.out
        subst hm
        rw [HZ.out]
        clear HZ x0 z0
        have x0 := cell_of_heap A8.out 0
        have x1 := cell_of_heap A8.out 1
        have x2 := cell_of_heap A8.out 2
        have x3 := cell_of_heap A8.out 3
        simp at x0 x1 x2 x3
        obtain ⟨-, -, cur, hcur⟩ := C8.out.at
        have hcs := ins_at C8.out.row
        have y0 := hcs k HK.out 0 (by omega)
        have f0 := frozen_of_heap hcur (k * 4)
        have y1 := hcs k HK.out 1 (by omega)
        have f1 := frozen_of_heap hcur (k * 4 + 1)
        have y2 := hcs k HK.out 2 (by omega)
        have f2 := frozen_of_heap hcur (k * 4 + 2)
        have y3 := hcs k HK.out 3 (by omega)
        have f3 := frozen_of_heap hcur (k * 4 + 3)
        simp only [Nat.add_zero, Nat.zero_add] at y0 y1 y2 y3
        clear hcur hcs
        have HR := hid (HE.out Z _ C8.out (by omega) ⟨op, a, m8, c⟩)
        unfold quad at HR
        dsimp only at HR
        go_wp2_with fail
        go_ret
        exact HR.out
      · have HW3 : Hid (wrap64 ((L : Int) + 2) = (L : Int) + 2) := by show _ = _; have := HL.out; have := HCl.out; unfold wrap64; omega
        have hp3 : (0 : Int) < (L : Int) + 2 := by omega
        have HP3 := hid hp3
        clear hp3
        go_wp2_with fail
        rw [HW3.out]
        refine (rdr_pick C6.out.rd (by have := HQ.out; have := H0.out.2.1; omega) ((L : Int) + 2) HP3.out).mono ?_
        rintro e W7 ⟨m8, rfl, hm80, hm81, hr7, hg7, -, ho7⟩
        have C7 := hid (C6.out.pick hr7 hg7)
        have A7 := hid ((ho7 q (by have := HQg.out.2; have := C6.out.lo; omega)).trans A6.out)
        clear hr7 hg7 ho7
        have x0 := cell_of_heap A7.out 3
        have z0 := frozen_of_heap A7.out 3
        simp at x0
        have C8 := hid (C7.out.set H0.out.1 HQg.out.2 HQg.out.1 3 (.int .i64 m8))
        have A8 := hid (box_set A7.out (.int .i64 m8)).2.2
        obtain ⟨Z, hZ⟩ : ∃ Z, W7.setCell ⟨q, 3, none⟩ (.int .i64 m8) = Z := ⟨_, rfl⟩
        rw [hZ] at C8 A8
        have HZ := hid hZ
        clear hZ
        go_upto_region 20 with fail
        rw [HZ.out]
        clear HZ x0 z0
        have x0 := cell_of_heap A8.out 0
        have x1 := cell_of_heap A8.out 1
        have x2 := cell_of_heap A8.out 2
        have x3 := cell_of_heap A8.out 3
        simp at x0 x1 x2 x3
        obtain ⟨-, -, cur, hcur⟩ := C8.out.at
        have hcs := ins_at C8.out.row
        have y0 := hcs k HK.out 0 (by omega)
        have f0 := frozen_of_heap hcur (k * 4)
        have y1 := hcs k HK.out 1 (by omega)
        have f1 := frozen_of_heap hcur (k * 4 + 1)
        have y2 := hcs k HK.out 2 (by omega)
        have f2 := frozen_of_heap hcur (k * 4 + 2)
        have y3 := hcs k HK.out 3 (by omega)
        have f3 := frozen_of_heap hcur (k * 4 + 3)
        simp only [Nat.add_zero, Nat.zero_add] at y0 y1 y2 y3
        clear hcur hcs
        have HR := hid (HE.out Z _ C8.out (by omega) ⟨op, a, b, m8⟩)
        unfold quad at HR
        dsimp only at HR
        go_wp2_with fail
        go_ret
        exact HR.out
      · have x0 := cell_of_heap A6.out 0
        have x1 := cell_of_heap A6.out 1
        have x2 := cell_of_heap A6.out 2
        have x3 := cell_of_heap A6.out 3
        have z0 := frozen_of_heap A6.out 0
        have z1 := frozen_of_heap A6.out 1
        have z2 := frozen_of_heap A6.out 2
        have z3 := frozen_of_heap A6.out 3
        simp at x0 x1 x2 x3
        have C8 := hid ((((C6.out.set H0.out.1 HQg.out.2 HQg.out.1 0 (.int .i64 13)).set H0.out.1 HQg.out.2 HQg.out.1 1 (.int .i64 0)).set H0.out.1 HQg.out.2 HQg.out.1 2 (.int .i64 0)).set H0.out.1 HQg.out.2 HQg.out.1 3 (.int .i64 0))
        have A8 := hid (box_set (box_set (box_set (box_sets A6.out (.int .i64 13)) (.int .i64 0)).1 (.int .i64 0)).2.1 (.int .i64 0)).2.2
        obtain ⟨Z, hZ⟩ : ∃ Z, (((W6.setCell ⟨q, 0, none⟩ (.int .i64 13)).setCell ⟨q, 1, none⟩ (.int .i64 0)).setCell ⟨q, 2, none⟩ (.int .i64 0)).setCell ⟨q, 3, none⟩ (.int .i64 0) = Z := ⟨_, rfl⟩
        rw [hZ] at C8 A8
        have HZ := hid hZ
        clear hZ
        go_upto_region 20 with fail
        rw [HZ.out]
        clear HZ x0 x1 x2 x3 z0 z1 z2 z3
        have x0 := cell_of_heap A8.out 0
        have x1 := cell_of_heap A8.out 1
        have x2 := cell_of_heap A8.out 2
        have x3 := cell_of_heap A8.out 3
        simp at x0 x1 x2 x3
        obtain ⟨-, -, cur, hcur⟩ := C8.out.at
        have hcs := ins_at C8.out.row
        have y0 := hcs k HK.out 0 (by omega)
        have f0 := frozen_of_heap hcur (k * 4)
        have y1 := hcs k HK.out 1 (by omega)
        have f1 := frozen_of_heap hcur (k * 4 + 1)
        have y2 := hcs k HK.out 2 (by omega)
        have f2 := frozen_of_heap hcur (k * 4 + 2)
        have y3 := hcs k HK.out 3 (by omega)
        have f3 := frozen_of_heap hcur (k * 4 + 3)
        simp only [Nat.add_zero, Nat.zero_add] at y0 y1 y2 y3
        clear hcur hcs
        have HR := hid (HE.out Z _ C8.out (by omega) ⟨13, 0, 0, 0⟩)
        unfold quad at HR
        dsimp only at HR
        go_wp2_with fail
        go_ret
        exact HR.out
      · have x0 := cell_of_heap A6.out 0
        have x1 := cell_of_heap A6.out 1
        have x2 := cell_of_heap A6.out 2
        have x3 := cell_of_heap A6.out 3
        have z0 := frozen_of_heap A6.out 0
        have z1 := frozen_of_heap A6.out 1
        have z2 := frozen_of_heap A6.out 2
        have z3 := frozen_of_heap A6.out 3
        simp at x0 x1 x2 x3
        have C8 := hid ((((C6.out.set H0.out.1 HQg.out.2 HQg.out.1 0 (.int .i64 3)).set H0.out.1 HQg.out.2 HQg.out.1 1 (.int .i64 0)).set H0.out.1 HQg.out.2 HQg.out.1 2 (.int .i64 0)).set H0.out.1 HQg.out.2 HQg.out.1 3 (.int .i64 0))
        have A8 := hid (box_set (box_set (box_set (box_sets A6.out (.int .i64 3)) (.int .i64 0)).1 (.int .i64 0)).2.1 (.int .i64 0)).2.2
        obtain ⟨Z, hZ⟩ : ∃ Z, (((W6.setCell ⟨q, 0, none⟩ (.int .i64 3)).setCell ⟨q, 1, none⟩ (.int .i64 0)).setCell ⟨q, 2, none⟩ (.int .i64 0)).setCell ⟨q, 3, none⟩ (.int .i64 0) = Z := ⟨_, rfl⟩
        rw [hZ] at C8 A8
        have HZ := hid hZ
        clear hZ
        go_upto_region 20 with fail
        rw [HZ.out]
        clear HZ x0 x1 x2 x3 z0 z1 z2 z3
        have x0 := cell_of_heap A8.out 0
        have x1 := cell_of_heap A8.out 1
        have x2 := cell_of_heap A8.out 2
        have x3 := cell_of_heap A8.out 3
        simp at x0 x1 x2 x3
        obtain ⟨-, -, cur, hcur⟩ := C8.out.at
        have hcs := ins_at C8.out.row
        have y0 := hcs k HK.out 0 (by omega)
        have f0 := frozen_of_heap hcur (k * 4)
        have y1 := hcs k HK.out 1 (by omega)
        have f1 := frozen_of_heap hcur (k * 4 + 1)
        have y2 := hcs k HK.out 2 (by omega)
        have f2 := frozen_of_heap hcur (k * 4 + 2)
        have y3 := hcs k HK.out 3 (by omega)
        have f3 := frozen_of_heap hcur (k * 4 + 3)
        simp only [Nat.add_zero, Nat.zero_add] at y0 y1 y2 y3
        clear hcur hcs
        have HR := hid (HE.out Z _ C8.out (by omega) ⟨3, 0, 0, 0⟩)
        unfold quad at HR
        dsimp only at HR
        go_wp2_with fail
        go_ret
        exact HR.out
      · obtain ⟨-, -, cur, hcur⟩ := C6.out.at
        have hcap : L ≤ cpv := by obtain ⟨-, ⟨h1, -⟩ | ⟨g', cap', cur', e, -, -, h2, -⟩⟩ := C6.out.row; cases h1; cases e; rw [HL.out] at h2; exact h2
        have hkL : k < L := by have := HK.out; have := HL.out; omega
        have hkc : (k : Int) ≤ (cpv : Int) := by omega
        have HW1 : Hid (wrap64 ((k : Int) + 1) = ((k + 1 : Nat) : Int)) := by show _ = _; have := HCl.out; have := HL.out; unfold wrap64; omega
        clear hcur
        go_upto_region 19 with fail
        have hD : Below W6.heap.size W6 W6.drew := (Below.refl _ _).drew
        obtain ⟨D, hDe⟩ : ∃ D, W6.drew = D := ⟨_, rfl⟩
        rw [hDe] at hD
        have CD := hid (C6.out.below hD)
        refine pick_begin (S := fun _ => True) (by kernel_rfl) rfl rfl ?_
        rw [hDe]
        clear hDe hD
        have hk9 : ¬ cpv < k := by omega
        have he9 : k + 1 ≤ L := by omega
        have he8 : ((k + 1 : Nat) : Int) ≤ (L : Int) := by omega
        obtain ⟨o3, ho3, hO3⟩ : ∃ o3, (if cpv = k + 1 then some (⟨g, 0, none⟩ : Addr) else some ⟨g, (k + 1) * 4, none⟩) = some ⟨g, o3, none⟩ ∧ (cs.drop (k + 1) = [] ∨ o3 = (k + 1) * 4) := by
          by_cases h : cpv = k + 1
          · exact ⟨0, by rw [if_pos h], Or.inl (List.drop_eq_nil_of_le (by have := HL.out; omega))⟩
          · exact ⟨(k + 1) * 4, by rw [if_neg h], Or.inr rfl⟩
        have HO3 := hid hO3
        clear hO3
        refine pick_op (i := 1) (v := .slice (some ⟨g, 0, none⟩) L cpv) (by kernel_rfl) rfl (by kernel_rfl) (by kernel_rfl) rfl rfl (fun w' _ => by simp [go_sem]) trivial (by simp [go_sem]; exact rfl) ?_
        refine pick_op (i := 2) (v := .int .i64 (k : Int)) (by kernel_rfl) rfl (by kernel_rfl) (by kernel_rfl) rfl rfl (fun w' _ => by simp [go_sem]) trivial (by simp [go_sem]; exact rfl) ?_
        refine pick_op (i := 3) (v := .slice (some ⟨g, 0, none⟩) k cpv) (by kernel_rfl) rfl (by kernel_rfl) (by kernel_rfl) rfl rfl (fun w' _ => by simp [go_sem, Tryd.underlying23, hk9]) trivial (by simp [go_sem]; exact rfl) ?_
        refine pick_op (i := 5) (v := .slice (some ⟨g, 0, none⟩) L cpv) (by kernel_rfl) rfl (by kernel_rfl) (by kernel_rfl) rfl rfl (fun w' _ => by simp [go_sem]) trivial (by simp [go_sem]; exact rfl) ?_
        refine pick_op (i := 6) (v := .int .i64 (k : Int)) (by kernel_rfl) rfl (by kernel_rfl) (by kernel_rfl) rfl rfl (fun w' _ => by simp [go_sem]) trivial (by simp [go_sem]; exact rfl) ?_
        refine pick_op (i := 7) (v := .int .i64 (wrap64 ((k : Int) + 1))) (by kernel_rfl) rfl (by kernel_rfl) (by kernel_rfl) rfl rfl (fun w' _ => by simp [go_sem]; exact IntWalk.i64_left _) trivial (by simp [go_sem]; exact rfl) ?_
        rw [HW1.out]
        obtain ⟨k1, hk1⟩ : ∃ k1, k + 1 = k1 := ⟨_, rfl⟩
        rw [hk1] at ho3 he9 HO3 ⊢
        have HK1 := hid hk1
        clear hk1 he8 HW1
        refine pick_op (i := 8) (v := .slice (some ⟨g, o3, none⟩) (L - k1) (cpv - k1)) (by kernel_rfl) rfl (by kernel_rfl) (by kernel_rfl) rfl rfl (fun w' _ => by simp [go_sem, Tryd.underlying23, he9, ho3]) trivial (by simp [go_sem]; exact rfl) ?_
        have OW0 := hid (ins_made D)
        have BL0 : Hid (Below D.heap.size D (D.alloc (.cells #[] 28))) := (Below.refl _ _).alloc (Nat.le_refl _) _
        refine pick_make (i := 0) (v := .slice (some ⟨D.heap.size, 0, none⟩) 0 0) (w1 := D.alloc (.cells #[] 28)) rfl (by kernel_rfl) rfl rfl (by simp [go_sem]) trivial (by simp [go_sem]; exact rfl) ?_
        generalize D.alloc (.cells #[] 28) = Y0 at *
        have HNs := hid (fun (Y : World) (hb : Below D.heap.size D Y) => ins_at (CD.out.below hb).row)
        have HLn : Hid ((cs.take k).length = k ∧ (cs.drop k1).length = L - k1) := ⟨by rw [List.length_take]; have := HK.out; omega, by rw [List.length_drop, HL.out]⟩
        obtain ⟨v1, Y1, hrun, hown, hgr⟩ := app_ins (b := g) (off := 0) (cap := cpv) OW0.out (m := cs.take k) (by have h := ins_part (k := 0) (l := cs.take k) (r := cs.drop k) (HNs.out Y0 BL0.out) (by rw [List.drop_zero, List.take_append_drop]); rwa [Nat.zero_mul] at h) (by rw [HLn.out.1]; have := HCl.out; have := HK.out; simp; omega) BL0.out.size 23
        have OW1 := hid hown
        have BL1 : Hid (Below D.heap.size D Y1) := BL0.out.grown hgr BL0.out.size (fun x hx => (OW0.out.lt x hx).1)
        rw [HLn.out.1] at hrun
        obtain ⟨ad1, cp1, hv1⟩ := g_is hown
        obtain ⟨l1, hl1⟩ : ∃ l, (([] : List In) ++ cs.take k).length = l := ⟨_, rfl⟩
        rw [hl1] at hv1
        subst hv1
        clear hown hgr hl1
        refine pick_make (i := 4) (v := .slice ad1 l1 cp1) (w1 := Y1) rfl (by kernel_rfl) rfl rfl (append_run (s := .tmp 67) (x := .tmp 70) (t := 23) rfl rfl rfl hrun) trivial (by simp [go_sem]; exact rfl) ?_
        clear hrun
        have HLl : Hid ((([] : List In) ++ cs.take k).length + (cs.drop k1).length ≤ 950000) := by show _ ≤ _; have h1 := HLn.out.2; have h2 := HLn.out.1; have h3 := HCl.out; have h4 := HL.out; have h5 := HK1.out; rw [List.nil_append]; omega
        obtain ⟨v2, Y2, hrun, hown, hgr⟩ := app_ins (b := g) (off := o3) (cap := cpv - k1) OW1.out (m := cs.drop k1) (ins_last HO3.out (HNs.out Y1 BL1.out)) (by have := HLl.out; omega) BL1.out.size 23
        have OW2 := hid hown
        have BL2 : Hid (Below D.heap.size D Y2) := BL1.out.grown hgr BL1.out.size (fun x hx => (OW1.out.lt x hx).1)
        rw [HLn.out.2] at hrun
        obtain ⟨ad2, cp2, hv2⟩ := g_is hown
        obtain ⟨l2, hl2⟩ : ∃ l, ((([] : List In) ++ cs.take k) ++ cs.drop k1).length = l := ⟨_, rfl⟩
        rw [hl2] at hv2
        subst hv2
        clear hown hgr hl2
        refine pick_make (i := 9) (v := .slice ad2 l2 cp2) (w1 := Y2) rfl (by kernel_rfl) rfl rfl (append_run (s := .tmp 71) (x := .tmp 75) (t := 23) rfl rfl rfl hrun) trivial (by simp [go_sem]; exact rfl) ?_
        clear hrun
        refine pick_op (i := 10) (v := .slice ad2 l2 cp2) (by kernel_rfl) rfl (by kernel_rfl) (by kernel_rfl) rfl rfl (fun w' _ => by simp [go_sem]) trivial (by simp [go_sem]; exact rfl) ?_
        refine pick_end (by kernel_rfl) ?_
        have CE := hid (CD.out.below BL2.out)
        have HDs : Hid (W.heap.size ≤ D.heap.size) := CD.out.gr.size
        have HR : Hid (CodePost d W p (.returned (.slice ad2 l2 cp2)) Y2) := ⟨_, _, _, rfl, own_base OW2.out HDs.out, by rw [List.length_append]; have := HLl.out; omega, CE.out.rd, by have := HQ.out; omega, CE.out.gr⟩
        clear hk9 he9 ho3 hkc hkL hcap
        go_wp2_with fail
        go_ret
        exact HR.out
    · have z4 : ¬ ((0 : Int) < (L : Int)) := hL0
      go_wp2_with fail
      go_ret
      exact FIN.out
  · have z4 : (m4 == 0) = false := by simp [h4]
    go_wp2_with fail
    go_ret
    exact FIN.out
end Go.Proofs.YtegjdgiegnofhaaDoor
