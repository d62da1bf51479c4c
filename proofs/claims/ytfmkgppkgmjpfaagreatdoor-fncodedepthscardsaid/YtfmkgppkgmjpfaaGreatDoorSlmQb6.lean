import Derived.Test.YtfmkgppkgmjpfaaGreatDoorSlmQb3
import Derived.Test.YtfmkgppkgmjpfaaGreatDoorSlmQb5
import Derived.Test.YtfmkgppkgmjpfaaGreatDoorSlmQb4
import Derived.Test.YtfmkgppkgmjpfaaGreatDoorRows
import Derived.WalkKit
import Derived.ProofKit
import Derived.Deep.OwnRows
import Derived.BigQuiet
import Derived.Test.YtfmkgppkgmjpfaaGreatDoorSlmQb1
import Derived.Conc.LoneCalls
import Derived.Deep.CutRange
import Derived.Deep.CutBlock
import Derived.IntWalk
namespace Go.Proofs.YtfmkgppkgmjpfaaGreatDoor
section
open Go.RowKit Go.Deep
def CodePost (d : Dr) (W : World) (p : Nat) (e : Ending) (W' : World) : Prop :=
 ∃ v cs q, e = .returned v ∧ W'.ownsRow W.heap.size 31 4 v cs.length (rowZ In.cell 4 cs) ∧ cs.length ≤ 960000 ∧ Rdr d W' q ∧ q ≤ p + 200010 ∧ Grew d W W'
theorem bytes_lowC {d : Dr} {W : World} {p : Nat} (h : Rdr d W p) : ∀ b off, d.a0 = some ⟨b, off, none⟩ → 0 < d.len → b < W.heap.size := fun b off ea hl => by
 obtain ⟨b', off', ea', hq, -⟩ := h.bytes hl
 rw [ea] at ea'
 cases ea'
 exact hq.1

structure Cd (d : Dr) (W X : World) (p g cap : Nat) (cs : List In) : Prop where
 rd : Rdr d X p
 gr : Grew d W X
 row : X.ownsRow W.heap.size 31 4 (.slice (some ⟨g, 0, none⟩) cs.length cap) cs.length (rowZ In.cell 4 cs)
 lo : d.B < W.heap.size ∧ d.G = d.B
theorem Cd.pick {d : Dr} {W X X' : World} {p p' g cap : Nat} {cs : List In} (h : Cd d W X p g cap cs) (hr : Rdr d X' p') (hg : Grew d X X') : Cd d W X' p' g cap cs :=
 ⟨hr, h.gr.trans hg, g_grew h.row h.lo.1 (by rw [h.lo.2]; exact h.lo.1) hg, h.lo⟩
theorem Cd.below {d : Dr} {W X X' : World} {p g cap : Nat} {cs : List In} (h : Cd d W X p g cap cs) (hb : Below X.heap.size X X') : Cd d W X' p g cap cs := h.pick (h.rd.below hb) (Grew.of_below hb)
theorem Cd.at {d : Dr} {W X : World} {p g cap : Nat} {cs : List In} (h : Cd d W X p g cap cs) : W.heap.size ≤ g ∧ g < X.heap.size ∧ ∃ cur, X.heap[g]? = some (.cells cur 31) := by
 obtain ⟨h1, cur, h2⟩ := g_type h.row (g := g) rfl
 exact ⟨h1, z26 h2, cur, h2⟩
theorem Cd.other {d : Dr} {W X X' : World} {p g cap p0 q : Nat} {cs : List In} (h : Cd d W X p g cap cs) (h0 : Rdr d W p0) (ho : ∀ k, k ≠ q → X'.heap[k]? = X.heap[k]?) (hs : X'.heap.size = X.heap.size) (hos : X'.os = X.os ∧ X'.tape = X.tape ∧ X'.output = X.output) (hq : W.heap.size ≤ q) : Rdr d X' p ∧ Grew d W X' := by
 have hlo := h.lo
 refine ⟨⟨(ho _ (by omega)).trans h.rd.blk, fun hl => ?_⟩, ⟨hos.1.trans h.gr.os, hos.2.1.trans h.gr.tape, hos.2.2.trans h.gr.output, by rw [hs]; exact h.gr.size, fun k hk => (ho k (by have := hk.1; omega)).trans (h.gr.block k hk)⟩⟩
 obtain ⟨b, off, ea, hq2, hz⟩ := h.rd.bytes hl
 have hbl := bytes_lowC h0 b off ea hl
 refine ⟨b, off, ea, ⟨by rw [hs]; exact hq2.1, hq2.2⟩, fun i hi => ?_⟩
 obtain ⟨z, hz, h5⟩ := hz i hi
 exact ⟨z, (World.cell?_of_block (a := ⟨b, off + i, none⟩) (ho b (by omega))).trans hz, h5⟩
theorem Cd.set {d : Dr} {W X : World} {p g cap p0 q : Nat} {cs : List In} (h : Cd d W X p g cap cs) (h0 : Rdr d W p0) (hq : W.heap.size ≤ q) (hne : q ≠ g) (j : Nat) (v : Value) : Cd d W (X.setCell ⟨q, j, none⟩ v) p g cap cs := by
 have ho : ∀ k, k ≠ q → (X.setCell ⟨q, j, none⟩ v).heap[k]? = X.heap[k]? := fun k hk => Below.heap_setCell X ⟨q, j, none⟩ v k hk
 obtain ⟨h1, h2⟩ := h.other (q := q) (X' := X.setCell ⟨q, j, none⟩ v) h0 ho (by simp [World.setCell]) ⟨rfl, rfl, rfl⟩ hq
 exact ⟨h1, h2, g_same h.row (fun k hk => ho k (fun e => by cases hk; exact hne e.symm)), h.lo⟩
theorem Cd.quad {d : Dr} {W X : World} {p g cap p0 k : Nat} {cs : List In} (h : Cd d W X p g cap cs) (h0 : Rdr d W p0) (hk : k < cs.length) (i : In) : Cd d W (quad X g k i) p g cap (cs.set k i) := by
 obtain ⟨e, hs⟩ := quad_other X g k i
 obtain ⟨h1, h2⟩ := h.other (q := g) h0 e hs (quad_os X g k i) h.at.1
 exact ⟨h1, h2, quad_row h.row hk i, h.lo⟩
theorem box_sets {W : World} {q : Nat} {x0 x1 x2 x3 : Value} (h : W.heap[q]? = some (.cells #[x0, x1, x2, x3] 31)) (v : Value) : (W.setCell ⟨q, 0, none⟩ v).heap[q]? = some (.cells #[v, x1, x2, x3] 31) := by
 simp [World.setCell, Array.getElem?_modify, h]
theorem app_ins {W : World} {B : Nat} {v : Value} {l m : List In} {b off cap : Nat} (hown : W.ownsRow B 31 4 v l.length (rowZ In.cell 4 l)) (hc : InsAt W b off m) (hm : l.length + m.length ≤ 2000000) (hB : B ≤ W.heap.size) (ty : TypeId) :
   ∃ v' W', (Builtin.append_ #[23, 23] ty #[v, .slice (some ⟨b, off, none⟩) m.length cap]).run Tryz.prog W = .ok v' W' ∧ W'.ownsRow B 31 4 v' (l ++ m).length (rowZ In.cell 4 (l ++ m)) ∧ W.grownBy W' v.ownBlock := by
 obtain ⟨i0, hinf, hz0, hz1, hz2⟩ := info_parts info_insC
 obtain ⟨v', W', hr, h2, h3, -, -⟩ := run_append_own_at (P := Tryz.prog) W B 23 ty 31 i0 _ 4 32 Tryz.underlying23 hinf hz0 hz1 hz2 rfl (by decide) v l.length (rowZ In.cell 4 l) hown ⟨b, off, none⟩ m.length cap (rowZ In.cell 4 m) (rowZ_len _ 4 m)
   (fun j u hu => by
     have hj : j < m.length * 4 := by
       have := (List.getElem?_eq_some_iff.1 hu).1
       rwa [rowZ_len] at this
     rw [z48 In.cell 4 (by decide) m j hj] at hu
     cases hu
     rw [Addr.add_lit]
     have := hc (j / 4) (by omega) (j % 4) (by omega)
     rwa [show off + j / 4 * 4 + j % 4 = off + j by omega] at this)
   (fun u hu => by
     unfold rowZ at hu
     rw [List.mem_flatMap] at hu
     obtain ⟨x, -, hu⟩ := hu
     rw [List.mem_map] at hu
     obtain ⟨i, -, rfl⟩ := hu
     unfold In.cell
     split <;> rfl) (by unfold maxLen; omega) (by omega) hB
 refine ⟨v', W', hr, ?_, h3⟩
 rw [List.length_append, rowZ_app]
 exact h2
theorem ins_at {X : World} {B g cap : Nat} {cs : List In} (h : X.ownsRow B 31 4 (.slice (some ⟨g, 0, none⟩) cs.length cap) cs.length (rowZ In.cell 4 cs)) : InsAt X g 0 cs := fun k hk c hc => by
 rw [Nat.zero_add, h.cellAt (k * 4 + c) (by omega), z48 In.cell 4 (by decide) cs _ (by omega), show (k * 4 + c) / 4 = k by omega, show (k * 4 + c) % 4 = c by omega]
theorem ins_part {W : World} {b : Nat} {ns l r : List In} {k : Nat} (h : InsAt W b 0 ns) (hd : ns.drop k = l ++ r) : InsAt W b (k * 4) l := fun j hj c hc => by
 have hlen := congrArg List.length hd
 simp only [List.length_drop, List.length_append] at hlen
 have e := h (k + j) (by omega) c hc
 rw [show 0 + (k + j) * 4 + c = k * 4 + j * 4 + c by omega] at e
 rw [e]
 congr 2
 have : ns.getD (k + j) default = (ns.drop k).getD j default := by simp [List.getD, List.getElem?_drop]
 rw [this, hd]
 simp [List.getD, List.getElem?_append_left hj]
theorem ins_last {W : World} {b e o : Nat} {ns : List In} (h : ns.drop e = [] ∨ o = e * 4) (hn : InsAt W b 0 ns) : InsAt W b o (ns.drop e) := by
 rcases h with h | rfl
 · rw [h]
   exact fun k hk => by simp at hk
 · exact ins_part (r := []) hn (by simp)
theorem ins_made (X : World) : (X.alloc (.cells #[] 31)).ownsRow X.heap.size 31 4 (.slice (some ⟨X.heap.size, 0, none⟩) 0 0) ([] : List In).length (rowZ In.cell 4 []) := World.ownsRow_made X #[] 0 (Nat.le_refl _) (Nat.zero_le _) rfl
theorem effW_of {d : Dr} {W : World} {ad : Option Addr} {n cp : Nat} {es : List Ef} (h : EffsD d W (.slice ad n cp) es) : n = es.length ∧ EffW W ad cp es := by
 rcases h.1 with ⟨h1, h2⟩ | ⟨b, off, cap, h1, h2, rfl, h4, h5⟩
 · cases h1
   exact ⟨h2.symm, Or.inl ⟨rfl, List.eq_nil_of_length_eq_zero h2, rfl⟩⟩
 · cases h1
   refine ⟨rfl, Or.inr ⟨b, rfl, h4.1, fun k hk c hc => ?_, h2⟩⟩
   rw [Nat.zero_add]
   have := h5 (k * 3 + c) (by omega)
   rw [Nat.zero_add] at this
   rw [this]
   exact congrArg some (cell_div es Ef.cell 3 k c hc)
theorem treeN_of {d : Dr} {W : World} {v : Value} {ns : List Nd} (h : NodesD d W v ns) (h1 : 1 ≤ ns.length) : ∃ b cap, v = .slice (some ⟨b, 0, none⟩) ns.length cap ∧ b < W.heap.size ∧ NodesAt W b 0 ns := by
 have hsl := h.slice
 rcases h.1 with ⟨h2, h3⟩ | ⟨b, off, cap, h2, h3, rfl, h4, -⟩
 · omega
 · refine ⟨b, cap, h2, h4.1, ?_⟩
   obtain ⟨a, c, e, h5⟩ := hsl
   rw [h2] at e
   cases e
   rcases h5 with rfl | ⟨b', off', e', -, hn⟩
   · simp at h1
   · cases e'
     exact hn
set_option maxHeartbeats 8000000 in
set_option maxRecDepth 100000 in
theorem code_calls {d : Dr} {W : World} {p : Nat} (hG : d.G = d.B) (h : Rdr d W p) (hp : p ≤ 500000) : Calls Tryz.prog 10 #[.pointer (some ⟨d.B, 0, none⟩)] W (CodePost d W p) := by
 have hB := z26 h.blk
 have H0 := hid (And.intro h (And.intro hp (And.intro hB hG)))
 have HP := hid (prog_calls hG h hp)
 clear hG h hp hB
 go_enter Tryz.func10, Tryz.ntmps10
 go_wp2_with fail
 refine HP.out.mono ?_
 rintro e W1 ⟨ad, n, cp, vt, es, ns, p1, rfl, hE, hE4, hN, hT, hR, hq, hg⟩
 obtain ⟨rfl, hEW⟩ := effW_of hE
 obtain ⟨tn, tk, t1, -, -, t4⟩ := hT
 obtain ⟨bt, cn, rfl, hbt, hNA⟩ := treeN_of hN (by rw [t1]; simp)
 have HC := hid (compile_calls (cn := cn) hEW (by omega) hbt hNA t4)
 have HR := hid (And.intro hR (And.intro hq hg))
 clear HP hE hE4 hN hR hq hg hEW hbt hNA t1 t4
 go_wp2_with fail
 refine HC.out.mono ?_
 rintro e W2 ⟨v, cs, x, rfl, hown, hcl, hb, -, -⟩
 obtain ⟨adv, cpv, rfl⟩ := own_slice hown
 have HO := hid (own_base hown HR.out.2.2.size)
 have HCl := hid hcl
 have R2 := hid (HR.out.1.below hb)
 have G2 := hid (HR.out.2.2.trans (Grew.of_below hb))
 have HQ := hid HR.out.2.1
 clear HC hown hcl hb HR
 obtain ⟨L, hL⟩ : ∃ L, cs.length = L := ⟨_, rfl⟩
 have HL := hid hL
 rw [hL] at HO ⊢
 clear hL
 go_wp2_with fail
 refine (z71 R2.out (by have := HQ.out; have := H0.out.2.1; omega) 4 (by decide)).mono ?_
 rintro e W3 ⟨m4, rfl, hm40, hm41, hr3, hg3, -, -⟩
 have R3 := hid hr3
 have G3 := hid (G2.out.trans hg3)
 have O3 := hid (g_grew HO.out H0.out.2.2.1 (by rw [H0.out.2.2.2]; exact H0.out.2.2.1) hg3)
 clear hr3 hg3 R2 G2 HO
 have FIN : Hid (CodePost d W p (.returned (.slice adv L cpv)) W3) := ⟨_, cs, _, rfl, by rw [HL.out]; exact O3.out, by have := HCl.out; omega, R3.out, by have := HQ.out; omega, G3.out⟩
 by_cases h4 : m4 = 0
 · subst h4
   by_cases hL0 : (0 : Int) < (L : Int)
   · obtain ⟨g, hgv⟩ : ∃ g, adv = some ⟨g, 0, none⟩ := by
       obtain ⟨-, ⟨-, h0⟩ | ⟨g, cap, cur, e, -⟩⟩ := O3.out
       · omega
       · cases e
         exact ⟨g, rfl⟩
     subst hgv
     have C3 : Hid (Cd d W W3 (p1 + 1) g cpv cs) := ⟨R3.out, G3.out, by rw [HL.out]; exact O3.out, H0.out.2.2.1, H0.out.2.2.2⟩
     clear R3 G3 O3 FIN hm40 hm41
     go_wp2_with fail
     refine (z71 C3.out.rd (by have := HQ.out; have := H0.out.2.1; omega) (L : Int) hL0).mono ?_
     rintro e W4 ⟨mk, rfl, hmk0, hmk1, hr4, hg4, -, -⟩
     have C4 := hid (C3.out.pick hr4 hg4)
     obtain ⟨k, rfl⟩ : ∃ k : Nat, mk = (k : Int) := ⟨mk.toNat, by omega⟩
     have hcs := ins_at C4.out.row
     have hkl : k < cs.length := by rw [HL.out]; omega
     have HK := hid hkl
     have c0 := hcs k hkl 0 (by omega)
     have c1 := hcs k hkl 1 (by omega)
     have c2 := hcs k hkl 2 (by omega)
     have c3 := hcs k hkl 3 (by omega)
     obtain ⟨⟨op, a, b, c⟩, hi⟩ : ∃ i, cs.getD k default = i := ⟨_, rfl⟩
     rw [hi] at c0 c1 c2 c3
     simp only [In.cell, Nat.add_zero, Nat.zero_add] at c0 c1 c2 c3
     have hA := (MapKept.heap_alloc W4 (.cells #[.int .i64 op, .int .i64 a, .int .i64 b, .int .i64 c] 31)).1
     have hB1 := (Below.refl W4.heap.size W4).alloc (Nat.le_refl _) (.cells #[.int .i64 op, .int .i64 a, .int .i64 b, .int .i64 c] 31)
     obtain ⟨Y, hY⟩ : ∃ Y, W4.alloc (.cells #[.int .i64 op, .int .i64 a, .int .i64 b, .int .i64 c] 31) = Y := ⟨_, rfl⟩
     rw [hY] at hA hB1
     have HY := hid hY
     have HA := hid hA
     have CY := hid (C4.out.below hB1)
     have hqg : W4.heap.size ≠ g := by have := C4.out.at.2.1; omega
     have HQg := hid (And.intro hqg (show W.heap.size ≤ W4.heap.size from C4.out.gr.size))
     obtain ⟨q, hqq⟩ : ∃ q, W4.heap.size = q := ⟨_, rfl⟩
     rw [hqq] at HA HQg
     clear hcs hkl hi hA hB1 hY hr4 hg4 C3 C4 hqg
     go_upto_region 5 with fail
     rw [HY.out]
     try rw [hqq]
     clear HY c0 c1 c2 c3 hqq hmk0
     go_wp2_with fail
     refine (z71 CY.out.rd (by have := HQ.out; have := H0.out.2.1; omega) 7 (by decide)).mono ?_
     rintro e W6 ⟨m7, rfl, hm70, hm71, hr6, hg6, -, ho6⟩
     have C6 := hid (CY.out.pick hr6 hg6)
     have A6 := hid ((ho6 q (by have := HQg.out.2; have := CY.out.lo; omega)).trans HA.out)
     clear hr6 hg6 ho6 HA CY
     have hk0 : (0 : Int) ≤ (k : Int) := by omega
     have HE : Hid (∀ Z s, Cd d W Z s g cpv cs → s ≤ p1 + 4 → ∀ i : In, CodePost d W p (.returned (.slice (some ⟨g, 0, none⟩) L cpv)) (quad Z g k i)) := fun Z s hz hs i => by
       have h1 := hz.quad H0.out.1 HK.out i
       have h2 := h1.row
       rw [List.length_set] at h2
       have h3 := HL.out
       refine ⟨_, cs.set k i, _, rfl, ?_, by rw [List.length_set]; have := HCl.out; omega, h1.rd, by have := HQ.out; omega, h1.gr⟩
       rw [List.length_set, ← h3]
       exact h2
     have h7 : m7 = 0 ∨ m7 = 1 ∨ m7 = 2 ∨ m7 = 3 ∨ m7 = 4 ∨ m7 = 5 ∨ m7 = 6 := by omega
     clear hm70 hm71
     rcases h7 with rfl | rfl | rfl | rfl | rfl | rfl | rfl
     · have x0 := z11 A6.out 0
       have z0 := z13 A6.out 0
       simp at x0
       go_wp2_with fail
       refine (z71 C6.out.rd (by have := HQ.out; have := H0.out.2.1; omega) 28 (by decide)).mono ?_
       rintro e W7 ⟨m8, rfl, hm80, hm81, hr7, hg7, -, ho7⟩
       have C7 := hid (C6.out.pick hr7 hg7)
       have A7 := hid ((ho7 q (by have := HQg.out.2; have := C6.out.lo; omega)).trans A6.out)
       clear hr7 hg7 ho7 x0 z0
       obtain ⟨zz, hzz⟩ : ∃ zz : Int, m8 - 1 = zz := ⟨_, rfl⟩
       have x0 := z11 A7.out 0
       have z0 := z13 A7.out 0
       simp at x0
       have C8 := hid (C7.out.set H0.out.1 HQg.out.2 HQg.out.1 0 (.int .i64 zz))
       have A8 := hid (box_sets A7.out (.int .i64 zz))
       obtain ⟨Z, hZ⟩ : ∃ Z, W7.setCell ⟨q, 0, none⟩ (.int .i64 zz) = Z := ⟨_, rfl⟩
       rw [hZ] at C8 A8
       have HZ := hid hZ
       have HZz := hid hzz
       clear hZ hzz
       go_upto_region 20 with fail
       rw [HZz.out, HZ.out]
       clear HZ x0 z0
       have x0 := z11 A8.out 0
       have x1 := z11 A8.out 1
       have x2 := z11 A8.out 2
       have x3 := z11 A8.out 3
       simp at x0 x1 x2 x3
       obtain ⟨-, -, cur, hcur⟩ := C8.out.at
       have hcs := ins_at C8.out.row
       have y0 := hcs k HK.out 0 (by omega)
       have f0 := z13 hcur (k * 4)
       have y1 := hcs k HK.out 1 (by omega)
       have f1 := z13 hcur (k * 4 + 1)
       have y2 := hcs k HK.out 2 (by omega)
       have f2 := z13 hcur (k * 4 + 2)
       have y3 := hcs k HK.out 3 (by omega)
       have f3 := z13 hcur (k * 4 + 3)
       simp only [Nat.add_zero, Nat.zero_add] at y0 y1 y2 y3
       clear hcur hcs
       have HR := hid (HE.out Z _ C8.out (by omega) ⟨zz, a, b, c⟩)
       unfold quad at HR
       dsimp only at HR
       go_wp2_with fail
       go_ret
       exact HR.out
     · have c1 := z11 A6.out 1
       simp at c1
       go_upto_region 9 with fail
       have hD : Below W6.heap.size W6 W6.drew := (Below.refl _ _).drew
       obtain ⟨D, hDe⟩ : ∃ D, W6.drew = D := ⟨_, rfl⟩
       rw [hDe] at hD
       have CD := hid (C6.out.below hD)
       have AD := hid ((hD.block q (z26 A6.out)).trans A6.out)
       refine z33 (S := fun _ => True) (by kernel_rfl) rfl rfl ?_
       rw [hDe]
       clear hDe hD c1
       refine pick_o 0 (.pointer (some ⟨q, 1, none⟩)) trivial ?_
       refine pick_o 2 (.pointer (some ⟨d.B, 0, none⟩)) trivial ?_
       refine z46 (i := 1) (j := 3) (by kernel_rfl) ?_ ?_
       · have c1 := z11 AD.out 1
         simp at c1
         refine ⟨_, .int .i64 a, D, rfl, rfl, by simp [go_sem, c1], trivial, ?_⟩
         refine z15 (by simp [go_sem]; exact rfl) ?_
         clear c1
         refine z27 (i := 3) (f := 16) (args := #[.pointer (some ⟨d.B, 0, none⟩), .int .i64 3]) rfl (by kernel_rfl) rfl rfl (by simp [go_sem]) ?_
         refine (z71 CD.out.rd (by have := HQ.out; have := H0.out.2.1; omega) 3 (by decide)).mono ?_
         rintro e W7 ⟨m8, rfl, hm80, hm81, hr7, hg7, -, ho7⟩
         have C7 := hid (CD.out.pick hr7 hg7)
         have A7 := hid ((ho7 q (by have := HQg.out.2; have := CD.out.lo; omega)).trans AD.out)
         clear hr7 hg7 ho7
         refine ⟨_, rfl, trivial, ?_⟩
         refine z15 (by simp [go_sem]; exact rfl) ?_
         have c1 := z11 A7.out 1
         have z1 := z13 A7.out 1
         simp at c1
         refine z12 (i := 4) (v := .int .i64 (wrap64 (a + m8))) (by kernel_rfl) rfl (by kernel_rfl) (by kernel_rfl) rfl rfl (fun w' _ => by simp [go_sem]; exact IntWalk.i64_left _) trivial (by simp [go_sem]; exact rfl) ?_
         obtain ⟨z4, hz4⟩ : ∃ z : Int, wrap64 (a + m8) = z := ⟨_, rfl⟩
         rw [hz4]
         clear hz4
         refine z12 (i := 5) (v := .int .i64 (wrap64 (z4 - 1))) (by kernel_rfl) rfl (by kernel_rfl) (by kernel_rfl) rfl rfl (fun w' _ => by simp [go_sem]; exact IntWalk.i64_left _) trivial (by simp [go_sem]; exact rfl) ?_
         obtain ⟨zz, hzz⟩ : ∃ z : Int, wrap64 (z4 - 1) = z := ⟨_, rfl⟩
         rw [hzz]
         clear hzz
         refine pick_o 6 (.pointer (some ⟨q, 1, none⟩)) trivial ?_
         refine z40 (i := 7) rfl (w1 := W7.setCell ⟨q, 1, none⟩ (.int .i64 zz)) rfl (by kernel_rfl) rfl rfl (by simp [go_sem, c1, z1]) trivial ?_
         refine z32 (by kernel_rfl) ?_
         have C8 := hid (C7.out.set H0.out.1 HQg.out.2 HQg.out.1 1 (.int .i64 zz))
         have A8 := hid (box_set A7.out (.int .i64 zz)).1
         generalize W7.setCell ⟨q, 1, none⟩ (.int .i64 zz) = Z at *
         clear c1 z1
         go_upto_region 20 with fail
         have x0 := z11 A8.out 0
         have x1 := z11 A8.out 1
         have x2 := z11 A8.out 2
         have x3 := z11 A8.out 3
         simp at x0 x1 x2 x3
         obtain ⟨-, -, cur, hcur⟩ := C8.out.at
         have hcs := ins_at C8.out.row
         have y0 := hcs k HK.out 0 (by omega)
         have f0 := z13 hcur (k * 4)
         have y1 := hcs k HK.out 1 (by omega)
         have f1 := z13 hcur (k * 4 + 1)
         have y2 := hcs k HK.out 2 (by omega)
         have f2 := z13 hcur (k * 4 + 2)
         have y3 := hcs k HK.out 3 (by omega)
         have f3 := z13 hcur (k * 4 + 3)
         simp only [Nat.add_zero, Nat.zero_add] at y0 y1 y2 y3
         clear hcur hcs
         have HR := hid (HE.out Z _ C8.out (by omega) ⟨op, zz, b, c⟩)
         unfold quad at HR
         dsimp only at HR
         go_wp2_with fail
         go_ret
         exact HR.out
       · refine ⟨_, 16, #[.pointer (some ⟨d.B, 0, none⟩), .int .i64 3], rfl, rfl, by simp [go_sem], ?_⟩
         refine (z71 CD.out.rd (by have := HQ.out; have := H0.out.2.1; omega) 3 (by decide)).mono ?_
         rintro e W7 ⟨m8, rfl, hm80, hm81, hr7, hg7, -, ho7⟩
         have C7 := hid (CD.out.pick hr7 hg7)
         have A7 := hid ((ho7 q (by have := HQg.out.2; have := CD.out.lo; omega)).trans AD.out)
         clear hr7 hg7 ho7
         refine ⟨_, rfl, trivial, ?_⟩
         refine z15 (by simp [go_sem]; exact rfl) ?_
         have c1 := z11 A7.out 1
         have z1 := z13 A7.out 1
         simp at c1
         refine z29 (i := 1) (v := .int .i64 a) (w1 := W7) rfl (by kernel_rfl) rfl rfl (by simp [go_sem, c1]) trivial (by simp [go_sem]; exact rfl) ?_
         refine z12 (i := 4) (v := .int .i64 (wrap64 (a + m8))) (by kernel_rfl) rfl (by kernel_rfl) (by kernel_rfl) rfl rfl (fun w' _ => by simp [go_sem]; exact IntWalk.i64_left _) trivial (by simp [go_sem]; exact rfl) ?_
         obtain ⟨z4, hz4⟩ : ∃ z : Int, wrap64 (a + m8) = z := ⟨_, rfl⟩
         rw [hz4]
         clear hz4
         refine z12 (i := 5) (v := .int .i64 (wrap64 (z4 - 1))) (by kernel_rfl) rfl (by kernel_rfl) (by kernel_rfl) rfl rfl (fun w' _ => by simp [go_sem]; exact IntWalk.i64_left _) trivial (by simp [go_sem]; exact rfl) ?_
         obtain ⟨zz, hzz⟩ : ∃ z : Int, wrap64 (z4 - 1) = z := ⟨_, rfl⟩
         rw [hzz]
         clear hzz
         refine pick_o 6 (.pointer (some ⟨q, 1, none⟩)) trivial ?_
         refine z40 (i := 7) rfl (w1 := W7.setCell ⟨q, 1, none⟩ (.int .i64 zz)) rfl (by kernel_rfl) rfl rfl (by simp [go_sem, c1, z1]) trivial ?_
         refine z32 (by kernel_rfl) ?_
         have C8 := hid (C7.out.set H0.out.1 HQg.out.2 HQg.out.1 1 (.int .i64 zz))
         have A8 := hid (box_set A7.out (.int .i64 zz)).1
         generalize W7.setCell ⟨q, 1, none⟩ (.int .i64 zz) = Z at *
         clear c1 z1
         go_upto_region 20 with fail
         have x0 := z11 A8.out 0
         have x1 := z11 A8.out 1
         have x2 := z11 A8.out 2
         have x3 := z11 A8.out 3
         simp at x0 x1 x2 x3
         obtain ⟨-, -, cur, hcur⟩ := C8.out.at
         have hcs := ins_at C8.out.row
         have y0 := hcs k HK.out 0 (by omega)
         have f0 := z13 hcur (k * 4)
         have y1 := hcs k HK.out 1 (by omega)
         have f1 := z13 hcur (k * 4 + 1)
         have y2 := hcs k HK.out 2 (by omega)
         have f2 := z13 hcur (k * 4 + 2)
         have y3 := hcs k HK.out 3 (by omega)
         have f3 := z13 hcur (k * 4 + 3)
         simp only [Nat.add_zero, Nat.zero_add] at y0 y1 y2 y3
         clear hcur hcs
         have HR := hid (HE.out Z _ C8.out (by omega) ⟨op, zz, b, c⟩)
         unfold quad at HR
         dsimp only at HR
         go_wp2_with fail
         go_ret
         exact HR.out
     · have x0 := z11 A6.out 2
       have z0 := z13 A6.out 2
       simp at x0
       go_wp2_with fail
       refine (z71 C6.out.rd (by have := HQ.out; have := H0.out.2.1; omega) 3 (by decide)).mono ?_
       rintro e W7 ⟨m8, rfl, hm80, hm81, hr7, hg7, -, ho7⟩
       have C7 := hid (C6.out.pick hr7 hg7)
       have A7 := hid ((ho7 q (by have := HQg.out.2; have := C6.out.lo; omega)).trans A6.out)
       clear hr7 hg7 ho7 x0 z0
       obtain ⟨zz, hzz⟩ : ∃ zz : Int, m8 = zz := ⟨_, rfl⟩
       have x0 := z11 A7.out 2
       have z0 := z13 A7.out 2
       simp at x0
       have C8 := hid (C7.out.set H0.out.1 HQg.out.2 HQg.out.1 2 (.int .i64 zz))
       have A8 := hid ((box_set A7.out (.int .i64 zz)).2.1)
       obtain ⟨Z, hZ⟩ : ∃ Z, W7.setCell ⟨q, 2, none⟩ (.int .i64 zz) = Z := ⟨_, rfl⟩
       rw [hZ] at C8 A8
       have HZ := hid hZ
       have HZz := hid hzz
       clear hZ hzz
       go_upto_region 20 with fail
       have hm := HZz.out
       subst hm
       rw [HZ.out]
       clear HZ x0 z0
       have x0 := z11 A8.out 0
       have x1 := z11 A8.out 1
       have x2 := z11 A8.out 2
       have x3 := z11 A8.out 3
       simp at x0 x1 x2 x3
       obtain ⟨-, -, cur, hcur⟩ := C8.out.at
       have hcs := ins_at C8.out.row
       have y0 := hcs k HK.out 0 (by omega)
       have f0 := z13 hcur (k * 4)
       have y1 := hcs k HK.out 1 (by omega)
       have f1 := z13 hcur (k * 4 + 1)
       have y2 := hcs k HK.out 2 (by omega)
       have f2 := z13 hcur (k * 4 + 2)
       have y3 := hcs k HK.out 3 (by omega)
       have f3 := z13 hcur (k * 4 + 3)
       simp only [Nat.add_zero, Nat.zero_add] at y0 y1 y2 y3
       clear hcur hcs
       have HR := hid (HE.out Z _ C8.out (by omega) ⟨op, a, m8, c⟩)
       unfold quad at HR
       dsimp only at HR
       go_wp2_with fail
       go_ret
       exact HR.out
     · have HW3 : Hid (wrap64 ((L : Int) + 2) = (L : Int) + 2) := by show _ = _; have := HL.out; have := HCl.out; unfold wrap64; omega
       have hp3 : (0 : Int) < (L : Int) + 2 := by omega
       have HP3 := hid hp3
       clear hp3
       go_wp2_with fail
       rw [HW3.out]
       refine (z71 C6.out.rd (by have := HQ.out; have := H0.out.2.1; omega) ((L : Int) + 2) HP3.out).mono ?_
       rintro e W7 ⟨m8, rfl, hm80, hm81, hr7, hg7, -, ho7⟩
       have C7 := hid (C6.out.pick hr7 hg7)
       have A7 := hid ((ho7 q (by have := HQg.out.2; have := C6.out.lo; omega)).trans A6.out)
       clear hr7 hg7 ho7
       have x0 := z11 A7.out 3
       have z0 := z13 A7.out 3
       simp at x0
       have C8 := hid (C7.out.set H0.out.1 HQg.out.2 HQg.out.1 3 (.int .i64 m8))
       have A8 := hid (box_set A7.out (.int .i64 m8)).2.2
       obtain ⟨Z, hZ⟩ : ∃ Z, W7.setCell ⟨q, 3, none⟩ (.int .i64 m8) = Z := ⟨_, rfl⟩
       rw [hZ] at C8 A8
       have HZ := hid hZ
       clear hZ
       go_upto_region 20 with fail
       rw [HZ.out]
       clear HZ x0 z0
       have x0 := z11 A8.out 0
       have x1 := z11 A8.out 1
       have x2 := z11 A8.out 2
       have x3 := z11 A8.out 3
       simp at x0 x1 x2 x3
       obtain ⟨-, -, cur, hcur⟩ := C8.out.at
       have hcs := ins_at C8.out.row
       have y0 := hcs k HK.out 0 (by omega)
       have f0 := z13 hcur (k * 4)
       have y1 := hcs k HK.out 1 (by omega)
       have f1 := z13 hcur (k * 4 + 1)
       have y2 := hcs k HK.out 2 (by omega)
       have f2 := z13 hcur (k * 4 + 2)
       have y3 := hcs k HK.out 3 (by omega)
       have f3 := z13 hcur (k * 4 + 3)
       simp only [Nat.add_zero, Nat.zero_add] at y0 y1 y2 y3
       clear hcur hcs
       have HR := hid (HE.out Z _ C8.out (by omega) ⟨op, a, b, m8⟩)
       unfold quad at HR
       dsimp only at HR
       go_wp2_with fail
       go_ret
       exact HR.out
     · have x0 := z11 A6.out 0
       have x1 := z11 A6.out 1
       have x2 := z11 A6.out 2
       have x3 := z11 A6.out 3
       have z0 := z13 A6.out 0
       have z1 := z13 A6.out 1
       have z2 := z13 A6.out 2
       have z3 := z13 A6.out 3
       simp at x0 x1 x2 x3
       have C8 := hid ((((C6.out.set H0.out.1 HQg.out.2 HQg.out.1 0 (.int .i64 13)).set H0.out.1 HQg.out.2 HQg.out.1 1 (.int .i64 0)).set H0.out.1 HQg.out.2 HQg.out.1 2 (.int .i64 0)).set H0.out.1 HQg.out.2 HQg.out.1 3 (.int .i64 0))
       have A8 := hid (box_set (box_set (box_set (box_sets A6.out (.int .i64 13)) (.int .i64 0)).1 (.int .i64 0)).2.1 (.int .i64 0)).2.2
       obtain ⟨Z, hZ⟩ : ∃ Z, (((W6.setCell ⟨q, 0, none⟩ (.int .i64 13)).setCell ⟨q, 1, none⟩ (.int .i64 0)).setCell ⟨q, 2, none⟩ (.int .i64 0)).setCell ⟨q, 3, none⟩ (.int .i64 0) = Z := ⟨_, rfl⟩
       rw [hZ] at C8 A8
       have HZ := hid hZ
       clear hZ
       go_upto_region 20 with fail
       rw [HZ.out]
       clear HZ x0 x1 x2 x3 z0 z1 z2 z3
       have x0 := z11 A8.out 0
       have x1 := z11 A8.out 1
       have x2 := z11 A8.out 2
       have x3 := z11 A8.out 3
       simp at x0 x1 x2 x3
       obtain ⟨-, -, cur, hcur⟩ := C8.out.at
       have hcs := ins_at C8.out.row
       have y0 := hcs k HK.out 0 (by omega)
       have f0 := z13 hcur (k * 4)
       have y1 := hcs k HK.out 1 (by omega)
       have f1 := z13 hcur (k * 4 + 1)
       have y2 := hcs k HK.out 2 (by omega)
       have f2 := z13 hcur (k * 4 + 2)
       have y3 := hcs k HK.out 3 (by omega)
       have f3 := z13 hcur (k * 4 + 3)
       simp only [Nat.add_zero, Nat.zero_add] at y0 y1 y2 y3
       clear hcur hcs
       have HR := hid (HE.out Z _ C8.out (by omega) ⟨13, 0, 0, 0⟩)
       unfold quad at HR
       dsimp only at HR
       go_wp2_with fail
       go_ret
       exact HR.out
     · have x0 := z11 A6.out 0
       have x1 := z11 A6.out 1
       have x2 := z11 A6.out 2
       have x3 := z11 A6.out 3
       have z0 := z13 A6.out 0
       have z1 := z13 A6.out 1
       have z2 := z13 A6.out 2
       have z3 := z13 A6.out 3
       simp at x0 x1 x2 x3
       have C8 := hid ((((C6.out.set H0.out.1 HQg.out.2 HQg.out.1 0 (.int .i64 3)).set H0.out.1 HQg.out.2 HQg.out.1 1 (.int .i64 0)).set H0.out.1 HQg.out.2 HQg.out.1 2 (.int .i64 0)).set H0.out.1 HQg.out.2 HQg.out.1 3 (.int .i64 0))
       have A8 := hid (box_set (box_set (box_set (box_sets A6.out (.int .i64 3)) (.int .i64 0)).1 (.int .i64 0)).2.1 (.int .i64 0)).2.2
       obtain ⟨Z, hZ⟩ : ∃ Z, (((W6.setCell ⟨q, 0, none⟩ (.int .i64 3)).setCell ⟨q, 1, none⟩ (.int .i64 0)).setCell ⟨q, 2, none⟩ (.int .i64 0)).setCell ⟨q, 3, none⟩ (.int .i64 0) = Z := ⟨_, rfl⟩
       rw [hZ] at C8 A8
       have HZ := hid hZ
       clear hZ
       go_upto_region 20 with fail
       rw [HZ.out]
       clear HZ x0 x1 x2 x3 z0 z1 z2 z3
       have x0 := z11 A8.out 0
       have x1 := z11 A8.out 1
       have x2 := z11 A8.out 2
       have x3 := z11 A8.out 3
       simp at x0 x1 x2 x3
       obtain ⟨-, -, cur, hcur⟩ := C8.out.at
       have hcs := ins_at C8.out.row
       have y0 := hcs k HK.out 0 (by omega)
       have f0 := z13 hcur (k * 4)
       have y1 := hcs k HK.out 1 (by omega)
       have f1 := z13 hcur (k * 4 + 1)
       have y2 := hcs k HK.out 2 (by omega)
       have f2 := z13 hcur (k * 4 + 2)
       have y3 := hcs k HK.out 3 (by omega)
       have f3 := z13 hcur (k * 4 + 3)
       simp only [Nat.add_zero, Nat.zero_add] at y0 y1 y2 y3
       clear hcur hcs
       have HR := hid (HE.out Z _ C8.out (by omega) ⟨3, 0, 0, 0⟩)
       unfold quad at HR
       dsimp only at HR
       go_wp2_with fail
       go_ret
       exact HR.out
     · obtain ⟨-, -, cur, hcur⟩ := C6.out.at
       have hcap : L ≤ cpv := by obtain ⟨-, ⟨h1, -⟩ | ⟨g', cap', cur', e, -, -, h2, -⟩⟩ := C6.out.row; cases h1; cases e; rw [HL.out] at h2; exact h2
       have hkL : k < L := by have := HK.out; have := HL.out; omega
       have hkc : (k : Int) ≤ (cpv : Int) := by omega
       have HW1 : Hid (wrap64 ((k : Int) + 1) = ((k + 1 : Nat) : Int)) := by show _ = _; have := HCl.out; have := HL.out; unfold wrap64; omega
       clear hcur
       go_upto_region 19 with fail
       have hD : Below W6.heap.size W6 W6.drew := (Below.refl _ _).drew
       obtain ⟨D, hDe⟩ : ∃ D, W6.drew = D := ⟨_, rfl⟩
       rw [hDe] at hD
       have CD := hid (C6.out.below hD)
       refine z33 (S := fun _ => True) (by kernel_rfl) rfl rfl ?_
       rw [hDe]
       clear hDe hD
       have hk9 : ¬ cpv < k := by omega
       have he9 : k + 1 ≤ L := by omega
       have he8 : ((k + 1 : Nat) : Int) ≤ (L : Int) := by omega
       obtain ⟨o3, ho3, hO3⟩ : ∃ o3, (if cpv = k + 1 then some (⟨g, 0, none⟩ : Addr) else some ⟨g, (k + 1) * 4, none⟩) = some ⟨g, o3, none⟩ ∧ (cs.drop (k + 1) = [] ∨ o3 = (k + 1) * 4) := by
         by_cases h : cpv = k + 1
         · exact ⟨0, by rw [if_pos h], Or.inl (List.drop_eq_nil_of_le (by have := HL.out; omega))⟩
         · exact ⟨(k + 1) * 4, by rw [if_neg h], Or.inr rfl⟩
       have HO3 := hid hO3
       clear hO3
       refine pick_o 1 (.slice (some ⟨g, 0, none⟩) L cpv) trivial ?_
       refine pick_o 2 (.int .i64 (k : Int)) trivial ?_
       refine pick_o (hy := fun w' _ => by simp [go_sem, Tryz.underlying23, hk9]) 3 (.slice (some ⟨g, 0, none⟩) k cpv) trivial ?_
       refine pick_o 5 (.slice (some ⟨g, 0, none⟩) L cpv) trivial ?_
       refine pick_o 6 (.int .i64 (k : Int)) trivial ?_
       refine z12 (i := 7) (v := .int .i64 (wrap64 ((k : Int) + 1))) (by kernel_rfl) rfl (by kernel_rfl) (by kernel_rfl) rfl rfl (fun w' _ => by simp [go_sem]; exact IntWalk.i64_left _) trivial (by simp [go_sem]; exact rfl) ?_
       rw [HW1.out]
       obtain ⟨k1, hk1⟩ : ∃ k1, k + 1 = k1 := ⟨_, rfl⟩
       rw [hk1] at ho3 he9 HO3 ⊢
       have HK1 := hid hk1
       clear hk1 he8 HW1
       refine pick_o (hy := fun w' _ => by simp [go_sem, Tryz.underlying23, he9, ho3]) 8 (.slice (some ⟨g, o3, none⟩) (L - k1) (cpv - k1)) trivial ?_
       have OW0 := hid (ins_made D)
       have BL0 : Hid (Below D.heap.size D (D.alloc (.cells #[] 31))) := (Below.refl _ _).alloc (Nat.le_refl _) _
       refine z29 (i := 0) (v := .slice (some ⟨D.heap.size, 0, none⟩) 0 0) (w1 := D.alloc (.cells #[] 31)) rfl (by kernel_rfl) rfl rfl (by simp [go_sem]) trivial (by simp [go_sem]; exact rfl) ?_
       generalize D.alloc (.cells #[] 31) = Y0 at *
       have HNs := hid (fun (Y : World) (hb : Below D.heap.size D Y) => ins_at (CD.out.below hb).row)
       have HLn : Hid ((cs.take k).length = k ∧ (cs.drop k1).length = L - k1) := ⟨by rw [List.length_take]; have := HK.out; omega, by rw [List.length_drop, HL.out]⟩
       obtain ⟨v1, Y1, hrun, hown, hgr⟩ := app_ins (b := g) (off := 0) (cap := cpv) OW0.out (m := cs.take k) (by have h := ins_part (k := 0) (l := cs.take k) (r := cs.drop k) (HNs.out Y0 BL0.out) (by rw [List.drop_zero, List.take_append_drop]); rwa [Nat.zero_mul] at h) (by rw [HLn.out.1]; have := HCl.out; have := HK.out; simp; omega) BL0.out.size 23
       have OW1 := hid hown
       have BL1 : Hid (Below D.heap.size D Y1) := BL0.out.grown hgr BL0.out.size (fun x hx => (OW0.out.lt x hx).1)
       rw [HLn.out.1] at hrun
       obtain ⟨ad1, cp1, hv1⟩ := g_is hown
       obtain ⟨l1, hl1⟩ : ∃ l, (([] : List In) ++ cs.take k).length = l := ⟨_, rfl⟩
       rw [hl1] at hv1
       subst hv1
       clear hown hgr hl1
       refine z29 (i := 4) (v := .slice ad1 l1 cp1) (w1 := Y1) rfl (by kernel_rfl) rfl rfl (z52 (s := .tmp 67) (x := .tmp 70) (t := 23) rfl rfl rfl hrun) trivial (by simp [go_sem]; exact rfl) ?_
       clear hrun
       have HLl : Hid ((([] : List In) ++ cs.take k).length + (cs.drop k1).length ≤ 950000) := by show _ ≤ _; have h1 := HLn.out.2; have h2 := HLn.out.1; have h3 := HCl.out; have h4 := HL.out; have h5 := HK1.out; rw [List.nil_append]; omega
       obtain ⟨v2, Y2, hrun, hown, hgr⟩ := app_ins (b := g) (off := o3) (cap := cpv - k1) OW1.out (m := cs.drop k1) (ins_last HO3.out (HNs.out Y1 BL1.out)) (by have := HLl.out; omega) BL1.out.size 23
       have OW2 := hid hown
       have BL2 : Hid (Below D.heap.size D Y2) := BL1.out.grown hgr BL1.out.size (fun x hx => (OW1.out.lt x hx).1)
       rw [HLn.out.2] at hrun
       obtain ⟨ad2, cp2, hv2⟩ := g_is hown
       obtain ⟨l2, hl2⟩ : ∃ l, ((([] : List In) ++ cs.take k) ++ cs.drop k1).length = l := ⟨_, rfl⟩
       rw [hl2] at hv2
       subst hv2
       clear hown hgr hl2
       refine z29 (i := 9) (v := .slice ad2 l2 cp2) (w1 := Y2) rfl (by kernel_rfl) rfl rfl (z52 (s := .tmp 71) (x := .tmp 75) (t := 23) rfl rfl rfl hrun) trivial (by simp [go_sem]; exact rfl) ?_
       clear hrun
       refine pick_o 10 (.slice ad2 l2 cp2) trivial ?_
       refine z32 (by kernel_rfl) ?_
       have CE := hid (CD.out.below BL2.out)
       have HDs : Hid (W.heap.size ≤ D.heap.size) := CD.out.gr.size
       have HR : Hid (CodePost d W p (.returned (.slice ad2 l2 cp2)) Y2) := ⟨_, _, _, rfl, own_base OW2.out HDs.out, by rw [List.length_append]; have := HLl.out; omega, CE.out.rd, by have := HQ.out; omega, CE.out.gr⟩
       clear hk9 he9 ho3 hkc hkL hcap
       go_wp2_with fail
       go_ret
       exact HR.out
   · have z4 : ¬ ((0 : Int) < (L : Int)) := hL0
     go_wp2_with fail
     go_ret
     exact FIN.out
 · have z4 : (m4 == 0) = false := by simp [h4]
   go_wp2_with fail
   go_ret
   exact FIN.out
end
section
open Go.RowKit
def manyZ (op : Int) : Int :=
 if op = 0 ∨ op = 3 ∨ op = 4 ∨ op = 8 ∨ op = 9 ∨ op = 12 ∨ op = 13 ∨ op = 15 ∨ op = 16 ∨ op = 17 ∨ op = 18 ∨ op = 20 ∨ op = 23 then 0
 else if op = 1 ∨ op = 2 ∨ op = 5 ∨ op = 6 ∨ op = 7 ∨ op = 10 ∨ op = 11 ∨ op = 14 ∨ op = 19 ∨ op = 22 then 1
 else if op = 24 ∨ op = 25 then 2
 else if op = 21 then 3
 else -1
theorem ops_cases (op : Int) : (op < 0 ∨ 25 < op) ∨ op = 0 ∨ op = 1 ∨ op = 2 ∨ op = 3 ∨ op = 4 ∨ op = 5 ∨ op = 6 ∨ op = 7 ∨ op = 8 ∨ op = 9 ∨ op = 10 ∨ op = 11 ∨ op = 12 ∨ op = 13 ∨ op = 14 ∨ op = 15 ∨ op = 16 ∨ op = 17 ∨ op = 18 ∨ op = 19 ∨ op = 20 ∨ op = 21 ∨ op = 22 ∨ op = 23 ∨ op = 24 ∨ op = 25 := by omega
set_option maxRecDepth 100000 in
theorem l5Many_calls (op : Int) (w : World) :
   Calls Tryz.prog 41 #[.int .i64 op] w fun e w' => e = .returned (.int .i64 (manyZ op)) ∧ w = w' := by
 rcases ops_cases op with h | h | h | h | h | h | h | h | h | h | h | h | h | h | h | h | h | h | h | h | h | h | h | h | h | h | h
 case inl =>
   rw [show manyZ op = -1 by unfold manyZ; rw [if_neg (by omega), if_neg (by omega), if_neg (by omega), if_neg (by omega)]]
   have n0 : op ≠ 0 := by omega
   have n1 : op ≠ 1 := by omega
   have n2 : op ≠ 2 := by omega
   have n3 : op ≠ 3 := by omega
   have n4 : op ≠ 4 := by omega
   have n5 : op ≠ 5 := by omega
   have n6 : op ≠ 6 := by omega
   have n7 : op ≠ 7 := by omega
   have n8 : op ≠ 8 := by omega
   have n9 : op ≠ 9 := by omega
   have n10 : op ≠ 10 := by omega
   have n11 : op ≠ 11 := by omega
   have n12 : op ≠ 12 := by omega
   have n13 : op ≠ 13 := by omega
   have n14 : op ≠ 14 := by omega
   have n15 : op ≠ 15 := by omega
   have n16 : op ≠ 16 := by omega
   have n17 : op ≠ 17 := by omega
   have n18 : op ≠ 18 := by omega
   have n19 : op ≠ 19 := by omega
   have n20 : op ≠ 20 := by omega
   have n21 : op ≠ 21 := by omega
   have n22 : op ≠ 22 := by omega
   have n23 : op ≠ 23 := by omega
   have n24 : op ≠ 24 := by omega
   have n25 : op ≠ 25 := by omega
   clear h
   go_enter Tryz.func41, Tryz.ntmps41
   go_wp2
   go_ret
   exact ⟨rfl, rfl⟩
 all_goals
   subst h
   go_enter Tryz.func41, Tryz.ntmps41
   go_wp2
   go_ret
   exact ⟨rfl, rfl⟩
def insOkZ (op a b c : Int) : Bool :=
 if manyZ op < 0 ∨ (manyZ op < 1 ∧ a ≠ 0) ∨ (manyZ op < 2 ∧ b ≠ 0) ∨ (manyZ op < 3 ∧ c ≠ 0) then false
 else if op = 1 then decide (-2147483648 ≤ a ∧ a ≤ 2147483647)
 else if op = 2 then decide (a = 0 ∨ a = 1)
 else if op = 14 then decide (11 ≤ a ∧ a ≤ 15)
 else if op = 21 ∧ b ≠ 0 ∧ b ≠ 1 then false
 else decide (0 ≤ a ∧ a ≤ 65535 ∧ 0 ≤ b ∧ b ≤ 65535 ∧ 0 ≤ c ∧ c ≤ 65535)

end
section
open Go.RowKit
def In.ok (i : In) : Bool := insOkZ i.op i.a i.b i.c
def codeOkZ (cs : List In) : Bool := decide (cs.length ≤ 1500) && cs.all In.ok
theorem ins_drop {cs : List In} {k : Nat} (hk : k < cs.length) : cs.take (k + 1) = cs.take k ++ [cs.getD k default] := by
 rw [List.take_succ_eq_append_getElem hk]
 simp [List.getD, List.getElem?_eq_getElem hk]
end
section
open Go.RowKit

structure Sq where
 n : Int
 v : Int
 p : Int

instance : Inhabited Sq := ⟨⟨0, 0, 0⟩⟩

instance : DecidableEq Sq := fun a b =>
 if h : a.n = b.n ∧ a.v = b.v ∧ a.p = b.p then isTrue (by cases a; cases b; obtain ⟨h1, h2, h3⟩ := h; dsimp only at h1 h2 h3; subst h1 h2 h3; rfl)
 else isFalse (fun e => h (by subst e; exact ⟨rfl, rfl, rfl⟩))
def tg (T : List Sq) (k : Nat) : Sq := T.getD k default
theorem tg_set {T : List Sq} {k : Nat} (hk : k < T.length) (s : Sq) (j : Nat) : tg (T.set k s) j = if j = k then s else tg T j := by
 unfold tg
 simp only [List.getD_eq_getElem?_getD, List.getElem?_set]
 by_cases h : k = j
 · subst h
   simp [hk]
 · have h' : ¬ j = k := fun e => h e.symm
   simp [h, h']
theorem tg_out {T : List Sq} {k : Nat} (hk : ¬ k < T.length) : tg T k = ⟨0, 0, 0⟩ := by
 unfold tg
 rw [List.getD_eq_getElem?_getD, List.getElem?_eq_none (by omega)]
 rfl
def free (T : List Sq) : Nat := T.countP (fun s => decide (s.p = 0))
theorem free_le (T : List Sq) : free T ≤ T.length := List.countP_le_length
theorem free_set : ∀ (T : List Sq) (k : Nat), k < T.length → (tg T k).p = 0 → ∀ s : Sq, s.p ≠ 0 → free (T.set k s) + 1 = free T
 | [], _, h, _, _, _ => absurd h (by simp)
 | x :: r, 0, _, h0, s, hs => by
   have h0' : x.p = 0 := h0
   simp [free, hs, h0']
 | x :: r, k + 1, h, h0, s, hs => by
   have ih := free_set r k (by simpa using h) (by simpa [tg] using h0) s hs
   simp only [free, List.set_cons_succ, List.countP_cons] at ih ⊢
   omega
def clausesZ (cs : List In) (a : Int) : List In := (cs.drop (a.toNat + 1)).take (cs.getD a.toNat default).b.toNat
def tableZ (cs : List In) (a : Int) : Bool :=
 decide (a < (cs.length : Int)) && (decide ((cs.getD a.toNat default).op = 24) && (decide ((cs.getD a.toNat default).b ≤ 4) && (decide ((cs.getD a.toNat default).b < (cs.length : Int) - a) && (clausesZ cs a).all (fun i => decide (i.op = 25)))))
def needsZ (cs : List In) (i : In) (s : Sq) : Bool :=
 if i.op = 5 then decide (i.a < s.n)
 else if i.op = 8 ∨ i.op = 14 ∨ i.op = 15 ∨ i.op = 18 then decide (2 ≤ s.v)
 else if i.op = 10 ∨ i.op = 12 ∨ i.op = 16 ∨ i.op = 17 ∨ i.op = 19 ∨ i.op = 20 ∨ i.op = 22 then decide (1 ≤ s.v)
 else if i.op = 13 then decide (1 ≤ s.n)
 else if i.op = 21 then tableZ cs i.a
 else if i.op = 0 then decide (s.v = 1 ∧ s.p = 1)
 else if i.op = 9 then decide (s.v = 1 ∧ s.p = 2)
 else if i.op = 23 then decide (s.v = 1 ∧ s.p = 3)
 else if i.op = 24 ∨ i.op = 25 then false
 else true
def Sq.more (s : Sq) (n v : Int) : Sq := ⟨s.n + n, s.v + v, s.p⟩
def handleZ (cs : List In) (k : Nat) (i : In) (s : Sq) : List (Int × Sq) :=
 ((cs.getD i.a.toNat default).a, ⟨s.n + 1, 0, 2⟩) :: (clausesZ cs i.a).map (fun c => (c.b, (⟨s.n + 2, 0, 2⟩ : Sq))) ++ [((k : Int) + 1, ⟨s.n, 0, 3⟩), (i.c, s.more 0 1)]
def exitsZ (cs : List In) (k : Nat) (i : In) (s : Sq) : List (Int × Sq) :=
 if i.op = 1 ∨ i.op = 2 ∨ i.op = 3 ∨ i.op = 4 ∨ i.op = 5 then [((k : Int) + 1, s.more 0 1)]
 else if i.op = 6 then [(i.a, ⟨s.n + 1, 0, 2⟩), ((k : Int) + 1, s.more 0 1)]
 else if i.op = 7 then [(i.a, ⟨s.n + 2, 0, 2⟩), ((k : Int) + 1, s.more 0 1)]
 else if i.op = 8 ∨ i.op = 14 ∨ i.op = 15 ∨ i.op = 18 then [((k : Int) + 1, s.more 0 (-1))]
 else if i.op = 10 then [(i.a, s.more 0 (-1)), ((k : Int) + 1, s.more 0 (-1))]
 else if i.op = 11 then [(i.a, s)]
 else if i.op = 12 then [((k : Int) + 1, s.more 1 (-1))]
 else if i.op = 13 then [((k : Int) + 1, s.more (-1) 0)]
 else if i.op = 16 ∨ i.op = 17 ∨ i.op = 20 ∨ i.op = 22 then [((k : Int) + 1, s)]
 else if i.op = 19 then [(i.a, s.more 0 (-1)), ((k : Int) + 1, s.more 2 (-1))]
 else if i.op = 21 then handleZ cs k i s
 else []

inductive Reach (cs : List In) : Nat → Sq → Prop
 | start : Reach cs 0 ⟨0, 0, 1⟩
 | step {k : Nat} {s : Sq} {e : Int × Sq} : Reach cs k s → k < cs.length → needsZ cs (cs.getD k default) s = true → e ∈ exitsZ cs k (cs.getD k default) s → Reach cs e.1.toNat e.2
def GoodV (cs : List In) : Prop := ∀ k s, Reach cs k s → k < cs.length ∧ s.n ≤ 100 ∧ s.v ≤ 100 ∧ needsZ cs (cs.getD k default) s = true ∧ ∀ s', Reach cs k s' → s' = s
def comeZ (N : Nat) (T : List Sq) (w : List Nat) (e : Int × Sq) : Option (List Sq × List Nat) :=
 if e.1 < 0 ∨ (N : Int) ≤ e.1 ∨ e.2.n < 0 ∨ e.2.v < 0 ∨ 100 < e.2.n ∨ 100 < e.2.v then none
 else if tg T e.1.toNat = e.2 then some (T, w)
 else if (tg T e.1.toNat).p ≠ 0 then none
 else some (T.set e.1.toNat e.2, w ++ [e.1.toNat])
def comesZ (N : Nat) : List Sq → List Nat → List (Int × Sq) → Option (List Sq × List Nat)
 | T, w, [] => some (T, w)
 | T, w, e :: r => match comeZ N T w e with
   | none => none
   | some (T', w') => comesZ N T' w' r
def SaneS (s : Sq) : Prop := (s.p = 0 ∧ s.n = 0 ∧ s.v = 0) ∨ (1 ≤ s.p ∧ s.p ≤ 3 ∧ 0 ≤ s.n ∧ s.n ≤ 100 ∧ 0 ≤ s.v ∧ s.v ≤ 100)
theorem sane_zero {s : Sq} (h : SaneS s) (h0 : s.p = 0) : s = ⟨0, 0, 0⟩ := by
 cases s with
 | mk n v p =>
   rcases h with ⟨a, b, c⟩ | hs
   · dsimp only at a b c
     rw [a, b, c]
   · dsimp only at h0 hs
     omega

structure Tab (cs : List In) (T : List Sq) (w : List Nat) : Prop where
 len : T.length = cs.length
 rch : ∀ k, (tg T k).p ≠ 0 → Reach cs k (tg T k)
 sane : ∀ s ∈ T, SaneS s
 work : ∀ k ∈ w, k < cs.length ∧ (tg T k).p ≠ 0
 room : w.length + free T ≤ cs.length
def Grows (T T' : List Sq) : Prop := ∀ k, (tg T k).p ≠ 0 → tg T' k = tg T k
theorem Grows.refl (T : List Sq) : Grows T T := fun _ _ => rfl
theorem Grows.trans {T T' T'' : List Sq} (h : Grows T T') (h' : Grows T' T'') : Grows T T'' := fun k hk => by
 have e := h k hk
 rw [h' k (by rw [e]; exact hk), e]
theorem come_bad {cs : List In} {T : List Sq} {w : List Nat} {e : Int × Sq} (hT : Tab cs T w) (hr : Reach cs e.1.toNat e.2) (h0 : 0 ≤ e.1) (hn : 0 ≤ e.2.n) (hv : 0 ≤ e.2.v) (h : comeZ cs.length T w e = none) : ¬ GoodV cs := fun hg => by
 obtain ⟨g1, g2, g3, -, g5⟩ := hg _ _ hr
 unfold comeZ at h
 rw [if_neg (by omega)] at h
 by_cases h1 : tg T e.1.toNat = e.2
 · rw [if_pos h1] at h
   cases h
 · rw [if_neg h1] at h
   by_cases h2 : (tg T e.1.toNat).p ≠ 0
   · exact h1 (g5 _ (hT.rch _ h2))
   · rw [if_neg h2] at h
     cases h

structure Noted (cs : List In) (T : List Sq) (w : List Nat) (es : List (Int × Sq)) (T' : List Sq) (w' : List Nat) : Prop where
 tab : Tab cs T' w'
 grows : Grows T T'
 told : ∀ e ∈ es, tg T' e.1.toNat = e.2 ∧ 0 ≤ e.1 ∧ e.1.toNat < cs.length
 news : ∀ k, (tg T' k).p ≠ 0 → (tg T k).p ≠ 0 ∨ k ∈ w'
 olds : ∀ k ∈ w, k ∈ w'
 less : 2 * free T' + w'.length ≤ 2 * free T + w.length
theorem come_some {cs : List In} {T : List Sq} {w : List Nat} {e : Int × Sq} {T' : List Sq} {w' : List Nat} (hT : Tab cs T w) (hr : Reach cs e.1.toNat e.2) (hp : 1 ≤ e.2.p ∧ e.2.p ≤ 3) (h : comeZ cs.length T w e = some (T', w')) : Noted cs T w [e] T' w' := by
 unfold comeZ at h
 by_cases h0 : e.1 < 0 ∨ (cs.length : Int) ≤ e.1 ∨ e.2.n < 0 ∨ e.2.v < 0 ∨ 100 < e.2.n ∨ 100 < e.2.v
 · rw [if_pos h0] at h
   cases h
 rw [if_neg h0] at h
 by_cases h1 : tg T e.1.toNat = e.2
 · rw [if_pos h1] at h
   cases h
   exact ⟨hT, Grows.refl _, fun e' he' => by rw [List.mem_singleton] at he'; subst he'; exact ⟨h1, by omega, by omega⟩, fun k hk => Or.inl hk, fun k hk => hk, Nat.le_refl _⟩
 rw [if_neg h1] at h
 by_cases h2 : (tg T e.1.toNat).p ≠ 0
 · rw [if_pos h2] at h
   cases h
 rw [if_neg h2] at h
 cases h
 have h3 : (tg T e.1.toNat).p = 0 := Classical.byContradiction h2
 have hk : e.1.toNat < T.length := by rw [hT.len]; omega
 have hf := free_set T e.1.toNat hk h3 e.2 (by omega)
 have hts := tg_set hk e.2
 refine ⟨⟨by rw [List.length_set]; exact hT.len, fun k hk' => ?_, fun s hs => ?_, fun k hk' => ?_, ?_⟩, fun k hk' => ?_, fun e' he' => ?_, fun k hk' => ?_, fun k hk' => List.mem_append_left _ hk', ?_⟩
 · rw [hts] at hk' ⊢
   split
   · rename_i e1
     subst e1
     exact hr
   · rename_i e1
     rw [if_neg e1] at hk'
     exact hT.rch k hk'
 · rcases List.mem_or_eq_of_mem_set hs with h4 | rfl
   · exact hT.sane s h4
   · exact Or.inr ⟨by omega, by omega, by omega, by omega, by omega, by omega⟩
 · rw [List.mem_append, List.mem_singleton] at hk'
   rw [hts]
   rcases hk' with h4 | rfl
   · obtain ⟨h5, h6⟩ := hT.work k h4
     refine ⟨h5, ?_⟩
     split
     · omega
     · exact h6
   · rw [if_pos rfl]
     exact ⟨by omega, by omega⟩
 · have := hT.room
   rw [List.length_append, List.length_singleton]
   omega
 · rw [hts, if_neg (fun e1 => by subst e1; exact hk' h3)]
 · rw [List.mem_singleton] at he'
   subst he'
   rw [hts, if_pos rfl]
   exact ⟨rfl, by omega, by omega⟩
 · rw [hts] at hk'
   by_cases e1 : k = e.1.toNat
   · exact Or.inr (List.mem_append_right _ (List.mem_singleton.2 e1))
   · rw [if_neg e1] at hk'
     exact Or.inl hk'
 · rw [List.length_append, List.length_singleton]
   omega
theorem comes_some {cs : List In} : ∀ {es : List (Int × Sq)} {T : List Sq} {w : List Nat} {T' : List Sq} {w' : List Nat}, Tab cs T w → (∀ e ∈ es, Reach cs e.1.toNat e.2 ∧ 1 ≤ e.2.p ∧ e.2.p ≤ 3) → comesZ cs.length T w es = some (T', w') → Noted cs T w es T' w'
 | [], T, w, T', w', hT, _, h => by
   simp only [comesZ] at h
   cases h
   exact ⟨hT, Grows.refl _, fun e he => absurd he (by simp), fun k hk => Or.inl hk, fun k hk => hk, Nat.le_refl _⟩
 | e :: r, T, w, T', w', hT, he, h => by
   simp only [comesZ] at h
   cases hc : comeZ cs.length T w e with
   | none =>
     rw [hc] at h
     cases h
   | some x =>
     obtain ⟨T1, w1⟩ := x
     rw [hc] at h
     have h1 := come_some hT (he e (List.mem_cons_self ..)).1 (he e (List.mem_cons_self ..)).2 hc
     have h2 := comes_some h1.tab (fun e' he' => he e' (List.mem_cons_of_mem _ he')) h
     refine ⟨h2.tab, h1.grows.trans h2.grows, fun e' he' => ?_, fun k hk => ?_, fun k hk => h2.olds k (h1.olds k hk), Nat.le_trans h2.less h1.less⟩
     · rcases List.mem_cons.1 he' with rfl | h3
       · have h4 := h1.told e' (List.mem_singleton.2 rfl)
         have h5 := (he e' (List.mem_cons_self ..)).2
         refine ⟨?_, h4.2⟩
         rw [h2.grows _ (by rw [h4.1]; omega), h4.1]
       · exact h2.told e' h3
     · rcases h2.news k hk with h3 | h3
       · rcases h1.news k h3 with h4 | h4
         · exact Or.inl h4
         · exact Or.inr (h2.olds k h4)
       · exact Or.inr h3
theorem comes_bad {cs : List In} : ∀ {es : List (Int × Sq)} {T : List Sq} {w : List Nat}, Tab cs T w → (∀ e ∈ es, Reach cs e.1.toNat e.2 ∧ 1 ≤ e.2.p ∧ e.2.p ≤ 3 ∧ 0 ≤ e.1 ∧ 0 ≤ e.2.n ∧ 0 ≤ e.2.v) → comesZ cs.length T w es = none → ¬ GoodV cs
 | [], T, w, _, _, h => by
   simp only [comesZ] at h
   cases h
 | e :: r, T, w, hT, he, h => by
   simp only [comesZ] at h
   obtain ⟨h1, h2, h3, h4, h5, h6⟩ := he e (List.mem_cons_self ..)
   cases hc : comeZ cs.length T w e with
   | none => exact come_bad hT h1 h4 h5 h6 hc
   | some x =>
     obtain ⟨T1, w1⟩ := x
     rw [hc] at h
     exact comes_bad (come_some hT h1 ⟨h2, h3⟩ hc).tab (fun e' he' => he e' (List.mem_cons_of_mem _ he')) h
def Done (cs : List In) (T : List Sq) (k : Nat) : Prop := needsZ cs (cs.getD k default) (tg T k) = true ∧ ∀ e ∈ exitsZ cs k (cs.getD k default) (tg T k), tg T e.1.toNat = e.2 ∧ e.1.toNat < cs.length
theorem ok_nums {i : In} (h : i.ok = true) (h1 : i.op ≠ 1) (h14 : i.op ≠ 14) (h2 : i.op ≠ 2) : 0 ≤ i.a ∧ i.a ≤ 65535 ∧ 0 ≤ i.b ∧ i.b ≤ 65535 ∧ 0 ≤ i.c ∧ i.c ≤ 65535 := by
 unfold In.ok insOkZ at h
 split at h
 · cases h
 · split at h
   · cases h
   · exact of_decide_eq_true h
theorem z41 {cs : List In} (h : ∀ i ∈ cs, i.ok = true) {k : Nat} (hk : k < cs.length) : (cs.getD k default).ok = true := by
 rw [List.getD_eq_getElem?_getD, List.getElem?_eq_getElem hk]
 exact h _ (List.getElem_mem hk)
theorem clauses_mem {cs : List In} {a : Int} {i : In} (h : i ∈ clausesZ cs a) : i ∈ cs := List.mem_of_mem_drop (List.mem_of_mem_take h)
theorem table_parts {cs : List In} {a : Int} (h : tableZ cs a = true) : a < (cs.length : Int) ∧ (cs.getD a.toNat default).op = 24 ∧ (cs.getD a.toNat default).b ≤ 4 ∧ (cs.getD a.toNat default).b < (cs.length : Int) - a ∧ ∀ i ∈ clausesZ cs a, i.op = 25 := by
 unfold tableZ at h
 simp only [Bool.and_eq_true, decide_eq_true_eq, List.all_eq_true] at h
 exact ⟨h.1, h.2.1, h.2.2.1, h.2.2.2.1, h.2.2.2.2⟩
set_option maxHeartbeats 4000000 in
theorem exits_right {cs : List In} (hok : ∀ i ∈ cs, i.ok = true) {k : Nat} {s : Sq} (hk : k < cs.length) (hn0 : 0 ≤ s.n) (hv0 : 0 ≤ s.v) (hp : 1 ≤ s.p ∧ s.p ≤ 3) (hneed : needsZ cs (cs.getD k default) s = true) : ∀ e ∈ exitsZ cs k (cs.getD k default) s, 1 ≤ e.2.p ∧ e.2.p ≤ 3 ∧ 0 ≤ e.1 ∧ 0 ≤ e.2.n ∧ 0 ≤ e.2.v := by
 have hi := z41 hok hk
 generalize hie : cs.getD k default = i at hi hneed
 intro e he
 unfold exitsZ at he
 unfold needsZ at hneed
 split at he
 · rw [List.mem_singleton] at he
   subst he
   simp only [Sq.more]
   omega
 rename_i n1
 have hnum : 0 ≤ i.a ∧ 0 ≤ i.c ∨ i.op = 14 := by
   by_cases h14 : i.op = 14
   · exact Or.inr h14
   · have := ok_nums hi (by omega) h14 (by omega)
     exact Or.inl ⟨by omega, by omega⟩
 split at he
 · rcases List.mem_cons.1 he with rfl | he
   · dsimp only; omega
   · rw [List.mem_singleton] at he
     subst he
     simp only [Sq.more]
     omega
 split at he
 · rcases List.mem_cons.1 he with rfl | he
   · dsimp only; omega
   · rw [List.mem_singleton] at he
     subst he
     simp only [Sq.more]
     omega
 split at he
 · rename_i hop
   rw [if_neg (by omega), if_pos hop] at hneed
   have := of_decide_eq_true hneed
   rw [List.mem_singleton] at he
   subst he
   simp only [Sq.more]
   omega
 rename_i n4
 split at he
 · rename_i hop
   rw [if_neg (by omega), if_neg n4, if_pos (by omega)] at hneed
   have := of_decide_eq_true hneed
   rcases List.mem_cons.1 he with rfl | he
   · simp only [Sq.more]; omega
   · rw [List.mem_singleton] at he
     subst he
     simp only [Sq.more]
     omega
 split at he
 · rw [List.mem_singleton] at he
   subst he
   dsimp only
   omega
 split at he
 · rename_i hop
   rw [if_neg (by omega), if_neg n4, if_pos (by omega)] at hneed
   have := of_decide_eq_true hneed
   rw [List.mem_singleton] at he
   subst he
   simp only [Sq.more]
   omega
 split at he
 · rename_i hop
   rw [if_neg (by omega), if_neg n4, if_neg (by omega), if_pos hop] at hneed
   have := of_decide_eq_true hneed
   rw [List.mem_singleton] at he
   subst he
   simp only [Sq.more]
   omega
 split at he
 · rw [List.mem_singleton] at he
   subst he
   dsimp only
   omega
 split at he
 · rename_i hop
   rw [if_neg (by omega), if_neg n4, if_pos (by omega)] at hneed
   have := of_decide_eq_true hneed
   rcases List.mem_cons.1 he with rfl | he
   · simp only [Sq.more]; omega
   · rw [List.mem_singleton] at he
     subst he
     simp only [Sq.more]
     omega
 split at he
 · rename_i hop
   rw [if_neg (by omega), if_neg n4, if_neg (by omega), if_neg (by omega), if_pos hop] at hneed
   obtain ⟨t1, t2, t3, t4, t5⟩ := table_parts hneed
   have h0 : i.a.toNat < cs.length := by omega
   have ht := ok_nums (z41 hok h0) (by omega) (by omega) (by omega)
   unfold handleZ at he
   rw [List.mem_append, List.mem_cons, List.mem_map] at he
   rcases he with (rfl | ⟨c, hc, rfl⟩) | he
   · dsimp only; omega
   · have h25 := t5 c hc
     have hcn := ok_nums (hok c (clauses_mem hc)) (by omega) (by omega) (by omega)
     dsimp only
     omega
   · rcases List.mem_cons.1 he with rfl | he
     · dsimp only; omega
     · rw [List.mem_singleton] at he
       subst he
       simp only [Sq.more]
       omega
 · cases he
theorem reach_right {cs : List In} (hok : ∀ i ∈ cs, i.ok = true) {k : Nat} {s : Sq} (h : Reach cs k s) : 0 ≤ s.n ∧ 0 ≤ s.v ∧ 1 ≤ s.p ∧ s.p ≤ 3 := by
 induction h with
 | start => exact ⟨by decide, by decide, by decide, by decide⟩
 | step hr hk hneed he ih =>
   obtain ⟨h1, h2, h3, h4, h5⟩ := exits_right hok hk ih.1 ih.2.1 ih.2.2 hneed _ he
   exact ⟨h4, h5, h1, h2⟩
theorem all_done {cs : List In} (hok : ∀ i ∈ cs, i.ok = true) {T : List Sq} (h0 : 0 < cs.length) (h1 : tg T 0 = ⟨0, 0, 1⟩) (hd : ∀ k, (tg T k).p ≠ 0 → Done cs T k) : ∀ k s, Reach cs k s → tg T k = s ∧ k < cs.length := by
 intro k s h
 induction h with
 | start => exact ⟨h1, h0⟩
 | step hr hk hneed he ih =>
   have hp := reach_right hok hr
   have hd' := hd _ (by rw [ih.1]; omega)
   unfold Done at hd'
   rw [ih.1] at hd'
   exact hd'.2 _ he
theorem good_of_done {cs : List In} (hok : ∀ i ∈ cs, i.ok = true) {T : List Sq} {w : List Nat} (hT : Tab cs T w) (h0 : 0 < cs.length) (h1 : tg T 0 = ⟨0, 0, 1⟩) (hd : ∀ k, (tg T k).p ≠ 0 → Done cs T k) : GoodV cs := fun k s h => by
 obtain ⟨e, hk⟩ := all_done hok h0 h1 hd k s h
 have hp := reach_right hok h
 have hs : SaneS (tg T k) := hT.sane _ (by
   unfold tg
   rw [List.getD_eq_getElem?_getD, List.getElem?_eq_getElem (by rw [hT.len]; exact hk)]
   exact List.getElem_mem _)
 have hd' := hd k (by rw [e]; omega)
 unfold Done at hd'
 rw [e] at hd' hs
 refine ⟨hk, ?_, ?_, hd'.1, fun s' h' => ?_⟩
 · rcases hs with hs | hs <;> omega
 · rcases hs with hs | hs <;> omega
 · rw [← (all_done hok h0 h1 hd k s' h').1, e]

structure Going (cs : List In) (T : List Sq) (w : List Nat) : Prop where
 tab : Tab cs T w
 pos : 0 < cs.length
 one : tg T 0 = ⟨0, 0, 1⟩
 done : ∀ k, (tg T k).p ≠ 0 → k ∈ w ∨ Done cs T k
theorem Done.grows {cs : List In} (hok : ∀ i ∈ cs, i.ok = true) {T T' : List Sq} {w : List Nat} {k : Nat} (hT : Tab cs T w) (h : Done cs T k) (hk : (tg T k).p ≠ 0) (hg : Grows T T') : Done cs T' k := by
 have e := hg k hk
 have hr := hT.rch k hk
 have hp := reach_right hok hr
 have hl : k < cs.length := by
   apply Classical.byContradiction
   intro hc
   rw [tg_out (by rw [hT.len]; exact hc)] at hk
   exact hk rfl
 unfold Done at h ⊢
 rw [e]
 refine ⟨h.1, fun e' he' => ?_⟩
 obtain ⟨h1, h2⟩ := h.2 e' he'
 have hq := exits_right hok hl hp.1 hp.2.1 hp.2.2 h.1 e' he'
 exact ⟨by rw [hg _ (by rw [h1]; omega), h1], h2⟩
theorem tab_start {cs : List In} : Tab cs (List.replicate cs.length (⟨0, 0, 0⟩ : Sq)) [] := by
 have z : ∀ k, tg (List.replicate cs.length (⟨0, 0, 0⟩ : Sq)) k = ⟨0, 0, 0⟩ := fun k => by
   by_cases hk : k < cs.length
   · unfold tg
     rw [List.getD_eq_getElem?_getD, List.getElem?_replicate, if_pos hk]
     rfl
   · exact tg_out (by rw [List.length_replicate]; exact hk)
 refine ⟨List.length_replicate, fun k hk => absurd (by rw [z]) hk, fun s hs => ?_, fun k hk => absurd hk (by simp), ?_⟩
 · rw [List.eq_of_mem_replicate hs]
   exact Or.inl ⟨rfl, rfl, rfl⟩
 · have := free_le (List.replicate cs.length (⟨0, 0, 0⟩ : Sq))
   rw [List.length_replicate] at this
   simpa using this
theorem first_some {cs : List In} (h0 : 0 < cs.length) : comeZ cs.length (List.replicate cs.length (⟨0, 0, 0⟩ : Sq)) [] (0, ⟨0, 0, 1⟩) = some ((List.replicate cs.length (⟨0, 0, 0⟩ : Sq)).set 0 ⟨0, 0, 1⟩, [0]) := by
 have z : tg (List.replicate cs.length (⟨0, 0, 0⟩ : Sq)) 0 = ⟨0, 0, 0⟩ := by
   unfold tg
   rw [List.getD_eq_getElem?_getD, List.getElem?_replicate, if_pos h0]
   rfl
 unfold comeZ
 dsimp only
 rw [if_neg (by omega), show (0 : Int).toNat = 0 from rfl, z, if_neg (by decide), if_neg (by decide)]
 rfl
theorem going_start {cs : List In} (h0 : 0 < cs.length) : Going cs ((List.replicate cs.length (⟨0, 0, 0⟩ : Sq)).set 0 ⟨0, 0, 1⟩) [0] := by
 have h := come_some (e := (0, ⟨0, 0, 1⟩)) tab_start Reach.start ⟨by decide, by decide⟩ (first_some h0)
 refine ⟨h.tab, h0, (h.told _ (List.mem_singleton.2 rfl)).1, fun k hk => ?_⟩
 rcases h.news k hk with h1 | h1
 · refine absurd ?_ h1
   by_cases hk' : k < cs.length
   · unfold tg
     rw [List.getD_eq_getElem?_getD, List.getElem?_replicate, if_pos hk']
     rfl
   · rw [tg_out (by rw [List.length_replicate]; exact hk')]
 · exact Or.inl h1
theorem none_bad {cs : List In} (h : ¬ 0 < cs.length) : ¬ GoodV cs := fun hg => h (hg 0 _ Reach.start).1
theorem going_at {cs : List In} (hok : ∀ i ∈ cs, i.ok = true) {T : List Sq} {w : List Nat} (h : Going cs T w) {k : Nat} (hk : k ∈ w) : k < cs.length ∧ Reach cs k (tg T k) ∧ 0 ≤ (tg T k).n ∧ (tg T k).n ≤ 100 ∧ 0 ≤ (tg T k).v ∧ (tg T k).v ≤ 100 ∧ 1 ≤ (tg T k).p ∧ (tg T k).p ≤ 3 := by
 obtain ⟨h1, h2⟩ := h.tab.work k hk
 have hr := h.tab.rch k h2
 have hp := reach_right hok hr
 have hs : SaneS (tg T k) := h.tab.sane _ (by
   unfold tg
   rw [List.getD_eq_getElem?_getD, List.getElem?_eq_getElem (by rw [h.tab.len]; exact h1)]
   exact List.getElem_mem _)
 rcases hs with hs | hs
 · omega
 · exact ⟨h1, hr, by omega, by omega, by omega, by omega, by omega, by omega⟩
theorem going_step {cs : List In} (hok : ∀ i ∈ cs, i.ok = true) {T : List Sq} {w0 w : List Nat} (h : Going cs T w0) {k : Nat} (hk : k ∈ w0) (hw : ∀ j ∈ w0, j = k ∨ j ∈ w) (hw' : ∀ j ∈ w, j ∈ w0) (hwl : w.length + 1 = w0.length) :
   (needsZ cs (cs.getD k default) (tg T k) = false → ¬ GoodV cs) ∧
   (needsZ cs (cs.getD k default) (tg T k) = true → comesZ cs.length T w (exitsZ cs k (cs.getD k default) (tg T k)) = none → ¬ GoodV cs) ∧
   (∀ T' w', needsZ cs (cs.getD k default) (tg T k) = true → comesZ cs.length T w (exitsZ cs k (cs.getD k default) (tg T k)) = some (T', w') → Going cs T' w' ∧ 2 * free T' + w'.length < 2 * free T + w0.length) := by
 obtain ⟨hkl, hr, a1, a2, a3, a4, a5, a6⟩ := going_at hok h hk
 have hT : Tab cs T w := ⟨h.tab.len, h.tab.rch, h.tab.sane, fun j hj => h.tab.work j (hw' j hj), by have := h.tab.room; omega⟩
 have hex := fun hneed => exits_right hok hkl a1 a3 ⟨a5, a6⟩ hneed
 refine ⟨fun hn hg => ?_, fun hn hc => ?_, fun T' w' hn hc => ?_⟩
 · have := (hg k _ hr).2.2.2.1
   rw [hn] at this
   cases this
 · exact comes_bad hT (fun e he => ⟨Reach.step hr hkl hn he, hex hn e he⟩) hc
 · have hN := comes_some hT (fun e he => ⟨Reach.step hr hkl hn he, (hex hn e he).1, (hex hn e he).2.1⟩) hc
   refine ⟨⟨hN.tab, h.pos, ?_, fun j hj => ?_⟩, by have := hN.less; omega⟩
   · rw [hN.grows 0 (by rw [h.one]; decide), h.one]
   · have hkp : (tg T k).p ≠ 0 := by omega
     rcases hN.news j hj with h1 | h1
     · rcases h.done j h1 with h2 | h2
       · rcases hw j h2 with rfl | h3
         · refine Or.inr ?_
           unfold Done
           rw [hN.grows j hkp]
           exact ⟨hn, fun e he => ⟨(hN.told e he).1, (hN.told e he).2.2⟩⟩
         · exact Or.inl (hN.olds j h3)
       · exact Or.inr (h2.grows hok h.tab h1 hN.grows)
     · exact Or.inl h1

structure WholeV (cs : List In) (T : List Sq) : Prop where
 len : T.length = cs.length
 sane : ∀ s ∈ T, SaneS s
 good : GoodV cs
 rch : ∀ k s, s.p ≠ 0 → (tg T k = s ↔ Reach cs k s)
theorem going_end {cs : List In} (hok : ∀ i ∈ cs, i.ok = true) {T : List Sq} (h : Going cs T []) : WholeV cs T := by
 have hd : ∀ k, (tg T k).p ≠ 0 → Done cs T k := fun k hk => (h.done k hk).resolve_left (by simp)
 exact ⟨h.tab.len, h.tab.sane, good_of_done hok h.tab h.pos h.one hd, fun k s hs => ⟨fun e => by rw [← e]; exact h.tab.rch k (by rw [e]; exact hs), fun hr => (all_done hok h.pos h.one hd k s hr).1⟩⟩
theorem whole_one {cs : List In} {T T' : List Sq} (h : WholeV cs T) (h' : WholeV cs T') : T = T' := by
 have z : ∀ {T : List Sq}, WholeV cs T → ∀ k, (tg T k).p = 0 → tg T k = ⟨0, 0, 0⟩ := fun {T} hT k h => by
   by_cases hk : k < T.length
   · have hs : SaneS (tg T k) := hT.sane _ (by
       unfold tg
       rw [List.getD_eq_getElem?_getD, List.getElem?_eq_getElem hk]
       exact List.getElem_mem _)
     exact sane_zero hs h
   · exact tg_out hk
 have key : ∀ k, tg T k = tg T' k := fun k => by
   by_cases h1 : (tg T k).p = 0
   · by_cases h2 : (tg T' k).p = 0
     · rw [z h k h1, z h' k h2]
     · exact (h.rch k _ h2).2 ((h'.rch k _ h2).1 rfl)
   · exact ((h'.rch k _ h1).2 ((h.rch k _ h1).1 rfl)).symm
 apply List.ext_getElem (by rw [h.len, h'.len])
 intro k h1 h2
 have e := key k
 unfold tg at e
 rw [List.getD_eq_getElem?_getD, List.getD_eq_getElem?_getD, List.getElem?_eq_getElem h1, List.getElem?_eq_getElem h2] at e
 exact e

open Classical in
noncomputable def validZ (cs : List In) : Bool := codeOkZ cs && decide (GoodV cs)

open Classical in
theorem valid_bad {cs : List In} (h : codeOkZ cs = false ∨ ¬ GoodV cs) : validZ cs = false := by
 unfold validZ
 rcases h with h | h
 · rw [h]
   rfl
 · rw [decide_eq_false h, Bool.and_false]

open Classical in
theorem valid_good {cs : List In} (h : codeOkZ cs = true) (h' : GoodV cs) : validZ cs = true := by
 unfold validZ
 rw [h, decide_eq_true h']
 rfl
end
section
open Go.RowKit Go.Conc
def wpN (P : Program) (c : Code) (Q : Exit → Act → World → Prop) (a : Act) (w : World) : Prop :=
 ∀ (b : Frame), b.kind ≠ .early → ∀ (k : List Item) (cs : List Frame), ∃ e a' w', Q e a' w' ∧ Arrives P (lone (b.at a (.code c :: k)) cs w) b k cs e a' w'
def InR (P : Program) (ops : Array Oper) (l : List Nat) (Q : Exit → Act → World → Prop) (a : Act) (w : World) : Prop :=
 ∀ (b : Frame), b.kind ≠ .early → ∀ (k : List Item) (cs : List Frame), ∃ e a' w', Q e a' w' ∧ Arrives P (lone (b.at a (.inRegion ops l :: k)) cs w) b k cs e a' w'

section
variable {P : Program} {Q : Exit → Act → World → Prop} {a : Act} {w : World}
theorem wpN_of {c : Code} (h : c.wp P Q a w) : wpN P c Q a w := fun b _ => h b
theorem wpN_seq {x y : Code} (h : wpN P x (Exit.then (wpN P y Q) Q) a w) : wpN P (.seq x y) Q a w := fun b hb k cs => by
 obtain ⟨e, a1, w1, hq, ha⟩ := h b hb (.code y :: k) cs
 cases e with
 | normal =>
   obtain ⟨e2, a2, w2, hq2, ha2⟩ := hq b hb k cs
   exact ⟨e2, a2, w2, hq2, .of_steps (.head step_seq ha) ha2⟩
 | _ => exact ⟨_, a1, w1, hq, .of_steps (.one step_seq) (.pass (x := .code y) rfl (fun _ _ => .inl (by simp)) ha)⟩
theorem wpN_seq_wp {x y : Code} (h : x.wp P (Exit.then (wpN P y Q) Q) a w) : wpN P (.seq x y) Q a w := wpN_seq (wpN_of h)
theorem wpN_block {id : Nat} {c : Code} (h : wpN P c (Exit.inBlock id Q) a w) : wpN P (.block id c) Q a w := fun b hb k cs => by
 obtain ⟨e, a1, w1, hq, ha⟩ := h b hb (.inBlock id :: k) cs
 cases e with
 | normal => exact ⟨.normal, a1, w1, hq, .head step_block (Steps.trans ha (.one step_inBlock))⟩
 | exit id' =>
   by_cases hid : id' = id
   · simp only [Exit.inBlock, hid, if_true] at hq
     exact ⟨.normal, a1, w1, hq, .head step_block (ha k (by simp [exitTo, hid]))⟩
   · simp only [Exit.inBlock, hid, if_false] at hq
     refine ⟨.exit id', a1, w1, hq, fun k' hk => .head step_block (ha k' ?_)⟩
     have hne : (id == id') = false := by simp; exact fun h => hid h.symm
     simp [exitTo, hne, hk]
 | goto l => exact ⟨_, a1, w1, hq, fun k' hk => .head step_block (ha k' (by simp [gotoIn, hk]))⟩
 | ret => exact ⟨_, a1, w1, hq, .of_steps (.one step_block) ha⟩
 | panic ch => exact ⟨_, a1, w1, hq, .of_steps (.one step_block) ha⟩
 | outgrown => exact ⟨_, a1, w1, hq, .of_steps (b := b) (k := k) (cs := cs) (e := .outgrown) (.one step_block) ha⟩
theorem wpN_loop {c : Code} (I : Nat → Act → World → Prop) (n : Nat) (h0 : I n a w)
   (round : ∀ n a w, I n a w → wpN P c (Exit.then (fun a' w' => ∃ m, m < n ∧ I m a' w') Q) a w) : wpN P (.loop c) Q a w := fun b hb k cs => by
 have key : ∀ n a w, I n a w → ∃ e a' w', Q e a' w' ∧ Arrives P (lone (b.at a (.code c :: .inLoop c :: k)) cs w) b k cs e a' w' := by
   intro n
   induction n using Nat.strongRecOn with
   | _ n ih =>
     intro a w hI
     obtain ⟨e, a1, w1, hq, ha⟩ := round n a w hI b hb (.inLoop c :: k) cs
     cases e with
     | normal =>
       obtain ⟨m, hm, hI1⟩ := hq
       obtain ⟨e2, a2, w2, hq2, ha2⟩ := ih m hm a1 w1 hI1
       exact ⟨e2, a2, w2, hq2, .of_steps (Steps.trans ha (.one step_inLoop)) ha2⟩
     | _ => exact ⟨_, a1, w1, hq, .pass (x := .inLoop c) rfl (fun _ _ => .inl (by simp)) ha⟩
 obtain ⟨e, a', w', hq, ha⟩ := key n a w h0
 exact ⟨e, a', w', hq, .of_steps (.one step_loop) ha⟩
theorem z51 {f : FuncId} {fn : Func} {c : Code} {args : Array Value} {R : Ending → World → Prop} (hf : P.funcs[f]? = some fn) (hc : fn.body = some c)
   (h : wpN P c (bodyPost P fn R) { tmps := args ++ Array.replicate (fn.ntmps - args.size) undef, defers := [] } w) : Calls P f args w R := fun cs => by
 have he : Frame.enter P f args .normal = ({ (default : Frame) with fn := f, kind := .normal }).at { tmps := args ++ Array.replicate (fn.ntmps - args.size) undef, defers := [] } [.code c] := by
   simp [Frame.enter, Frame.at, hf, hc]
 obtain ⟨e, a', w', hq, ha⟩ := h { (default : Frame) with fn := f, kind := .normal } (by simp) [] cs
 rw [← he] at ha
 cases e with
 | normal =>
   obtain ⟨hd, v, hr, hR⟩ := hq
   exact ⟨.returned v, w', _, hR, Steps.trans ha (.one step_end), rfl, rfl, hd, rfl, fn, hf, hr⟩
 | ret =>
   obtain ⟨hd, v, hr, hR⟩ := hq
   obtain ⟨todo, hs⟩ := ha
   exact ⟨.returned v, w', _, hR, hs, rfl, rfl, hd, rfl, fn, hf, hr⟩
 | panic chain =>
   obtain ⟨hd, hR⟩ := hq
   obtain ⟨todo, hs⟩ := ha
   exact ⟨.panicked chain, w', _, hR, hs, rfl, rfl, hd, fn, hf⟩
 | exit id => exact hq.elim
 | goto l => exact hq.elim
 | outgrown => exact ⟨.outgrown, w', { (default : Frame) with fn := f, kind := .normal }, hq, ha.resolve_left (by simp), rfl, trivial⟩
theorem inR_of {ops : Array Oper} {l : List Nat} (h : wpOps P ops Q l a w) : InR P ops l Q a w := fun b _ k cs => wp_ops l a w h b k cs
theorem wpN_region {id : Nat} {ops : Array Oper} (h : InR P ops (List.range ops.size) Q a w) : wpN P (.region id ops false) Q a w := fun b hb k cs => by
 obtain ⟨e, a', w', q, r⟩ := h b hb k cs
 exact ⟨e, a', w', q, .of_steps (.one step_region) r⟩
theorem wpN_region_draw {id : Nat} {ops : Array Oper} (h : ∀ t, InR P ops (Region.schedule (P.follows .mixedOrders) ops t) Q a w.drew) : wpN P (.region id ops true) Q a w := fun b hb k cs => by
 obtain ⟨e, a', w', q, r⟩ := h (w.tape w.drawn (.order b.fn id)) b hb k cs
 exact ⟨e, a', w', q, .of_steps (.one step_region_draw) r⟩
def AnyN (P : Program) (ops : Array Oper) (Q : Exit → Act → World → Prop) (fuel : Nat) (listed : Array Bool) (a : Act) (w : World) : Prop :=
 ∀ t, InR P ops (Region.linearise.go .any ops fuel t listed []) Q a w
theorem wpN_region_any {id : Nat} {ops : Array Oper} (hm : P.follows .mixedOrders = true) (h : AnyN P ops Q ops.size (Array.replicate ops.size false) a w.drew) : wpN P (.region id ops true) Q a w :=
 wpN_region_draw fun t => by
   simp only [Region.schedule, hm, Bool.true_or, if_true]
   exact h t
theorem anyN_next {ops : Array Oper} {fuel : Nat} {listed : Array Bool} {rs : List Nat} (hr : Region.ready .any ops listed = rs) (hne : rs ≠ [])
   (h : ∀ i ∈ rs, ∀ t, InR P ops (i :: Region.linearise.go .any ops fuel t (listed.setIfInBounds i true) []) Q a w) : AnyN P ops Q (fuel + 1) listed a w := fun t => by
 simp only [Region.linearise.go]
 change InR P ops (match (Region.ready .any ops listed)[t % (Region.ready .any ops listed).length]? with
     | some i => Region.linearise.go .any ops fuel (t / (Region.ready .any ops listed).length) (listed.setIfInBounds i true) [i]
     | none => [].reverse) Q a w
 rw [hr]
 cases hi : rs[t % rs.length]? with
 | none =>
   have hlt : t % rs.length < rs.length := Nat.mod_lt _ (List.length_pos_iff.2 hne)
   rw [List.getElem?_eq_none_iff] at hi
   omega
 | some i =>
   dsimp only
   rw [linearise_go_acc, List.reverse_singleton, List.singleton_append]
   exact h i (List.mem_of_getElem? hi) _
theorem inR_value {ops : Array Oper} {i : Nat} {rest : List Nat} {o : Oper} {v : Value} {w' : World} (ho : ops[i]? = some o) (hw : Region.wanted o (yielded ops a.tmps) = true) (hr : (execOp a.eval o).run P w = .ok (.value v) w')
   (h : InR P ops rest Q (a.put o.dst v) w') : InR P ops (i :: rest) Q a w := fun b hb k cs => by
 obtain ⟨e, a', w2, q, r⟩ := h b hb k cs
 refine ⟨e, a', w2, q, .of_steps (.one ?_) r⟩
 have hd : (ops[i]?).bind (·.dst) = o.dst := by rw [ho]; rfl
 rw [← hd, ← Frame.finish_at]
 refine step_lone_go ?_
 rw [stepG_op ho hw]
 simp [stepG.apply, hr]
theorem inR_send {ops : Array Oper} {i : Nat} {rest : List Nat} {o : Oper} {c cap s r : Nat} {buf : Array Value} {v z : Value} {tm : Bool} {w' : World} (ho : ops[i]? = some o) (hw : Region.wanted o (yielded ops a.tmps) = true) (hr : (execOp a.eval o).run P w = .ok (.comm #[scase c v z] true .send) w')
   (hc : w'.heap[c]? = some (.chan cap buf false s r tm)) (hroom : buf.size < cap) (h : InR P ops rest Q (a.put o.dst undef) (w'.setChan c cap (buf.push v) false (s + 1) r tm)) : InR P ops (i :: rest) Q a w := fun b hb k cs => by
 obtain ⟨e, a', w2, q, ar⟩ := h b hb k cs
 refine ⟨e, a', w2, q, .of_steps (.one ?_) ar⟩
 have hd : (ops[i]?).bind (·.dst) = o.dst := by rw [ho]; rfl
 have hs := step_lone_send_room (stepG_comm (k := k) (cs := cs) (rest := rest) ho hw hb hr) hc hroom
 rw [Frame.finish_at, hd] at hs
 exact hs
theorem inR_recv {ops : Array Oper} {i : Nat} {rest : List Nat} {o : Oper} {c cap s r : Nat} {buf : Array Value} {z : Value} {tm closed : Bool} {w' : World} (ho : ops[i]? = some o) (hw : Region.wanted o (yielded ops a.tmps) = true) (hr : (execOp a.eval o).run P w = .ok (.comm #[rcase c z] true (.recv true)) w')
   (hc : w'.heap[c]? = some (.chan cap buf closed s r tm)) (hsome : 0 < buf.size) (h : InR P ops rest Q (a.put o.dst (.tuple #[buf.getD 0 undef, .bool true])) (w'.setChan c cap (buf.extract 1 buf.size) closed s (r + 1) tm)) : InR P ops (i :: rest) Q a w := fun b hb k cs => by
 obtain ⟨e, a', w2, q, ar⟩ := h b hb k cs
 refine ⟨e, a', w2, q, .of_steps (.one ?_) ar⟩
 have hd : (ops[i]?).bind (·.dst) = o.dst := by rw [ho]; rfl
 have hs := step_lone_recv_buf true (stepG_comm (k := k) (cs := cs) (rest := rest) ho hw hb hr) hc hsome
 rw [Frame.finish_at, hd] at hs
 exact hs
theorem inR_shut {ops : Array Oper} {i : Nat} {rest : List Nat} {o : Oper} {c cap s r : Nat} {z : Value} {tm : Bool} {w' : World} (ho : ops[i]? = some o) (hw : Region.wanted o (yielded ops a.tmps) = true) (hr : (execOp a.eval o).run P w = .ok (.comm #[rcase c z] true (.recv true)) w')
   (hc : w'.heap[c]? = some (.chan cap #[] true s r tm)) (h : InR P ops rest Q (a.put o.dst (.tuple #[z, .bool false])) w') : InR P ops (i :: rest) Q a w := fun b hb k cs => by
 obtain ⟨e, a', w2, q, ar⟩ := h b hb k cs
 refine ⟨e, a', w2, q, .of_steps (.one ?_) ar⟩
 have hd : (ops[i]?).bind (·.dst) = o.dst := by rw [ho]; rfl
 have hs := step_lone_recv_shut true (stepG_comm (k := k) (cs := cs) (rest := rest) ho hw hb hr) hc
 rw [Frame.finish_at, hd] at hs
 exact hs
end
end
section
open Go.RowKit Go.Conc
def spc (s : Sq) : Nat → Value
 | 0 => .int .i64 s.n
 | 1 => .int .i64 s.v
 | _ => .int .i64 s.p
def spF (T : List Sq) (i : Nat) : Value := spc (tg T (i / 3)) (i % 3)
def wkA (wk : List Nat) : Array Value := (wk.map (fun (k : Nat) => Value.int .i64 (k : Int))).toArray
theorem tgF_mem {T : List Sq} {k : Nat} (hk : k < T.length) : tg T k ∈ T := by
 unfold tg
 rw [List.getD_eq_getElem?_getD, List.getElem?_eq_getElem hk]
 exact List.getElem_mem _

structure Fl (W0 : World) (Fb : Nat) (vc : Value) (gs ch N : Nat) (T : List Sq) (wk : List Nat) (d : Int) (closed : Bool) (W : World) : Prop where
 blk : W.heap[Fb]? = some (.cells #[vc, .slice (some ⟨gs, 0, none⟩) N N, .chan (some ch), .int .i64 (d + wk.length)] 64)
 row : W.rowIs gs 43 (3 * N) (spF T)
 chb : ∃ s r, W.heap[ch]? = some (.chan N (wkA wk) closed s r false)
 lo : W0.heap.size ≤ Fb ∧ W0.heap.size ≤ gs ∧ W0.heap.size ≤ ch
 bel : Below W0.heap.size W0 W
 len : T.length = N
 nl : N ≤ 1500
 sane : ∀ s ∈ T, SaneS s
 room : wk.length + free T ≤ N
 dl : 0 ≤ d ∧ d ≤ 1

structure Fz (W W' : World) : Prop where
 size : W.heap.size ≤ W'.heap.size
 block : ∀ (q : Nat) (c : Array Value) (t : TypeId), W.heap[q]? = some (Obj.cells c t) → t ≠ 43 → t ≠ 64 → W'.heap[q]? = W.heap[q]?
theorem Fz.of_below {W W' : World} (h : Below W.heap.size W W') : Fz W W' := ⟨h.size, fun q _ _ hq _ _ => h.block q (z26 hq)⟩
theorem Fz.refl (W : World) : Fz W W := Fz.of_below (Below.refl _ _)
theorem Fz.trans {W W' W'' : World} (h : Fz W W') (h' : Fz W' W'') : Fz W W'' :=
 ⟨Nat.le_trans h.size h'.size, fun q c t hq h1 h2 => by
   have e := h.block q c t hq h1 h2
   exact (h'.block q c t (e.trans hq) h1 h2).trans e⟩
theorem z56 (W : World) (c cap : Nat) (buf : Array Value) (cl : Bool) (s r : Nat) (tm : Bool) {q : Nat} (hq : q ≠ c) : (W.setChan c cap buf cl s r tm).heap[q]? = W.heap[q]? := by
 simp only [World.setChan]
 rw [Array.getElem?_setIfInBounds_ne (Ne.symm hq)]
theorem Fl.below {W0 : World} {Fb : Nat} {vc : Value} {gs ch N : Nat} {T : List Sq} {wk : List Nat} {d : Int} {closed : Bool} {W W' : World} (h : Fl W0 Fb vc gs ch N T wk d closed W) (hb : Below W.heap.size W W') : Fl W0 Fb vc gs ch N T wk d closed W' := by
 obtain ⟨s, r, hc⟩ := h.chb
 exact ⟨(hb.block _ (z26 h.blk)).trans h.blk, h.row.of_block (hb.block _ h.row.lt), ⟨s, r, (hb.block _ (z26 hc)).trans hc⟩, h.lo, h.bel.trans (hb.mono h.bel.size), h.len, h.nl, h.sane, h.room, h.dl⟩
theorem Fl.ne {W0 : World} {Fb : Nat} {vc : Value} {gs ch N : Nat} {T : List Sq} {wk : List Nat} {d : Int} {closed : Bool} {W : World} (h : Fl W0 Fb vc gs ch N T wk d closed W) : Fb ≠ gs ∧ Fb ≠ ch ∧ gs ≠ ch := by
 obtain ⟨s, r, hc⟩ := h.chb
 obtain ⟨c, hb, -⟩ := h.row
 refine ⟨fun e => ?_, fun e => ?_, fun e => ?_⟩
 · subst e
   rw [h.blk] at hb
   cases hb
 · subst e
   rw [h.blk] at hc
   cases hc
 · subst e
   rw [hb] at hc
   cases hc
theorem Fl.cells {W0 : World} {Fb : Nat} {vc : Value} {gs ch N : Nat} {T : List Sq} {wk : List Nat} {d : Int} {closed : Bool} {W : World} (h : Fl W0 Fb vc gs ch N T wk d closed W) {k : Nat} (hk : k < N) :
   W.cell? ⟨gs, k * 3, none⟩ = some (.int .i64 (tg T k).n) ∧ W.cell? ⟨gs, k * 3 + 1, none⟩ = some (.int .i64 (tg T k).v) ∧ W.cell? ⟨gs, k * 3 + 2, none⟩ = some (.int .i64 (tg T k).p) ∧ W.frozen? ⟨gs, k * 3, none⟩ = false ∧ W.frozen? ⟨gs, k * 3 + 1, none⟩ = false ∧ W.frozen? ⟨gs, k * 3 + 2, none⟩ = false := by
 refine ⟨?_, ?_, ?_, h.row.frozen _, h.row.frozen _, h.row.frozen _⟩
 · rw [h.row.cell (show k * 3 < 3 * N by omega)]
   show some (spc (tg T (k * 3 / 3)) (k * 3 % 3)) = _
   rw [show k * 3 / 3 = k by omega, show k * 3 % 3 = 0 by omega]
   rfl
 · rw [h.row.cell (show k * 3 + 1 < 3 * N by omega)]
   show some (spc (tg T ((k * 3 + 1) / 3)) ((k * 3 + 1) % 3)) = _
   rw [show (k * 3 + 1) / 3 = k by omega, show (k * 3 + 1) % 3 = 1 by omega]
   rfl
 · rw [h.row.cell (show k * 3 + 2 < 3 * N by omega)]
   show some (spc (tg T ((k * 3 + 2) / 3)) ((k * 3 + 2) % 3)) = _
   rw [show (k * 3 + 2) / 3 = k by omega, show (k * 3 + 2) % 3 = 2 by omega]
   rfl
def spot3 (W : World) (gs k : Nat) (s : Sq) : World := ((W.setCell ⟨gs, k * 3, none⟩ (.int .i64 s.n)).setCell ⟨gs, k * 3 + 1, none⟩ (.int .i64 s.v)).setCell ⟨gs, k * 3 + 2, none⟩ (.int .i64 s.p)
set_option maxHeartbeats 2000000 in
theorem Fl.push {W0 : World} {Fb : Nat} {vc : Value} {gs ch N : Nat} {T : List Sq} {wk : List Nat} {d : Int} {W : World} (h : Fl W0 Fb vc gs ch N T wk d false W) {k : Nat} (hk : k < N) (h0 : (tg T k).p = 0) {s : Sq} (hs : SaneS s) (hp : s.p ≠ 0) {s0 r0 : Nat} (hc : W.heap[ch]? = some (.chan N (wkA wk) false s0 r0 false)) :
   Fl W0 Fb vc gs ch N (T.set k s) (wk ++ [k]) d false ((((spot3 W gs k s).setCell ⟨Fb, 3, none⟩ (.int .i64 (d + wk.length + 1))).drew).setChan ch N ((wkA wk).push (.int .i64 (k : Int))) false (s0 + 1) r0 false) ∧ Fz W ((((spot3 W gs k s).setCell ⟨Fb, 3, none⟩ (.int .i64 (d + wk.length + 1))).drew).setChan ch N ((wkA wk).push (.int .i64 (k : Int))) false (s0 + 1) r0 false) := by
 have hf := free_set T k (by rw [h.len]; exact hk) h0 s hp
 have hr := h.room
 obtain ⟨n1, n2, n3⟩ := h.ne
 obtain ⟨l1, l2, l3⟩ := h.lo
 obtain ⟨cg, hcg, -⟩ := id h.row
 have hg1 : ∀ q, q ≠ gs → (spot3 W gs k s).heap[q]? = W.heap[q]? := fun q hq => by
   unfold spot3
   rw [Below.heap_setCell _ ⟨gs, k * 3 + 2, none⟩ _ q hq, Below.heap_setCell _ ⟨gs, k * 3 + 1, none⟩ _ q hq, Below.heap_setCell _ ⟨gs, k * 3, none⟩ _ q hq]
 have hg2 : ∀ q, q ≠ gs → q ≠ Fb → q ≠ ch → ((((spot3 W gs k s).setCell ⟨Fb, 3, none⟩ (.int .i64 (d + wk.length + 1))).drew).setChan ch N ((wkA wk).push (.int .i64 (k : Int))) false (s0 + 1) r0 false).heap[q]? = W.heap[q]? := fun q q1 q2 q3 => by
   rw [z56 _ _ _ _ _ _ _ _ q3]
   show ((spot3 W gs k s).setCell ⟨Fb, 3, none⟩ (.int .i64 (d + wk.length + 1))).heap[q]? = _
   rw [Below.heap_setCell _ ⟨Fb, 3, none⟩ _ q q2, hg1 q q1]
 have hsz : ((((spot3 W gs k s).setCell ⟨Fb, 3, none⟩ (.int .i64 (d + wk.length + 1))).drew).setChan ch N ((wkA wk).push (.int .i64 (k : Int))) false (s0 + 1) r0 false).heap.size = W.heap.size := by
   rw [size_setChan]
   show ((spot3 W gs k s).setCell ⟨Fb, 3, none⟩ (.int .i64 (d + wk.length + 1))).heap.size = _
   simp [spot3, World.setCell]
 have hbF : (spot3 W gs k s).heap[Fb]? = _ := (hg1 Fb n1).trans h.blk
 refine ⟨⟨?_, ?_, ⟨s0 + 1, r0, ?_⟩, h.lo, ?_, by rw [List.length_set]; exact h.len, h.nl, fun s' hs' => ?_, by rw [List.length_append, List.length_singleton]; omega, h.dl⟩, ⟨by rw [hsz]; exact Nat.le_refl _, fun q c t hq t1 t2 => hg2 q (fun e => ?_) (fun e => ?_) (fun e => ?_)⟩⟩
 · rw [z56 _ _ _ _ _ _ _ _ n2]
   show ((spot3 W gs k s).setCell ⟨Fb, 3, none⟩ (.int .i64 (d + wk.length + 1))).heap[Fb]? = _
   have e : (d + ((wk ++ [k]).length : Int)) = d + wk.length + 1 := by rw [List.length_append, List.length_singleton]; omega
   rw [e]
   simp [World.setCell, Array.getElem?_modify, hbF]
 · have r3 := ((h.row.set (k * 3) (.int .i64 s.n)).set (k * 3 + 1) (.int .i64 s.v)).set (k * 3 + 2) (.int .i64 s.p)
   have r4 : (spot3 W gs k s).rowIs gs 43 (3 * N) (spF (T.set k s)) := r3.congr (fun i hi => by
     have hts := tg_set (T := T) (show k < T.length by rw [h.len]; exact hk) s
     show _ = spc (tg (T.set k s) (i / 3)) (i % 3)
     rw [hts]
     by_cases e : i / 3 = k
     · rw [if_pos e]
       have h3 : i = k * 3 ∨ i = k * 3 + 1 ∨ i = k * 3 + 2 := by omega
       rcases h3 with rfl | rfl | rfl
       · rw [if_neg (by omega), if_neg (by omega), if_pos rfl, show k * 3 % 3 = 0 by omega]
         rfl
       · rw [if_neg (by omega), if_pos rfl, show (k * 3 + 1) % 3 = 1 by omega]
         rfl
       · rw [if_pos rfl, show (k * 3 + 2) % 3 = 2 by omega]
         rfl
     · rw [if_neg e, if_neg (by omega), if_neg (by omega), if_neg (by omega)]
       rfl)
   have e5 : ((((spot3 W gs k s).setCell ⟨Fb, 3, none⟩ (.int .i64 (d + wk.length + 1))).drew).setChan ch N ((wkA wk).push (.int .i64 (k : Int))) false (s0 + 1) r0 false).heap[gs]? = (spot3 W gs k s).heap[gs]? := by
     rw [z56 _ _ _ _ _ _ _ _ n3]
     show ((spot3 W gs k s).setCell ⟨Fb, 3, none⟩ (.int .i64 (d + wk.length + 1))).heap[gs]? = _
     exact Below.heap_setCell (spot3 W gs k s) ⟨Fb, 3, none⟩ _ gs (Ne.symm n1)
   exact r4.of_block e5
 · have e : wkA (wk ++ [k]) = (wkA wk).push (.int .i64 (k : Int)) := by simp [wkA]
   rw [e]
   refine heap_setChan _ _ _ _ _ _ _ _ ?_
   show ch < ((spot3 W gs k s).setCell ⟨Fb, 3, none⟩ (.int .i64 (d + wk.length + 1))).heap.size
   have := z26 hc
   simpa [spot3, World.setCell] using this
 · refine ⟨h.bel.os, h.bel.tape, h.bel.output, by rw [hsz]; exact h.bel.size, fun q hq => (hg2 q (by omega) (by omega) (by omega)).trans (h.bel.block q hq)⟩
 · rcases List.mem_or_eq_of_mem_set hs' with h1 | rfl
   · exact h.sane s' h1
   · exact hs
 · subst e
   rw [hcg] at hq
   cases hq
   exact t1 rfl
 · subst e
   rw [h.blk] at hq
   cases hq
   exact t2 rfl
 · subst e
   rw [hc] at hq
   cases hq
def IsBad (e : Ending) : Prop := ∃ pb, e = .returned (.iface 58 (.pointer (some ⟨pb, 0, none⟩)))
def ComeI (W0 : World) (Fb : Nat) (vc : Value) (gs ch N : Nat) (d : Int) (W : World) (r : Option (List Sq × List Nat)) (e : Ending) (W' : World) : Prop :=
 Below W0.heap.size W0 W' ∧ Fz W W' ∧ (r = none → IsBad e) ∧ ∀ x, r = some x → e = .returned .nilIface ∧ Fl W0 Fb vc gs ch N x.1 x.2 d false W'
end
section
open Go.RowKit Go.Conc
def lst2 (i j : Nat) : Array Bool := #[decide (0 < i), decide (1 < i), decide (2 < i), decide (3 < i), decide (0 < j), decide (1 < j), false]
def rd2 (i j : Nat) : List Nat := (if i < 4 then [i] else []) ++ (if j < 2 then [4 + j] else []) ++ (if i = 4 ∧ j = 2 then [6] else [])

structure Got2 (a : Act) (s : Nat) (vs : Nat → Value) (i j : Nat) (b : Act) : Prop where
 size : b.tmps.size = a.tmps.size
 old : ∀ t, t < s ∨ s + 6 ≤ t → b.tmps[t]? = a.tmps[t]?
 ga : ∀ k, k < i → b.tmps[s + k]? = some (vs k)
 gb : ∀ k, k < j → b.tmps[s + 4 + k]? = some (vs (4 + k))
 ua : ∀ k, i ≤ k → k < 4 → b.tmps[s + k]? = a.tmps[s + k]?
 ub : ∀ k, j ≤ k → k < 2 → b.tmps[s + 4 + k]? = a.tmps[s + 4 + k]?
 defers : b.defers = a.defers
theorem put_get {b : Act} {t u : Nat} {v : Value} (ht : t < b.tmps.size) : (b.put (some t) v).tmps[u]? = if u = t then some v else b.tmps[u]? := by
 unfold Act.put
 dsimp only
 rw [Array.getElem?_setIfInBounds]
 by_cases h : t = u
 · subst h
   simp [ht]
 · rw [if_neg h, if_neg (Ne.symm h)]
theorem Got2.nextA {a : Act} {s : Nat} {vs : Nat → Value} {i j : Nat} {b : Act} (h : Got2 a s vs i j b) (hs : s + 6 ≤ a.tmps.size) (hi : i < 4) : Got2 a s vs (i + 1) j (b.put (some (s + i)) (vs i)) := by
 have hg := fun u => put_get (b := b) (t := s + i) (u := u) (v := vs i) (by rw [h.size]; omega)
 refine ⟨by simp [Act.put, h.size], fun t ht => ?_, fun k hk => ?_, fun k hk => ?_, fun k h1 h2 => ?_, fun k h1 h2 => ?_, h.defers⟩
 · rw [hg, if_neg (by omega)]
   exact h.old t ht
 · rw [hg]
   by_cases e : k = i
   · rw [e, if_pos rfl]
   · rw [if_neg (by omega)]
     exact h.ga k (by omega)
 · rw [hg, if_neg (by omega)]
   by_cases e : k < 2
   · exact h.gb k hk
   · exact h.gb k hk
 · rw [hg, if_neg (by omega)]
   exact h.ua k (by omega) h2
 · rw [hg, if_neg (by omega)]
   exact h.ub k h1 h2
theorem Got2.nextB {a : Act} {s : Nat} {vs : Nat → Value} {i j : Nat} {b : Act} (h : Got2 a s vs i j b) (hs : s + 6 ≤ a.tmps.size) (hi : i ≤ 4) (hj : j < 2) : Got2 a s vs i (j + 1) (b.put (some (s + 4 + j)) (vs (4 + j))) := by
 have hg := fun u => put_get (b := b) (t := s + 4 + j) (u := u) (v := vs (4 + j)) (by rw [h.size]; omega)
 refine ⟨by simp [Act.put, h.size], fun t ht => ?_, fun k hk => ?_, fun k hk => ?_, fun k h1 h2 => ?_, fun k h1 h2 => ?_, h.defers⟩
 · rw [hg, if_neg (by omega)]
   exact h.old t ht
 · rw [hg, if_neg (by omega)]
   exact h.ga k hk
 · rw [hg]
   by_cases e : k = j
   · rw [e, if_pos rfl]
   · rw [if_neg (by omega)]
     exact h.gb k (by omega)
 · rw [hg, if_neg (by omega)]
   exact h.ua k h1 h2
 · rw [hg, if_neg (by omega)]
   exact h.ub k (by omega) h2
theorem Got2.all {a : Act} {s : Nat} {vs : Nat → Value} {b : Act} (h : Got2 a s vs 4 2 b) (hs : s + 6 ≤ a.tmps.size) :
   b = (((((a.put (some s) (vs 0)).put (some (s + 1)) (vs 1)).put (some (s + 2)) (vs 2)).put (some (s + 3)) (vs 3)).put (some (s + 4)) (vs 4)).put (some (s + 5)) (vs 5) := by
 have sz : ∀ (c : Act) t v, (c.put (some t) v).tmps.size = c.tmps.size := fun c t v => by simp [Act.put]
 have df : ∀ (c : Act) t v, (c.put (some t) v).defers = c.defers := fun c t v => rfl
 obtain ⟨a1, h1⟩ : ∃ x, a.put (some s) (vs 0) = x := ⟨_, rfl⟩
 have z1 : a1.tmps.size = a.tmps.size := by rw [← h1, sz]
 have d1 : a1.defers = a.defers := by rw [← h1, df]
 have g1 : ∀ u, a1.tmps[u]? = if u = s then some (vs 0) else a.tmps[u]? := fun u => by rw [← h1]; exact put_get (by omega)
 rw [h1]
 clear h1
 obtain ⟨a2, h2⟩ : ∃ x, a1.put (some (s + 1)) (vs 1) = x := ⟨_, rfl⟩
 have z2 : a2.tmps.size = a.tmps.size := by rw [← h2, sz]; exact z1
 have d2 : a2.defers = a.defers := by rw [← h2, df]; exact d1
 have g2 : ∀ u, a2.tmps[u]? = if u = (s + 1) then some (vs 1) else a1.tmps[u]? := fun u => by rw [← h2]; exact put_get (by rw [z1]; omega)
 rw [h2]
 clear h2
 obtain ⟨a3, h3⟩ : ∃ x, a2.put (some (s + 2)) (vs 2) = x := ⟨_, rfl⟩
 have z3 : a3.tmps.size = a.tmps.size := by rw [← h3, sz]; exact z2
 have d3 : a3.defers = a.defers := by rw [← h3, df]; exact d2
 have g3 : ∀ u, a3.tmps[u]? = if u = (s + 2) then some (vs 2) else a2.tmps[u]? := fun u => by rw [← h3]; exact put_get (by rw [z2]; omega)
 rw [h3]
 clear h3
 obtain ⟨a4, h4⟩ : ∃ x, a3.put (some (s + 3)) (vs 3) = x := ⟨_, rfl⟩
 have z4 : a4.tmps.size = a.tmps.size := by rw [← h4, sz]; exact z3
 have d4 : a4.defers = a.defers := by rw [← h4, df]; exact d3
 have g4 : ∀ u, a4.tmps[u]? = if u = (s + 3) then some (vs 3) else a3.tmps[u]? := fun u => by rw [← h4]; exact put_get (by rw [z3]; omega)
 rw [h4]
 clear h4
 obtain ⟨a5, h5⟩ : ∃ x, a4.put (some (s + 4)) (vs 4) = x := ⟨_, rfl⟩
 have z5 : a5.tmps.size = a.tmps.size := by rw [← h5, sz]; exact z4
 have d5 : a5.defers = a.defers := by rw [← h5, df]; exact d4
 have g5 : ∀ u, a5.tmps[u]? = if u = (s + 4) then some (vs 4) else a4.tmps[u]? := fun u => by rw [← h5]; exact put_get (by rw [z4]; omega)
 rw [h5]
 clear h5
 obtain ⟨a6, h6⟩ : ∃ x, a5.put (some (s + 5)) (vs 5) = x := ⟨_, rfl⟩
 have z6 : a6.tmps.size = a.tmps.size := by rw [← h6, sz]; exact z5
 have d6 : a6.defers = a.defers := by rw [← h6, df]; exact d5
 have g6 : ∀ u, a6.tmps[u]? = if u = (s + 5) then some (vs 5) else a5.tmps[u]? := fun u => by rw [← h6]; exact put_get (by rw [z5]; omega)
 rw [h6]
 clear h6
 obtain ⟨bt, bd⟩ := b
 obtain ⟨t6, e6⟩ := a6
 have hd := h.defers
 dsimp only at hd d6
 have e : bt = t6 := by
   apply Array.ext_getElem?
   intro u
   have gu := g6 u
   dsimp only at gu
   rw [gu, g5, g4, g3, g2, g1]
   by_cases u5 : u = s + 5
   · rw [if_pos u5, u5]
     exact h.gb 1 (by omega)
   rw [if_neg u5]
   by_cases u4 : u = s + 4
   · rw [if_pos u4, u4]
     exact h.gb 0 (by omega)
   rw [if_neg u4]
   by_cases u3 : u = s + 3
   · rw [if_pos u3, u3]
     exact h.ga 3 (by omega)
   rw [if_neg u3]
   by_cases u2 : u = s + 2
   · rw [if_pos u2, u2]
     exact h.ga 2 (by omega)
   rw [if_neg u2]
   by_cases u1 : u = s + 1
   · rw [if_pos u1, u1]
     exact h.ga 1 (by omega)
   rw [if_neg u1]
   by_cases u0 : u = s
   · rw [if_pos u0, u0]
     exact h.ga 0 (by omega)
   rw [if_neg u0]
   exact h.old u (by omega)
 rw [e, hd, d6]

structure Sends (P : Program) (ops : Array Oper) (a : Act) (s : Nat) (vs : Nat → Value) (c : Nat) (z : Value) (x : Value) (w : World) : Prop where
 size : ops.size = 7
 room : s + 6 ≤ a.tmps.size
 rdyB : ((List.range 5).all fun i => (List.range 3).all fun j => Region.ready .any ops (lst2 i j) == rd2 i j) = true
 dst : ∀ k, k < 6 → (ops[k]?).map (fun o => (o.dst, o.guard)) = some (some (s + k), none)
 dst6 : (ops[6]?).map (fun o => (o.dst, o.guard)) = some (none, none)
 runA : ∀ i, i < 4 → ∀ b j, Got2 a s vs i j b → ∀ o, ops[i]? = some o → (execOp b.eval o).run P w = .ok (.value (vs i)) w
 runB : ∀ j, j < 2 → ∀ b i, Got2 a s vs i j b → ∀ o, ops[4 + j]? = some o → (execOp b.eval o).run P w = .ok (.value (vs (4 + j))) w
 run6 : ∀ b, Got2 a s vs 4 2 b → ∀ o, ops[6]? = some o → (execOp b.eval o).run P w = .ok (.comm #[scase c x z] true .send) w
theorem Sends.rdy {P : Program} {ops : Array Oper} {a : Act} {s : Nat} {vs : Nat → Value} {c : Nat} {z x : Value} {w : World} (h : Sends P ops a s vs c z x w) (i : Nat) (hi : i ≤ 4) (j : Nat) (hj : j ≤ 2) : Region.ready .any ops (lst2 i j) = rd2 i j := by
 have h1 := List.all_eq_true.1 h.rdyB i (List.mem_range.2 (by omega))
 have h2 := List.all_eq_true.1 h1 j (List.mem_range.2 (by omega))
 simpa using h2
theorem setA2 : ∀ i, i < 4 → ∀ j, j ≤ 2 → (lst2 i j).setIfInBounds i true = lst2 (i + 1) j := fun i hi j hj => by
 have hi' : i = 0 ∨ i = 1 ∨ i = 2 ∨ i = 3 := by omega
 have hj' : j = 0 ∨ j = 1 ∨ j = 2 := by omega
 rcases hi' with rfl | rfl | rfl | rfl <;> rcases hj' with rfl | rfl | rfl <;> decide
theorem setB2 : ∀ i, i ≤ 4 → ∀ j, j < 2 → (lst2 i j).setIfInBounds (4 + j) true = lst2 i (j + 1) := fun i hi j hj => by
 have hi' : i = 0 ∨ i = 1 ∨ i = 2 ∨ i = 3 ∨ i = 4 := by omega
 have hj' : j = 0 ∨ j = 1 := by omega
 rcases hi' with rfl | rfl | rfl | rfl | rfl <;> rcases hj' with rfl | rfl <;> decide
theorem z61 {ops : Array Oper} {o : Oper} {ts : Array Value} (h : o.guard = none) : Region.wanted o (yielded ops ts) = true := by
 unfold Region.wanted
 rw [h]
theorem anyN_sends {P : Program} {ops : Array Oper} {a : Act} {s : Nat} {vs : Nat → Value} {c cap s0 r0 : Nat} {z x : Value} {w : World} {buf : Array Value} {Q : Exit → Act → World → Prop} (h : Sends P ops a s vs c z x w) (hc : w.heap[c]? = some (.chan cap buf false s0 r0 false)) (hroom : buf.size < cap)
   (hQ : Q .normal ((((((a.put (some s) (vs 0)).put (some (s + 1)) (vs 1)).put (some (s + 2)) (vs 2)).put (some (s + 3)) (vs 3)).put (some (s + 4)) (vs 4)).put (some (s + 5)) (vs 5)) (w.setChan c cap (buf.push x) false (s0 + 1) r0 false)) :
   ∀ n i j b, i ≤ 4 → j ≤ 2 → n + i + j = 6 → Got2 a s vs i j b → AnyN P ops Q (n + 1) (lst2 i j) b w := by
 intro n
 induction n with
 | zero =>
   intro i j b hi hj hn hg
   obtain rfl : i = 4 := by omega
   obtain rfl : j = 2 := by omega
   refine anyN_next (h.rdy 4 (by omega) 2 (by omega)) (by decide) (fun k hk t => ?_)
   have e : k = 6 := by simpa [rd2] using hk
   subst e
   have h6 := h.dst6
   cases ho : ops[6]? with
   | none => rw [ho] at h6; cases h6
   | some o =>
     rw [ho] at h6
     have h6' := Option.some.inj h6
     dsimp only at h6'
     have e1 : o.dst = none := congrArg Prod.fst h6'
     have e2 : o.guard = none := congrArg Prod.snd h6'
     refine inR_send ho (z61 e2) (h.run6 b hg o ho) hc hroom ?_
     have e3 : Region.linearise.go .any ops 0 t ((lst2 4 2).setIfInBounds 6 true) [] = [] := by simp [Region.linearise.go]
     rw [e3, e1]
     refine inR_of ?_
     have e4 := hg.all h.room
     subst e4
     simpa [wpOps, Act.put] using hQ
 | succ n ih =>
   intro i j b hi hj hn hg
   refine anyN_next (h.rdy i hi j hj) (by
     unfold rd2
     by_cases h4 : i < 4
     · rw [if_pos h4]; simp
     · rw [if_neg h4, if_pos (by omega)]; simp) (fun k hk => ?_)
   have hk2 : (i < 4 ∧ k = i) ∨ (j < 2 ∧ k = 4 + j) := by
     unfold rd2 at hk
     simp only [List.mem_append] at hk
     rcases hk with (hk | hk) | hk
     · split at hk
       · exact Or.inl ⟨by assumption, by simpa using hk⟩
       · cases hk
     · split at hk
       · exact Or.inr ⟨by assumption, by simpa using hk⟩
       · cases hk
     · rw [if_neg (by omega)] at hk
       cases hk
   intro t
   rcases hk2 with ⟨h4, rfl⟩ | ⟨h2, rfl⟩
   · have hd := h.dst k (by omega)
     cases ho : ops[k]? with
     | none => rw [ho] at hd; cases hd
     | some o =>
       rw [ho] at hd
       have hd' := Option.some.inj hd
       dsimp only at hd'
       have e1 : o.dst = some (s + k) := congrArg Prod.fst hd'
       have e2 : o.guard = none := congrArg Prod.snd hd'
       refine inR_value ho (z61 e2) (h.runA k h4 b j hg o ho) ?_
       rw [setA2 k h4 j hj, e1]
       exact ih (k + 1) j _ (by omega) hj (by omega) (hg.nextA h.room h4) t
   · have hd := h.dst (4 + j) (by omega)
     cases ho : ops[4 + j]? with
     | none => rw [ho] at hd; cases hd
     | some o =>
       rw [ho] at hd
       have hd' := Option.some.inj hd
       dsimp only at hd'
       have e1 : o.dst = some (s + (4 + j)) := congrArg Prod.fst hd'
       have e2 : o.guard = none := congrArg Prod.snd hd'
       refine inR_value ho (z61 e2) (h.runB j h2 b i hg o ho) ?_
       rw [setB2 i hi j h2, e1, show s + (4 + j) = s + 4 + j by omega]
       exact ih i (j + 1) _ hi (by omega) (by omega) (hg.nextB h.room hi h2) t
end
section
open Go.RowKit Go.Conc
theorem z39 {P : Program} {Q : Exit → Act → World → Prop} {a : Act} {w : World} {x y : Code} (h : ∀ K : Act → World → Prop, (∀ a w, wpN P y Q a w → K a w) → x.wp P (Exit.then K Q) a w) : wpN P (.seq x y) Q a w := wpN_seq_wp (h _ fun _ _ h => h)
theorem spot3_other (W : World) (gs k : Nat) (s : Sq) {q : Nat} (hq : q ≠ gs) : (spot3 W gs k s).heap[q]? = W.heap[q]? := by
 unfold spot3
 rw [Below.heap_setCell _ ⟨gs, k * 3 + 2, none⟩ _ q hq, Below.heap_setCell _ ⟨gs, k * 3 + 1, none⟩ _ q hq, Below.heap_setCell _ ⟨gs, k * 3, none⟩ _ q hq]
theorem wp_at {P : Program} {c : Code} {Q : Exit → Act → World → Prop} {a a' : Act} {w : World} (e : a = a') (h : c.wp P Q a' w) : c.wp P Q a w := by
 subst e
 exact h
set_option maxRecDepth 100000 in
set_option maxHeartbeats 8000000 in
theorem comeI_push {W0 : World} {Fb : Nat} {ac : Option Addr} {cc gs ch N : Nat} {T : List Sq} {wk : List Nat} {d : Int} {W : World} (h : Fl W0 Fb (.slice ac N cc) gs ch N T wk d false W) (k : Nat) (n v p : Int) (hk : k < N) (hn : 0 ≤ n) (hn1 : n ≤ 100) (hv : 0 ≤ v) (hv1 : v ≤ 100) (hp0 : 1 ≤ p) (hp1 : p ≤ 3) (hz : (tg T k).p = 0) :
   Calls Tryz.prog 18 #[.pointer (some ⟨Fb, 0, none⟩), .agg #[.int .i64 (k : Int), .int .i64 n, .int .i64 v, .int .i64 p]] W fun e W' => e = .returned .nilIface ∧ Fl W0 Fb (.slice ac N cc) gs ch N (T.set k ⟨n, v, p⟩) (wk ++ [k]) d false W' ∧ Fz W W' := by
 have hV1 := (MapKept.heap_alloc W (.cells #[.int .i64 (k : Int), .int .i64 n, .int .i64 v, .int .i64 p] 67)).1
 have hVb := (Below.refl W.heap.size W).alloc (Nat.le_refl _) (.cells #[.int .i64 (k : Int), .int .i64 n, .int .i64 v, .int .i64 p] 67)
 obtain ⟨V, hV⟩ : ∃ V, W.alloc (.cells #[.int .i64 (k : Int), .int .i64 n, .int .i64 v, .int .i64 p] 67) = V := ⟨_, rfl⟩
 rw [hV] at hV1 hVb
 have h1 := h.below hVb
 have hs0 : tg T k = ⟨0, 0, 0⟩ := sane_zero (h.sane _ (tgF_mem (by rw [h.len]; exact hk))) hz
 have hcell := h1.cells hk
 rw [hs0] at hcell
 obtain ⟨c0, c1, c2, -, -, -⟩ := hcell
 have hEl := z26 hV1
 have hFl := z26 h1.blk
 have hgl := h1.row.lt
 obtain ⟨Eb, hEb⟩ : ∃ Eb, W.heap.size = Eb := ⟨_, rfl⟩
 rw [hEb] at hV1 hEl
 have e0 := z11 hV1 0
 have e1 := z11 hV1 1
 have e2 := z11 hV1 2
 have e3 := z11 hV1 3
 have f0 := z11 h1.blk 0
 have f1 := z11 h1.blk 1
 simp at e0 e1 e2 e3 f0 f1
 have pe0 : ∀ y : Later V.heap.size V, y.w.cell? ⟨Eb, 0, none⟩ = _ := fun y => y.cell hEl e0
 have pf0 : ∀ y : Later V.heap.size V, y.w.cell? ⟨Fb, 0, none⟩ = _ := fun y => y.cell hFl f0
 have HV := hid hV
 have HEb := hid hEb
 have HV1 := hid hV1
 have H1 := hid h1
 have HW := hid hVb
 have HB : Hid (k < N ∧ 0 ≤ n ∧ n ≤ 100 ∧ 0 ≤ v ∧ v ≤ 100 ∧ 1 ≤ p ∧ p ≤ 3 ∧ (tg T k).p = 0) := ⟨hk, hn, hn1, hv, hv1, hp0, hp1, hz⟩
 have q1 : decide ((N : Int) ≤ (k : Int)) = false := decide_eq_false (by omega)
 have q1n : decide (N ≤ k) = false := decide_eq_false (by omega)
 have q2 : ¬ 100 < n := by omega
 have q3 : ¬ 100 < v := by omega
 have q4 : (0 == p) = false := by simp; omega
 have k0 : (0 : Int) ≤ (k : Int) := by omega
 have k1 : (k : Int) < (N : Int) := by omega
 clear h hV hV1 hVb h1 hk hn hn1 hv hv1 hp0 hp1 hz hs0 e0 e1 e2 e3 f0
 refine z51 Tryz.func18 rfl ?_
 simp only [Tryz.ntmps18, List.size_toArray, List.length_cons, List.length_nil, Nat.reduceAdd, Nat.reduceSub, Array.replicate_succ, Array.replicate_zero, List.push_toArray, List.append_toArray, List.nil_append, List.cons_append]
 refine z39 fun K hK => ?_
 go_wp2_with fail
 rw [HV.out]
 clear hEb
 refine z39 fun K hK => ?_
 go_wp2_with fail
 refine z30 V.heap.size (by kernel_rfl) (by kernel_rfl) ?_
 repeat (go_big_quiet_step (fail))
 refine wpQuiet_nil ?_
 rintro w5 ⟨y, rfl⟩
 have HY1 := hid y.h
 clear pe0 pf0
 have hf1 := (y.h.block Eb hEl).trans HV1.out
 generalize y.w = X1 at *
 have e1 := z11 hf1 1
 have e2 := z11 hf1 2
 simp at e1 e2
 go_wp2_with fail
 clear c0 c1 c2 f1 e1 e2 hFl hgl
 have HX1 := hid (H1.out.below HY1.out)
 have hBX1 := z26 HX1.out.blk
 have hGX1 := HX1.out.row.lt
 have hEX1 := z26 hf1
 have cX1 := HX1.out.cells HB.out.1
 rw [sane_zero (HX1.out.sane _ (tgF_mem (by rw [HX1.out.len]; exact HB.out.1))) HB.out.2.2.2.2.2.2.2] at cX1
 obtain ⟨c0, c1, c2, zc0, zc1, zc2⟩ := cX1
 dsimp only at c0 c1 c2
 have f1 := z11 HX1.out.blk 1
 have e0 := z11 hf1 0
 have e1 := z11 hf1 1
 have e2 := z11 hf1 2
 have e3 := z11 hf1 3
 simp at f1 e0 e1 e2 e3
 have pe0 : ∀ y : Later X1.heap.size X1, y.w.cell? ⟨Eb, 0, none⟩ = _ := fun y => y.cell hEX1 e0
 have pe1 : ∀ y : Later X1.heap.size X1, y.w.cell? ⟨Eb, 1, none⟩ = _ := fun y => y.cell hEX1 e1
 have pe2 : ∀ y : Later X1.heap.size X1, y.w.cell? ⟨Eb, 2, none⟩ = _ := fun y => y.cell hEX1 e2
 have pe3 : ∀ y : Later X1.heap.size X1, y.w.cell? ⟨Eb, 3, none⟩ = _ := fun y => y.cell hEX1 e3
 have pf1 : ∀ y : Later X1.heap.size X1, y.w.cell? ⟨Fb, 1, none⟩ = _ := fun y => y.cell hBX1 f1
 have pc0 : ∀ y : Later X1.heap.size X1, y.w.cell? ⟨gs, k * 3, none⟩ = _ := fun y => y.cell hGX1 c0
 have pc1 : ∀ y : Later X1.heap.size X1, y.w.cell? ⟨gs, k * 3 + 1, none⟩ = _ := fun y => y.cell hGX1 c1
 have pc2 : ∀ y : Later X1.heap.size X1, y.w.cell? ⟨gs, k * 3 + 2, none⟩ = _ := fun y => y.cell hGX1 c2
 refine z30 X1.heap.size (by kernel_rfl) (by kernel_rfl) ?_
 repeat (go_big_quiet_step (fail))
 refine wpQuiet_nil ?_
 rintro w5 ⟨y, rfl⟩
 have HYX2 := hid y.h
 have hfX2 := (y.h.block Eb hEX1).trans hf1
 generalize y.w = X2 at *
 clear pe0 pe1 pe2 pe3 pf1 pc0 pc1 pc2 c0 c1 c2 zc0 zc1 zc2 f1 e0 e1 e2 e3
 go_wp2_with fail
 have HX2 := hid (HX1.out.below HYX2.out)
 have hBX2 := z26 HX2.out.blk
 have hGX2 := HX2.out.row.lt
 have hEX2 := z26 hfX2
 have cX2 := HX2.out.cells HB.out.1
 rw [sane_zero (HX2.out.sane _ (tgF_mem (by rw [HX2.out.len]; exact HB.out.1))) HB.out.2.2.2.2.2.2.2] at cX2
 obtain ⟨c0, c1, c2, zc0, zc1, zc2⟩ := cX2
 dsimp only at c0 c1 c2
 have f1 := z11 HX2.out.blk 1
 have e0 := z11 hfX2 0
 have e1 := z11 hfX2 1
 have e2 := z11 hfX2 2
 have e3 := z11 hfX2 3
 simp at f1 e0 e1 e2 e3
 have pe0 : ∀ y : Later X2.heap.size X2, y.w.cell? ⟨Eb, 0, none⟩ = _ := fun y => y.cell hEX2 e0
 have pe1 : ∀ y : Later X2.heap.size X2, y.w.cell? ⟨Eb, 1, none⟩ = _ := fun y => y.cell hEX2 e1
 have pe2 : ∀ y : Later X2.heap.size X2, y.w.cell? ⟨Eb, 2, none⟩ = _ := fun y => y.cell hEX2 e2
 have pe3 : ∀ y : Later X2.heap.size X2, y.w.cell? ⟨Eb, 3, none⟩ = _ := fun y => y.cell hEX2 e3
 have pf1 : ∀ y : Later X2.heap.size X2, y.w.cell? ⟨Fb, 1, none⟩ = _ := fun y => y.cell hBX2 f1
 have pc0 : ∀ y : Later X2.heap.size X2, y.w.cell? ⟨gs, k * 3, none⟩ = _ := fun y => y.cell hGX2 c0
 have pc1 : ∀ y : Later X2.heap.size X2, y.w.cell? ⟨gs, k * 3 + 1, none⟩ = _ := fun y => y.cell hGX2 c1
 have pc2 : ∀ y : Later X2.heap.size X2, y.w.cell? ⟨gs, k * 3 + 2, none⟩ = _ := fun y => y.cell hGX2 c2
 refine z30 X2.heap.size (by kernel_rfl) (by kernel_rfl) ?_
 repeat (go_big_quiet_step (fail))
 refine wpQuiet_nil ?_
 rintro w5 ⟨y, rfl⟩
 have HYX3 := hid y.h
 have hfX3 := (y.h.block Eb hEX2).trans hfX2
 generalize y.w = X3 at *
 clear pe0 pe1 pe2 pe3 pf1 pc0 pc1 pc2 c0 c1 c2 zc0 zc1 zc2 f1 e0 e1 e2 e3
 go_wp2_with fail
 have HX3 := hid (HX2.out.below HYX3.out)
 have hBX3 := z26 HX3.out.blk
 have hGX3 := HX3.out.row.lt
 have hEX3 := z26 hfX3
 have cX3 := HX3.out.cells HB.out.1
 rw [sane_zero (HX3.out.sane _ (tgF_mem (by rw [HX3.out.len]; exact HB.out.1))) HB.out.2.2.2.2.2.2.2] at cX3
 obtain ⟨c0, c1, c2, zc0, zc1, zc2⟩ := cX3
 dsimp only at c0 c1 c2
 have f1 := z11 HX3.out.blk 1
 have e0 := z11 hfX3 0
 have e1 := z11 hfX3 1
 have e2 := z11 hfX3 2
 have e3 := z11 hfX3 3
 simp at f1 e0 e1 e2 e3
 refine z39 fun K hK => ?_
 go_wp2_with fail
 go_region
 go_wp2_with fail
 have HZb : Hid (Fl W0 Fb (.slice ac N cc) gs ch N T wk d false X3.drew) := HX3.out.below (Below.refl _ _).drew
 obtain ⟨s0, r0, hch⟩ := HZb.out.chb
 have hpush := HZb.out.push (s := ⟨n, v, p⟩) HB.out.1 HB.out.2.2.2.2.2.2.2 (Or.inr ⟨HB.out.2.2.2.2.2.1, HB.out.2.2.2.2.2.2.1, HB.out.2.1, HB.out.2.2.1, HB.out.2.2.2.1, HB.out.2.2.2.2.1⟩) (by dsimp only; have := HB.out; omega) hch
 obtain ⟨Z, hZ⟩ : ∃ Z, spot3 X3.drew gs k ⟨n, v, p⟩ = Z := ⟨_, rfl⟩
 rw [hZ] at hpush
 have hZF : Z.heap[Fb]? = X3.heap[Fb]? := by rw [← hZ]; exact spot3_other X3.drew gs k _ HX3.out.ne.1
 have hZE : Z.heap[Eb]? = X3.heap[Eb]? := by
   rw [← hZ]
   refine spot3_other X3.drew gs k _ (fun e => ?_)
   obtain ⟨cg, hcg, -⟩ := HX3.out.row
   subst e
   rw [hfX3] at hcg
   cases hcg
 have hZC : Z.heap[ch]? = X3.heap[ch]? := by rw [← hZ]; exact spot3_other X3.drew gs k _ (Ne.symm HX3.out.ne.2.2)
 have HP := hid hpush
 have HCh : Hid (Z.heap[ch]? = some (.chan N (wkA wk) false s0 r0 false)) := hZC.trans hch
 have HZE := hid (hZE.trans hfX3)
 have HZF := hid (hZF.trans HX3.out.blk)
 have f3 := z11 HZF.out 3
 have zf3 := z13 HZF.out 3
 simp at f3
 have hw3 : wrap64 (d + (wk.length : Int) + 1) = d + wk.length + 1 := by
   rw [wrap64]
   have := HX3.out.dl
   have := HX3.out.room
   have := HX3.out.nl
   omega
 have HRm : Hid (wk.length < N) := by
   show _ < _
   have h1 := HX3.out.room
   have h2 := free_set T k (by rw [HX3.out.len]; exact HB.out.1) HB.out.2.2.2.2.2.2.2 ⟨n, v, p⟩ (by dsimp only; have := HB.out; omega)
   omega
 have HFb : Hid (Fb ≠ Eb ∧ ch ≠ Fb) := by
   refine ⟨fun e => ?_, Ne.symm HX3.out.ne.2.1⟩
   subst e
   have h1 := HZF.out
   rw [HZE.out] at h1
   cases h1
 change wpN _ _ _ _ (spot3 X3.drew gs k ⟨n, v, p⟩)
 rw [hZ]
 clear hZ hpush hZF hZE hZC hch HZb c0 c1 c2 zc0 zc1 zc2 f1 e0 e1 e2 e3
 refine z39 fun K hK => ?_
 go_wp2_with fail
 obtain ⟨Z2, hZ2⟩ : ∃ Z2, Z.setCell ⟨Fb, 3, none⟩ (.int .i64 (d + wk.length + 1)) = Z2 := ⟨_, rfl⟩
 have HF2 : Hid (∃ u, Z2.heap[Fb]? = some (.cells #[.slice ac N cc, .slice (some ⟨gs, 0, none⟩) N N, .chan (some ch), u] 64)) := ⟨.int .i64 (d + wk.length + 1), by rw [← hZ2]; simp [World.setCell, Array.getElem?_modify, HZF.out]⟩
 have HE2 : Hid (Z2.heap[Eb]? = _) := (by rw [← hZ2]; exact Below.heap_setCell Z ⟨Fb, 3, none⟩ _ Eb (Ne.symm HFb.out.1) : Z2.heap[Eb]? = Z.heap[Eb]?).trans HZE.out
 have HC2 : Hid (Z2.heap[ch]? = _) := (by rw [← hZ2]; exact Below.heap_setCell Z ⟨Fb, 3, none⟩ _ ch HFb.out.2 : Z2.heap[ch]? = Z.heap[ch]?).trans HCh.out
 rw [hZ2] at HP ⊢
 clear hZ2 f3 zf3 hw3
 obtain ⟨u3, hF2⟩ := HF2.out
 have f2 := z11 hF2 2
 have e0 := z11 HE2.out 0
 simp at f2 e0
 have f2 : Z2.drew.cell? ⟨Fb, 2, none⟩ = some (.chan (some ch)) := f2
 have e0 : Z2.drew.cell? ⟨Eb, 0, none⟩ = some (.int .i64 (k : Int)) := e0
 refine wpN_seq ?_
 refine wpN_region_any (by kernel_rfl) ?_
 change AnyN _ _ _ (6 + 1) (lst2 0 0) _ _
 refine anyN_sends (w := Z2.drew) (s := 79) (vs := fun | 0 => .pointer (some ⟨Fb, 0, none⟩) | 1 => .pointer (some ⟨Fb, 0, none⟩) | 2 => .pointer (some ⟨Fb, 2, none⟩) | 3 => .chan (some ch) | 4 => .pointer (some ⟨Eb, 0, none⟩) | _ => .int .i64 (k : Int)) (c := ch) (z := .tuple #[]) (x := .int .i64 (k : Int)) (cap := N) (buf := wkA wk) (s0 := s0) (r0 := r0) ?_ (show Z2.drew.heap[ch]? = _ from HC2.out) (by simp [wkA]; exact HRm.out) ?_ 6 0 0 _ (by omega) (by omega) rfl ⟨rfl, fun _ _ => rfl, fun k hk => absurd hk (by omega), fun k hk => absurd hk (by omega), fun _ _ _ => rfl, fun _ _ _ => rfl, rfl⟩
 · refine ⟨rfl, ?_, by kernel_rfl, ?_, rfl, ?_, ?_, ?_⟩
   · exact Nat.le_refl 85
   · intro i hi
     have hi' : i = 0 ∨ i = 1 ∨ i = 2 ∨ i = 3 ∨ i = 4 ∨ i = 5 := by omega
     rcases hi' with rfl | rfl | rfl | rfl | rfl | rfl <;> rfl
   · intro i hi b j hg o ho
     have hi' : i = 0 ∨ i = 1 ∨ i = 2 ∨ i = 3 := by omega
     rcases hi' with rfl | rfl | rfl | rfl
     · have e : b.tmps[0]? = some (.pointer (some ⟨Fb, 0, none⟩)) := (hg.old 0 (by omega)).trans rfl
       cases ho
       simp [go_sem, e]
     · have e : b.tmps[79]? = some (.pointer (some ⟨Fb, 0, none⟩)) := hg.ga 0 (by omega)
       cases ho
       simp [go_sem, e]
     · have e : b.tmps[80]? = some (.pointer (some ⟨Fb, 0, none⟩)) := hg.ga 1 (by omega)
       cases ho
       simp [go_sem, e]
     · have e : b.tmps[81]? = some (.pointer (some ⟨Fb, 2, none⟩)) := hg.ga 2 (by omega)
       cases ho
       simp [go_sem, e, f2]
   · intro j hj b i hg o ho
     have hj' : j = 0 ∨ j = 1 := by omega
     rcases hj' with rfl | rfl
     · have e : b.tmps[3]? = some (.pointer (some ⟨Eb, 0, none⟩)) := (hg.old 3 (by omega)).trans rfl
       cases ho
       simp [go_sem, e]
     · have e : b.tmps[83]? = some (.pointer (some ⟨Eb, 0, none⟩)) := hg.gb 0 (by omega)
       cases ho
       simp [go_sem, e, e0]
   · intro b hg o ho
     have e : b.tmps[82]? = some (.chan (some ch)) := hg.ga 3 (by omega)
     have e' : b.tmps[84]? = some (.int .i64 (k : Int)) := hg.gb 1 (by omega)
     cases ho
     simp [go_sem, e, e', scase]
 · show wpN _ _ _ _ _
   refine wpN_of (wp_at (by simp [go_sem]; exact rfl) ?_)
   have HPz := hid HP.out
   change Code.wp _ _ _ _ (Z2.drew.setChan ch N ((wkA wk).push (.int .i64 (k : Int))) false (s0 + 1) r0 false)
   generalize Z2.drew.setChan ch N ((wkA wk).push (.int .i64 (k : Int))) false (s0 + 1) r0 false = Z4 at *
   clear f2 e0 hF2
   go_wp2_with fail
   go_ret
   refine ⟨rfl, HPz.out.1, ?_⟩
   exact ((Fz.of_below HW.out).trans ((Fz.of_below HY1.out).trans ((Fz.of_below HYX2.out).trans ((Fz.of_below HYX3.out).trans (Fz.of_below (Below.refl _ _).drew))))).trans HPz.out.2
end
section
open Go.RowKit Go.Conc
def BadP (W : World) (e : Ending) (W' : World) : Prop := IsBad e ∧ Below W.heap.size W W'
def SameP (W : World) (e : Ending) (W' : World) : Prop := e = .returned .nilIface ∧ Below W.heap.size W W'
theorem badP {W X : World} {o : Obj} (hb : Below W.heap.size W X) : BadP W (.returned (.iface 58 (.pointer (some ⟨X.heap.size, 0, none⟩)))) (X.alloc o) := ⟨⟨X.heap.size, rfl⟩, hb.alloc hb.size o⟩
set_option maxRecDepth 100000 in
set_option maxHeartbeats 8000000 in
theorem comeI_out {W0 : World} {Fb : Nat} {ac : Option Addr} {cc gs ch N : Nat} {T : List Sq} {wk : List Nat} {d : Int} {W : World} (h : Fl W0 Fb (.slice ac N cc) gs ch N T wk d false W) (tt n v p : Int) (hto : (N : Int) ≤ tt) :
   Calls Tryz.prog 18 #[.pointer (some ⟨Fb, 0, none⟩), .agg #[.int .i64 tt, .int .i64 n, .int .i64 v, .int .i64 p]] W (BadP W) := by
 have hV1 := (MapKept.heap_alloc W (.cells #[.int .i64 tt, .int .i64 n, .int .i64 v, .int .i64 p] 67)).1
 have hVb := (Below.refl W.heap.size W).alloc (Nat.le_refl _) (.cells #[.int .i64 tt, .int .i64 n, .int .i64 v, .int .i64 p] 67)
 obtain ⟨V, hV⟩ : ∃ V, W.alloc (.cells #[.int .i64 tt, .int .i64 n, .int .i64 v, .int .i64 p] 67) = V := ⟨_, rfl⟩
 rw [hV] at hV1 hVb
 have h1 := h.below hVb
 have hEl := z26 hV1
 have hFl := z26 h1.blk
 obtain ⟨Eb, hEb⟩ : ∃ Eb, W.heap.size = Eb := ⟨_, rfl⟩
 rw [hEb] at hV1 hEl
 have e0 := z11 hV1 0
 have f0 := z11 h1.blk 0
 simp at e0 f0
 have pe0 : ∀ y : Later V.heap.size V, y.w.cell? ⟨Eb, 0, none⟩ = _ := fun y => y.cell hEl e0
 have pf0 : ∀ y : Later V.heap.size V, y.w.cell? ⟨Fb, 0, none⟩ = _ := fun y => y.cell hFl f0
 have HV := hid hV
 have HEb := hid hEb
 have HV1 := hid hV1
 have H1 := hid h1
 have HW := hid hVb
 have q1 : decide ((N : Int) ≤ tt) = true := decide_eq_true hto
 clear h hV hV1 hVb h1 e0 f0 hto
 refine z51 Tryz.func18 rfl ?_
 simp only [Tryz.ntmps18, List.size_toArray, List.length_cons, List.length_nil, Nat.reduceAdd, Nat.reduceSub, Array.replicate_succ, Array.replicate_zero, List.push_toArray, List.append_toArray, List.nil_append, List.cons_append]
 refine z39 fun K hK => ?_
 go_wp2_with fail
 rw [HV.out]
 clear hEb
 refine z39 fun K hK => ?_
 go_wp2_with fail
 refine z30 V.heap.size (by kernel_rfl) (by kernel_rfl) ?_
 repeat (go_big_quiet_step (fail))
 refine wpQuiet_nil ?_
 rintro w5 ⟨y, rfl⟩
 have HY1 := hid y.h
 clear pe0 pf0
 have hf1 := (y.h.block Eb hEl).trans HV1.out
 generalize y.w = X1 at *
 have e0 := z11 hf1 0
 have e1 := z11 hf1 1
 have e2 := z11 hf1 2
 simp at e0 e1 e2
 have HB1 := hid (HW.out.trans (HY1.out.mono HW.out.size))
 go_wp2_with fail
 go_ret
 exact badP HB1.out
set_option maxRecDepth 100000 in
set_option maxHeartbeats 8000000 in
theorem comeI_many {W0 : World} {Fb : Nat} {ac : Option Addr} {cc gs ch N : Nat} {T : List Sq} {wk : List Nat} {d : Int} {W : World} (h : Fl W0 Fb (.slice ac N cc) gs ch N T wk d false W) (k : Nat) (n v p : Int) (hk : k < N) (hm : 100 < n ∨ 100 < v) :
   Calls Tryz.prog 18 #[.pointer (some ⟨Fb, 0, none⟩), .agg #[.int .i64 (k : Int), .int .i64 n, .int .i64 v, .int .i64 p]] W (BadP W) := by
 have hV1 := (MapKept.heap_alloc W (.cells #[.int .i64 (k : Int), .int .i64 n, .int .i64 v, .int .i64 p] 67)).1
 have hVb := (Below.refl W.heap.size W).alloc (Nat.le_refl _) (.cells #[.int .i64 (k : Int), .int .i64 n, .int .i64 v, .int .i64 p] 67)
 obtain ⟨V, hV⟩ : ∃ V, W.alloc (.cells #[.int .i64 (k : Int), .int .i64 n, .int .i64 v, .int .i64 p] 67) = V := ⟨_, rfl⟩
 rw [hV] at hV1 hVb
 have h1 := h.below hVb
 have hEl := z26 hV1
 have hFl := z26 h1.blk
 obtain ⟨Eb, hEb⟩ : ∃ Eb, W.heap.size = Eb := ⟨_, rfl⟩
 rw [hEb] at hV1 hEl
 have e0 := z11 hV1 0
 have f0 := z11 h1.blk 0
 simp at e0 f0
 have pe0 : ∀ y : Later V.heap.size V, y.w.cell? ⟨Eb, 0, none⟩ = _ := fun y => y.cell hEl e0
 have pf0 : ∀ y : Later V.heap.size V, y.w.cell? ⟨Fb, 0, none⟩ = _ := fun y => y.cell hFl f0
 have HV := hid hV
 have HEb := hid hEb
 have HV1 := hid hV1
 have H1 := hid h1
 have HW := hid hVb
 have q1 : decide ((N : Int) ≤ (k : Int)) = false := decide_eq_false (by omega)
 have q1n : decide (N ≤ k) = false := decide_eq_false (by omega)
 clear h hV hV1 hVb h1 e0 f0 hk
 refine z51 Tryz.func18 rfl ?_
 simp only [Tryz.ntmps18, List.size_toArray, List.length_cons, List.length_nil, Nat.reduceAdd, Nat.reduceSub, Array.replicate_succ, Array.replicate_zero, List.push_toArray, List.append_toArray, List.nil_append, List.cons_append]
 refine z39 fun K hK => ?_
 go_wp2_with fail
 rw [HV.out]
 clear hEb
 refine z39 fun K hK => ?_
 go_wp2_with fail
 refine z30 V.heap.size (by kernel_rfl) (by kernel_rfl) ?_
 repeat (go_big_quiet_step (fail))
 refine wpQuiet_nil ?_
 rintro w5 ⟨y, rfl⟩
 have HY1 := hid y.h
 clear pe0 pf0
 have hf1 := (y.h.block Eb hEl).trans HV1.out
 generalize y.w = X1 at *
 have e0 := z11 hf1 0
 have e1 := z11 hf1 1
 have e2 := z11 hf1 2
 simp at e0 e1 e2
 have HB1 := hid (HW.out.trans (HY1.out.mono HW.out.size))
 by_cases h5 : 100 < n
 · clear hm
   go_wp2_with fail
   go_ret
   exact badP HB1.out
 · have h6 : 100 < v := by omega
   clear hm
   go_wp2_with fail
   go_ret
   exact badP HB1.out
set_option maxRecDepth 100000 in
set_option maxHeartbeats 8000000 in
theorem comeI_same {W0 : World} {Fb : Nat} {ac : Option Addr} {cc gs ch N : Nat} {T : List Sq} {wk : List Nat} {d : Int} {W : World} (h : Fl W0 Fb (.slice ac N cc) gs ch N T wk d false W) (k : Nat) (n v p : Int) (hk : k < N) (hn1 : n ≤ 100) (hv1 : v ≤ 100) (ht : tg T k = ⟨n, v, p⟩) :
   Calls Tryz.prog 18 #[.pointer (some ⟨Fb, 0, none⟩), .agg #[.int .i64 (k : Int), .int .i64 n, .int .i64 v, .int .i64 p]] W (SameP W) := by
 have hV1 := (MapKept.heap_alloc W (.cells #[.int .i64 (k : Int), .int .i64 n, .int .i64 v, .int .i64 p] 67)).1
 have hVb := (Below.refl W.heap.size W).alloc (Nat.le_refl _) (.cells #[.int .i64 (k : Int), .int .i64 n, .int .i64 v, .int .i64 p] 67)
 obtain ⟨V, hV⟩ : ∃ V, W.alloc (.cells #[.int .i64 (k : Int), .int .i64 n, .int .i64 v, .int .i64 p] 67) = V := ⟨_, rfl⟩
 rw [hV] at hV1 hVb
 have h1 := h.below hVb
 have hEl := z26 hV1
 have hFl := z26 h1.blk
 obtain ⟨Eb, hEb⟩ : ∃ Eb, W.heap.size = Eb := ⟨_, rfl⟩
 rw [hEb] at hV1 hEl
 have e0 := z11 hV1 0
 have f0 := z11 h1.blk 0
 simp at e0 f0
 have pe0 : ∀ y : Later V.heap.size V, y.w.cell? ⟨Eb, 0, none⟩ = _ := fun y => y.cell hEl e0
 have pf0 : ∀ y : Later V.heap.size V, y.w.cell? ⟨Fb, 0, none⟩ = _ := fun y => y.cell hFl f0
 have HV := hid hV
 have HEb := hid hEb
 have HV1 := hid hV1
 have H1 := hid h1
 have HW := hid hVb
 have q1 : decide ((N : Int) ≤ (k : Int)) = false := decide_eq_false (by omega)
 have q1n : decide (N ≤ k) = false := decide_eq_false (by omega)
 have q2 : ¬ 100 < n := by omega
 have q3 : ¬ 100 < v := by omega
 have k0 : (0 : Int) ≤ (k : Int) := by omega
 have k1 : (k : Int) < (N : Int) := by omega
 have HKn := hid hk
 have HT := hid ht
 clear h hV hV1 hVb h1 e0 f0 hk ht hn1 hv1
 refine z51 Tryz.func18 rfl ?_
 simp only [Tryz.ntmps18, List.size_toArray, List.length_cons, List.length_nil, Nat.reduceAdd, Nat.reduceSub, Array.replicate_succ, Array.replicate_zero, List.push_toArray, List.append_toArray, List.nil_append, List.cons_append]
 refine z39 fun K hK => ?_
 go_wp2_with fail
 rw [HV.out]
 clear hEb
 refine z39 fun K hK => ?_
 go_wp2_with fail
 refine z30 V.heap.size (by kernel_rfl) (by kernel_rfl) ?_
 repeat (go_big_quiet_step (fail))
 refine wpQuiet_nil ?_
 rintro w5 ⟨y, rfl⟩
 have HY1 := hid y.h
 clear pe0 pf0
 have hf1 := (y.h.block Eb hEl).trans HV1.out
 generalize y.w = X1 at *
 have e0 := z11 hf1 0
 have e1 := z11 hf1 1
 have e2 := z11 hf1 2
 simp at e0 e1 e2
 have HB1 := hid (HW.out.trans (HY1.out.mono HW.out.size))
 go_wp2_with fail
 clear e0 e1 e2
 have HX1 := hid (H1.out.below HY1.out)
 have hBX1 := z26 HX1.out.blk
 have hGX1 := HX1.out.row.lt
 have hEX1 := z26 hf1
 have cX1 := HX1.out.cells HKn.out
 rw [HT.out] at cX1
 obtain ⟨c0, c1, c2, -, -, -⟩ := cX1
 dsimp only at c0 c1 c2
 have f1 := z11 HX1.out.blk 1
 have e0 := z11 hf1 0
 have e1 := z11 hf1 1
 have e2 := z11 hf1 2
 have e3 := z11 hf1 3
 simp at f1 e0 e1 e2 e3
 have pe0 : ∀ y : Later X1.heap.size X1, y.w.cell? ⟨Eb, 0, none⟩ = _ := fun y => y.cell hEX1 e0
 have pe1 : ∀ y : Later X1.heap.size X1, y.w.cell? ⟨Eb, 1, none⟩ = _ := fun y => y.cell hEX1 e1
 have pe2 : ∀ y : Later X1.heap.size X1, y.w.cell? ⟨Eb, 2, none⟩ = _ := fun y => y.cell hEX1 e2
 have pe3 : ∀ y : Later X1.heap.size X1, y.w.cell? ⟨Eb, 3, none⟩ = _ := fun y => y.cell hEX1 e3
 have pf1 : ∀ y : Later X1.heap.size X1, y.w.cell? ⟨Fb, 1, none⟩ = _ := fun y => y.cell hBX1 f1
 have pc0 : ∀ y : Later X1.heap.size X1, y.w.cell? ⟨gs, k * 3, none⟩ = _ := fun y => y.cell hGX1 c0
 have pc1 : ∀ y : Later X1.heap.size X1, y.w.cell? ⟨gs, k * 3 + 1, none⟩ = _ := fun y => y.cell hGX1 c1
 have pc2 : ∀ y : Later X1.heap.size X1, y.w.cell? ⟨gs, k * 3 + 2, none⟩ = _ := fun y => y.cell hGX1 c2
 refine z30 X1.heap.size (by kernel_rfl) (by kernel_rfl) ?_
 repeat (go_big_quiet_step (fail))
 refine wpQuiet_nil ?_
 rintro w5 ⟨y, rfl⟩
 have HYX2 := hid y.h
 have hfX2 := (y.h.block Eb hEX1).trans hf1
 generalize y.w = X2 at *
 clear pe0 pe1 pe2 pe3 pf1 pc0 pc1 pc2 c0 c1 c2 f1 e0 e1 e2 e3
 go_wp2_with fail
 go_ret
 exact ⟨rfl, HB1.out.trans (HYX2.out.mono HB1.out.size)⟩
set_option maxRecDepth 100000 in
set_option maxHeartbeats 8000000 in
theorem comeI_otherN {W0 : World} {Fb : Nat} {ac : Option Addr} {cc gs ch N : Nat} {T : List Sq} {wk : List Nat} {d : Int} {W : World} (h : Fl W0 Fb (.slice ac N cc) gs ch N T wk d false W) (k : Nat) (n v p x y z : Int) (hk : k < N) (hn1 : n ≤ 100) (hv1 : v ≤ 100) (ht : tg T k = ⟨x, y, z⟩) (hz : z ≠ 0) (hc : x ≠ n) :
   Calls Tryz.prog 18 #[.pointer (some ⟨Fb, 0, none⟩), .agg #[.int .i64 (k : Int), .int .i64 n, .int .i64 v, .int .i64 p]] W (BadP W) := by
 have hV1 := (MapKept.heap_alloc W (.cells #[.int .i64 (k : Int), .int .i64 n, .int .i64 v, .int .i64 p] 67)).1
 have hVb := (Below.refl W.heap.size W).alloc (Nat.le_refl _) (.cells #[.int .i64 (k : Int), .int .i64 n, .int .i64 v, .int .i64 p] 67)
 obtain ⟨V, hV⟩ : ∃ V, W.alloc (.cells #[.int .i64 (k : Int), .int .i64 n, .int .i64 v, .int .i64 p] 67) = V := ⟨_, rfl⟩
 rw [hV] at hV1 hVb
 have h1 := h.below hVb
 have hEl := z26 hV1
 have hFl := z26 h1.blk
 obtain ⟨Eb, hEb⟩ : ∃ Eb, W.heap.size = Eb := ⟨_, rfl⟩
 rw [hEb] at hV1 hEl
 have e0 := z11 hV1 0
 have f0 := z11 h1.blk 0
 simp at e0 f0
 have pe0 : ∀ y : Later V.heap.size V, y.w.cell? ⟨Eb, 0, none⟩ = _ := fun y => y.cell hEl e0
 have pf0 : ∀ y : Later V.heap.size V, y.w.cell? ⟨Fb, 0, none⟩ = _ := fun y => y.cell hFl f0
 have HV := hid hV
 have HEb := hid hEb
 have HV1 := hid hV1
 have H1 := hid h1
 have HW := hid hVb
 have q1 : decide ((N : Int) ≤ (k : Int)) = false := decide_eq_false (by omega)
 have q1n : decide (N ≤ k) = false := decide_eq_false (by omega)
 have q2 : ¬ 100 < n := by omega
 have q3 : ¬ 100 < v := by omega
 have k0 : (0 : Int) ≤ (k : Int) := by omega
 have k1 : (k : Int) < (N : Int) := by omega
 have HKn := hid hk
 have HT := hid ht
 have g1 : (x == n) = false := by simp [hc]
 have z1 : (z != 0) = true := by simp [hz]
 clear h hV hV1 hVb h1 e0 f0 hk ht hn1 hv1 hz hc
 refine z51 Tryz.func18 rfl ?_
 simp only [Tryz.ntmps18, List.size_toArray, List.length_cons, List.length_nil, Nat.reduceAdd, Nat.reduceSub, Array.replicate_succ, Array.replicate_zero, List.push_toArray, List.append_toArray, List.nil_append, List.cons_append]
 refine z39 fun K hK => ?_
 go_wp2_with fail
 rw [HV.out]
 clear hEb
 refine z39 fun K hK => ?_
 go_wp2_with fail
 refine z30 V.heap.size (by kernel_rfl) (by kernel_rfl) ?_
 repeat (go_big_quiet_step (fail))
 refine wpQuiet_nil ?_
 rintro w5 ⟨y, rfl⟩
 have HY1 := hid y.h
 clear pe0 pf0
 have hf1 := (y.h.block Eb hEl).trans HV1.out
 generalize y.w = X1 at *
 have e0 := z11 hf1 0
 have e1 := z11 hf1 1
 have e2 := z11 hf1 2
 simp at e0 e1 e2
 have HB1 := hid (HW.out.trans (HY1.out.mono HW.out.size))
 go_wp2_with fail
 clear e0 e1 e2
 have HX1 := hid (H1.out.below HY1.out)
 have hBX1 := z26 HX1.out.blk
 have hGX1 := HX1.out.row.lt
 have hEX1 := z26 hf1
 have cX1 := HX1.out.cells HKn.out
 rw [HT.out] at cX1
 obtain ⟨c0, c1, c2, -, -, -⟩ := cX1
 dsimp only at c0 c1 c2
 have f1 := z11 HX1.out.blk 1
 have e0 := z11 hf1 0
 have e1 := z11 hf1 1
 have e2 := z11 hf1 2
 have e3 := z11 hf1 3
 simp at f1 e0 e1 e2 e3
 have pe0 : ∀ y : Later X1.heap.size X1, y.w.cell? ⟨Eb, 0, none⟩ = _ := fun y => y.cell hEX1 e0
 have pe1 : ∀ y : Later X1.heap.size X1, y.w.cell? ⟨Eb, 1, none⟩ = _ := fun y => y.cell hEX1 e1
 have pe2 : ∀ y : Later X1.heap.size X1, y.w.cell? ⟨Eb, 2, none⟩ = _ := fun y => y.cell hEX1 e2
 have pe3 : ∀ y : Later X1.heap.size X1, y.w.cell? ⟨Eb, 3, none⟩ = _ := fun y => y.cell hEX1 e3
 have pf1 : ∀ y : Later X1.heap.size X1, y.w.cell? ⟨Fb, 1, none⟩ = _ := fun y => y.cell hBX1 f1
 have pc0 : ∀ y : Later X1.heap.size X1, y.w.cell? ⟨gs, k * 3, none⟩ = _ := fun y => y.cell hGX1 c0
 have pc1 : ∀ y : Later X1.heap.size X1, y.w.cell? ⟨gs, k * 3 + 1, none⟩ = _ := fun y => y.cell hGX1 c1
 have pc2 : ∀ y : Later X1.heap.size X1, y.w.cell? ⟨gs, k * 3 + 2, none⟩ = _ := fun y => y.cell hGX1 c2
 refine z30 X1.heap.size (by kernel_rfl) (by kernel_rfl) ?_
 repeat (go_big_quiet_step (fail))
 refine wpQuiet_nil ?_
 rintro w5 ⟨y, rfl⟩
 have HYX2 := hid y.h
 have hfX2 := (y.h.block Eb hEX1).trans hf1
 generalize y.w = X2 at *
 clear pe0 pe1 pe2 pe3 pf1 pc0 pc1 pc2 c0 c1 c2 f1 e0 e1 e2 e3
 go_wp2_with fail
 have HX2 := hid (HX1.out.below HYX2.out)
 have hBX2 := z26 HX2.out.blk
 have hGX2 := HX2.out.row.lt
 have hEX2 := z26 hfX2
 have cX2 := HX2.out.cells HKn.out
 rw [HT.out] at cX2
 obtain ⟨c0, c1, c2, -, -, -⟩ := cX2
 dsimp only at c0 c1 c2
 have f1 := z11 HX2.out.blk 1
 have e0 := z11 hfX2 0
 have e1 := z11 hfX2 1
 have e2 := z11 hfX2 2
 have e3 := z11 hfX2 3
 simp at f1 e0 e1 e2 e3
 have pe0 : ∀ y : Later X2.heap.size X2, y.w.cell? ⟨Eb, 0, none⟩ = _ := fun y => y.cell hEX2 e0
 have pe1 : ∀ y : Later X2.heap.size X2, y.w.cell? ⟨Eb, 1, none⟩ = _ := fun y => y.cell hEX2 e1
 have pe2 : ∀ y : Later X2.heap.size X2, y.w.cell? ⟨Eb, 2, none⟩ = _ := fun y => y.cell hEX2 e2
 have pe3 : ∀ y : Later X2.heap.size X2, y.w.cell? ⟨Eb, 3, none⟩ = _ := fun y => y.cell hEX2 e3
 have pf1 : ∀ y : Later X2.heap.size X2, y.w.cell? ⟨Fb, 1, none⟩ = _ := fun y => y.cell hBX2 f1
 have pc0 : ∀ y : Later X2.heap.size X2, y.w.cell? ⟨gs, k * 3, none⟩ = _ := fun y => y.cell hGX2 c0
 have pc1 : ∀ y : Later X2.heap.size X2, y.w.cell? ⟨gs, k * 3 + 1, none⟩ = _ := fun y => y.cell hGX2 c1
 have pc2 : ∀ y : Later X2.heap.size X2, y.w.cell? ⟨gs, k * 3 + 2, none⟩ = _ := fun y => y.cell hGX2 c2
 refine z30 X2.heap.size (by kernel_rfl) (by kernel_rfl) ?_
 repeat (go_big_quiet_step (fail))
 refine wpQuiet_nil ?_
 rintro w5 ⟨y, rfl⟩
 have HYX3 := hid y.h
 have hfX3 := (y.h.block Eb hEX2).trans hfX2
 generalize y.w = X3 at *
 clear pe0 pe1 pe2 pe3 pf1 pc0 pc1 pc2 c0 c1 c2 f1 e0 e1 e2 e3
 have e0 := z11 hfX3 0
 simp at e0
 go_wp2_with fail
 go_ret
 exact badP ((HB1.out.trans (HYX2.out.mono HB1.out.size)).trans (HYX3.out.mono (Nat.le_trans HB1.out.size HYX2.out.size)))
set_option maxRecDepth 100000 in
set_option maxHeartbeats 8000000 in
theorem comeI_otherV {W0 : World} {Fb : Nat} {ac : Option Addr} {cc gs ch N : Nat} {T : List Sq} {wk : List Nat} {d : Int} {W : World} (h : Fl W0 Fb (.slice ac N cc) gs ch N T wk d false W) (k : Nat) (n v p x y z : Int) (hk : k < N) (hn1 : n ≤ 100) (hv1 : v ≤ 100) (ht : tg T k = ⟨x, y, z⟩) (hz : z ≠ 0) (hc : y ≠ v) :
   Calls Tryz.prog 18 #[.pointer (some ⟨Fb, 0, none⟩), .agg #[.int .i64 (k : Int), .int .i64 n, .int .i64 v, .int .i64 p]] W (BadP W) := by
 have hV1 := (MapKept.heap_alloc W (.cells #[.int .i64 (k : Int), .int .i64 n, .int .i64 v, .int .i64 p] 67)).1
 have hVb := (Below.refl W.heap.size W).alloc (Nat.le_refl _) (.cells #[.int .i64 (k : Int), .int .i64 n, .int .i64 v, .int .i64 p] 67)
 obtain ⟨V, hV⟩ : ∃ V, W.alloc (.cells #[.int .i64 (k : Int), .int .i64 n, .int .i64 v, .int .i64 p] 67) = V := ⟨_, rfl⟩
 rw [hV] at hV1 hVb
 have h1 := h.below hVb
 have hEl := z26 hV1
 have hFl := z26 h1.blk
 obtain ⟨Eb, hEb⟩ : ∃ Eb, W.heap.size = Eb := ⟨_, rfl⟩
 rw [hEb] at hV1 hEl
 have e0 := z11 hV1 0
 have f0 := z11 h1.blk 0
 simp at e0 f0
 have pe0 : ∀ y : Later V.heap.size V, y.w.cell? ⟨Eb, 0, none⟩ = _ := fun y => y.cell hEl e0
 have pf0 : ∀ y : Later V.heap.size V, y.w.cell? ⟨Fb, 0, none⟩ = _ := fun y => y.cell hFl f0
 have HV := hid hV
 have HEb := hid hEb
 have HV1 := hid hV1
 have H1 := hid h1
 have HW := hid hVb
 have q1 : decide ((N : Int) ≤ (k : Int)) = false := decide_eq_false (by omega)
 have q1n : decide (N ≤ k) = false := decide_eq_false (by omega)
 have q2 : ¬ 100 < n := by omega
 have q3 : ¬ 100 < v := by omega
 have k0 : (0 : Int) ≤ (k : Int) := by omega
 have k1 : (k : Int) < (N : Int) := by omega
 have HKn := hid hk
 have HT := hid ht
 have g1 : (y == v) = false := by simp [hc]
 have z1 : (z != 0) = true := by simp [hz]
 clear h hV hV1 hVb h1 e0 f0 hk ht hn1 hv1 hz hc
 refine z51 Tryz.func18 rfl ?_
 simp only [Tryz.ntmps18, List.size_toArray, List.length_cons, List.length_nil, Nat.reduceAdd, Nat.reduceSub, Array.replicate_succ, Array.replicate_zero, List.push_toArray, List.append_toArray, List.nil_append, List.cons_append]
 refine z39 fun K hK => ?_
 go_wp2_with fail
 rw [HV.out]
 clear hEb
 refine z39 fun K hK => ?_
 go_wp2_with fail
 refine z30 V.heap.size (by kernel_rfl) (by kernel_rfl) ?_
 repeat (go_big_quiet_step (fail))
 refine wpQuiet_nil ?_
 rintro w5 ⟨y, rfl⟩
 have HY1 := hid y.h
 clear pe0 pf0
 have hf1 := (y.h.block Eb hEl).trans HV1.out
 generalize y.w = X1 at *
 have e0 := z11 hf1 0
 have e1 := z11 hf1 1
 have e2 := z11 hf1 2
 simp at e0 e1 e2
 have HB1 := hid (HW.out.trans (HY1.out.mono HW.out.size))
 go_wp2_with fail
 clear e0 e1 e2
 have HX1 := hid (H1.out.below HY1.out)
 have hBX1 := z26 HX1.out.blk
 have hGX1 := HX1.out.row.lt
 have hEX1 := z26 hf1
 have cX1 := HX1.out.cells HKn.out
 rw [HT.out] at cX1
 obtain ⟨c0, c1, c2, -, -, -⟩ := cX1
 dsimp only at c0 c1 c2
 have f1 := z11 HX1.out.blk 1
 have e0 := z11 hf1 0
 have e1 := z11 hf1 1
 have e2 := z11 hf1 2
 have e3 := z11 hf1 3
 simp at f1 e0 e1 e2 e3
 have pe0 : ∀ y : Later X1.heap.size X1, y.w.cell? ⟨Eb, 0, none⟩ = _ := fun y => y.cell hEX1 e0
 have pe1 : ∀ y : Later X1.heap.size X1, y.w.cell? ⟨Eb, 1, none⟩ = _ := fun y => y.cell hEX1 e1
 have pe2 : ∀ y : Later X1.heap.size X1, y.w.cell? ⟨Eb, 2, none⟩ = _ := fun y => y.cell hEX1 e2
 have pe3 : ∀ y : Later X1.heap.size X1, y.w.cell? ⟨Eb, 3, none⟩ = _ := fun y => y.cell hEX1 e3
 have pf1 : ∀ y : Later X1.heap.size X1, y.w.cell? ⟨Fb, 1, none⟩ = _ := fun y => y.cell hBX1 f1
 have pc0 : ∀ y : Later X1.heap.size X1, y.w.cell? ⟨gs, k * 3, none⟩ = _ := fun y => y.cell hGX1 c0
 have pc1 : ∀ y : Later X1.heap.size X1, y.w.cell? ⟨gs, k * 3 + 1, none⟩ = _ := fun y => y.cell hGX1 c1
 have pc2 : ∀ y : Later X1.heap.size X1, y.w.cell? ⟨gs, k * 3 + 2, none⟩ = _ := fun y => y.cell hGX1 c2
 refine z30 X1.heap.size (by kernel_rfl) (by kernel_rfl) ?_
 repeat (go_big_quiet_step (fail))
 refine wpQuiet_nil ?_
 rintro w5 ⟨y, rfl⟩
 have HYX2 := hid y.h
 have hfX2 := (y.h.block Eb hEX1).trans hf1
 generalize y.w = X2 at *
 clear pe0 pe1 pe2 pe3 pf1 pc0 pc1 pc2 c0 c1 c2 f1 e0 e1 e2 e3
 go_wp2_with fail
 have HX2 := hid (HX1.out.below HYX2.out)
 have hBX2 := z26 HX2.out.blk
 have hGX2 := HX2.out.row.lt
 have hEX2 := z26 hfX2
 have cX2 := HX2.out.cells HKn.out
 rw [HT.out] at cX2
 obtain ⟨c0, c1, c2, -, -, -⟩ := cX2
 dsimp only at c0 c1 c2
 have f1 := z11 HX2.out.blk 1
 have e0 := z11 hfX2 0
 have e1 := z11 hfX2 1
 have e2 := z11 hfX2 2
 have e3 := z11 hfX2 3
 simp at f1 e0 e1 e2 e3
 have pe0 : ∀ y : Later X2.heap.size X2, y.w.cell? ⟨Eb, 0, none⟩ = _ := fun y => y.cell hEX2 e0
 have pe1 : ∀ y : Later X2.heap.size X2, y.w.cell? ⟨Eb, 1, none⟩ = _ := fun y => y.cell hEX2 e1
 have pe2 : ∀ y : Later X2.heap.size X2, y.w.cell? ⟨Eb, 2, none⟩ = _ := fun y => y.cell hEX2 e2
 have pe3 : ∀ y : Later X2.heap.size X2, y.w.cell? ⟨Eb, 3, none⟩ = _ := fun y => y.cell hEX2 e3
 have pf1 : ∀ y : Later X2.heap.size X2, y.w.cell? ⟨Fb, 1, none⟩ = _ := fun y => y.cell hBX2 f1
 have pc0 : ∀ y : Later X2.heap.size X2, y.w.cell? ⟨gs, k * 3, none⟩ = _ := fun y => y.cell hGX2 c0
 have pc1 : ∀ y : Later X2.heap.size X2, y.w.cell? ⟨gs, k * 3 + 1, none⟩ = _ := fun y => y.cell hGX2 c1
 have pc2 : ∀ y : Later X2.heap.size X2, y.w.cell? ⟨gs, k * 3 + 2, none⟩ = _ := fun y => y.cell hGX2 c2
 refine z30 X2.heap.size (by kernel_rfl) (by kernel_rfl) ?_
 repeat (go_big_quiet_step (fail))
 refine wpQuiet_nil ?_
 rintro w5 ⟨y, rfl⟩
 have HYX3 := hid y.h
 have hfX3 := (y.h.block Eb hEX2).trans hfX2
 generalize y.w = X3 at *
 clear pe0 pe1 pe2 pe3 pf1 pc0 pc1 pc2 c0 c1 c2 f1 e0 e1 e2 e3
 have e0 := z11 hfX3 0
 simp at e0
 go_wp2_with fail
 go_ret
 exact badP ((HB1.out.trans (HYX2.out.mono HB1.out.size)).trans (HYX3.out.mono (Nat.le_trans HB1.out.size HYX2.out.size)))
set_option maxRecDepth 100000 in
set_option maxHeartbeats 8000000 in
theorem comeI_otherP {W0 : World} {Fb : Nat} {ac : Option Addr} {cc gs ch N : Nat} {T : List Sq} {wk : List Nat} {d : Int} {W : World} (h : Fl W0 Fb (.slice ac N cc) gs ch N T wk d false W) (k : Nat) (n v p x y z : Int) (hk : k < N) (hn1 : n ≤ 100) (hv1 : v ≤ 100) (ht : tg T k = ⟨x, y, z⟩) (hz : z ≠ 0) (hc : z ≠ p) :
   Calls Tryz.prog 18 #[.pointer (some ⟨Fb, 0, none⟩), .agg #[.int .i64 (k : Int), .int .i64 n, .int .i64 v, .int .i64 p]] W (BadP W) := by
 have hV1 := (MapKept.heap_alloc W (.cells #[.int .i64 (k : Int), .int .i64 n, .int .i64 v, .int .i64 p] 67)).1
 have hVb := (Below.refl W.heap.size W).alloc (Nat.le_refl _) (.cells #[.int .i64 (k : Int), .int .i64 n, .int .i64 v, .int .i64 p] 67)
 obtain ⟨V, hV⟩ : ∃ V, W.alloc (.cells #[.int .i64 (k : Int), .int .i64 n, .int .i64 v, .int .i64 p] 67) = V := ⟨_, rfl⟩
 rw [hV] at hV1 hVb
 have h1 := h.below hVb
 have hEl := z26 hV1
 have hFl := z26 h1.blk
 obtain ⟨Eb, hEb⟩ : ∃ Eb, W.heap.size = Eb := ⟨_, rfl⟩
 rw [hEb] at hV1 hEl
 have e0 := z11 hV1 0
 have f0 := z11 h1.blk 0
 simp at e0 f0
 have pe0 : ∀ y : Later V.heap.size V, y.w.cell? ⟨Eb, 0, none⟩ = _ := fun y => y.cell hEl e0
 have pf0 : ∀ y : Later V.heap.size V, y.w.cell? ⟨Fb, 0, none⟩ = _ := fun y => y.cell hFl f0
 have HV := hid hV
 have HEb := hid hEb
 have HV1 := hid hV1
 have H1 := hid h1
 have HW := hid hVb
 have q1 : decide ((N : Int) ≤ (k : Int)) = false := decide_eq_false (by omega)
 have q1n : decide (N ≤ k) = false := decide_eq_false (by omega)
 have q2 : ¬ 100 < n := by omega
 have q3 : ¬ 100 < v := by omega
 have k0 : (0 : Int) ≤ (k : Int) := by omega
 have k1 : (k : Int) < (N : Int) := by omega
 have HKn := hid hk
 have HT := hid ht
 have g1 : (z == p) = false := by simp [hc]
 have z1 : (z != 0) = true := by simp [hz]
 clear h hV hV1 hVb h1 e0 f0 hk ht hn1 hv1 hz hc
 refine z51 Tryz.func18 rfl ?_
 simp only [Tryz.ntmps18, List.size_toArray, List.length_cons, List.length_nil, Nat.reduceAdd, Nat.reduceSub, Array.replicate_succ, Array.replicate_zero, List.push_toArray, List.append_toArray, List.nil_append, List.cons_append]
 refine z39 fun K hK => ?_
 go_wp2_with fail
 rw [HV.out]
 clear hEb
 refine z39 fun K hK => ?_
 go_wp2_with fail
 refine z30 V.heap.size (by kernel_rfl) (by kernel_rfl) ?_
 repeat (go_big_quiet_step (fail))
 refine wpQuiet_nil ?_
 rintro w5 ⟨y, rfl⟩
 have HY1 := hid y.h
 clear pe0 pf0
 have hf1 := (y.h.block Eb hEl).trans HV1.out
 generalize y.w = X1 at *
 have e0 := z11 hf1 0
 have e1 := z11 hf1 1
 have e2 := z11 hf1 2
 simp at e0 e1 e2
 have HB1 := hid (HW.out.trans (HY1.out.mono HW.out.size))
 go_wp2_with fail
 clear e0 e1 e2
 have HX1 := hid (H1.out.below HY1.out)
 have hBX1 := z26 HX1.out.blk
 have hGX1 := HX1.out.row.lt
 have hEX1 := z26 hf1
 have cX1 := HX1.out.cells HKn.out
 rw [HT.out] at cX1
 obtain ⟨c0, c1, c2, -, -, -⟩ := cX1
 dsimp only at c0 c1 c2
 have f1 := z11 HX1.out.blk 1
 have e0 := z11 hf1 0
 have e1 := z11 hf1 1
 have e2 := z11 hf1 2
 have e3 := z11 hf1 3
 simp at f1 e0 e1 e2 e3
 have pe0 : ∀ y : Later X1.heap.size X1, y.w.cell? ⟨Eb, 0, none⟩ = _ := fun y => y.cell hEX1 e0
 have pe1 : ∀ y : Later X1.heap.size X1, y.w.cell? ⟨Eb, 1, none⟩ = _ := fun y => y.cell hEX1 e1
 have pe2 : ∀ y : Later X1.heap.size X1, y.w.cell? ⟨Eb, 2, none⟩ = _ := fun y => y.cell hEX1 e2
 have pe3 : ∀ y : Later X1.heap.size X1, y.w.cell? ⟨Eb, 3, none⟩ = _ := fun y => y.cell hEX1 e3
 have pf1 : ∀ y : Later X1.heap.size X1, y.w.cell? ⟨Fb, 1, none⟩ = _ := fun y => y.cell hBX1 f1
 have pc0 : ∀ y : Later X1.heap.size X1, y.w.cell? ⟨gs, k * 3, none⟩ = _ := fun y => y.cell hGX1 c0
 have pc1 : ∀ y : Later X1.heap.size X1, y.w.cell? ⟨gs, k * 3 + 1, none⟩ = _ := fun y => y.cell hGX1 c1
 have pc2 : ∀ y : Later X1.heap.size X1, y.w.cell? ⟨gs, k * 3 + 2, none⟩ = _ := fun y => y.cell hGX1 c2
 refine z30 X1.heap.size (by kernel_rfl) (by kernel_rfl) ?_
 repeat (go_big_quiet_step (fail))
 refine wpQuiet_nil ?_
 rintro w5 ⟨y, rfl⟩
 have HYX2 := hid y.h
 have hfX2 := (y.h.block Eb hEX1).trans hf1
 generalize y.w = X2 at *
 clear pe0 pe1 pe2 pe3 pf1 pc0 pc1 pc2 c0 c1 c2 f1 e0 e1 e2 e3
 go_wp2_with fail
 have HX2 := hid (HX1.out.below HYX2.out)
 have hBX2 := z26 HX2.out.blk
 have hGX2 := HX2.out.row.lt
 have hEX2 := z26 hfX2
 have cX2 := HX2.out.cells HKn.out
 rw [HT.out] at cX2
 obtain ⟨c0, c1, c2, -, -, -⟩ := cX2
 dsimp only at c0 c1 c2
 have f1 := z11 HX2.out.blk 1
 have e0 := z11 hfX2 0
 have e1 := z11 hfX2 1
 have e2 := z11 hfX2 2
 have e3 := z11 hfX2 3
 simp at f1 e0 e1 e2 e3
 have pe0 : ∀ y : Later X2.heap.size X2, y.w.cell? ⟨Eb, 0, none⟩ = _ := fun y => y.cell hEX2 e0
 have pe1 : ∀ y : Later X2.heap.size X2, y.w.cell? ⟨Eb, 1, none⟩ = _ := fun y => y.cell hEX2 e1
 have pe2 : ∀ y : Later X2.heap.size X2, y.w.cell? ⟨Eb, 2, none⟩ = _ := fun y => y.cell hEX2 e2
 have pe3 : ∀ y : Later X2.heap.size X2, y.w.cell? ⟨Eb, 3, none⟩ = _ := fun y => y.cell hEX2 e3
 have pf1 : ∀ y : Later X2.heap.size X2, y.w.cell? ⟨Fb, 1, none⟩ = _ := fun y => y.cell hBX2 f1
 have pc0 : ∀ y : Later X2.heap.size X2, y.w.cell? ⟨gs, k * 3, none⟩ = _ := fun y => y.cell hGX2 c0
 have pc1 : ∀ y : Later X2.heap.size X2, y.w.cell? ⟨gs, k * 3 + 1, none⟩ = _ := fun y => y.cell hGX2 c1
 have pc2 : ∀ y : Later X2.heap.size X2, y.w.cell? ⟨gs, k * 3 + 2, none⟩ = _ := fun y => y.cell hGX2 c2
 refine z30 X2.heap.size (by kernel_rfl) (by kernel_rfl) ?_
 repeat (go_big_quiet_step (fail))
 refine wpQuiet_nil ?_
 rintro w5 ⟨y, rfl⟩
 have HYX3 := hid y.h
 have hfX3 := (y.h.block Eb hEX2).trans hfX2
 generalize y.w = X3 at *
 clear pe0 pe1 pe2 pe3 pf1 pc0 pc1 pc2 c0 c1 c2 f1 e0 e1 e2 e3
 have e0 := z11 hfX3 0
 simp at e0
 go_wp2_with fail
 go_ret
 exact badP ((HB1.out.trans (HYX2.out.mono HB1.out.size)).trans (HYX3.out.mono (Nat.le_trans HB1.out.size HYX2.out.size)))
theorem comeI_calls {W0 : World} {Fb : Nat} {ac : Option Addr} {cc gs ch N : Nat} {T : List Sq} {wk : List Nat} {d : Int} {W : World} (h : Fl W0 Fb (.slice ac N cc) gs ch N T wk d false W) (tt n v p : Int) (h0 : 0 ≤ tt) (hn : 0 ≤ n) (hv : 0 ≤ v) (hp0 : 1 ≤ p) (hp1 : p ≤ 3) :
   Calls Tryz.prog 18 #[.pointer (some ⟨Fb, 0, none⟩), .agg #[.int .i64 tt, .int .i64 n, .int .i64 v, .int .i64 p]] W (ComeI W0 Fb (.slice ac N cc) gs ch N d W (comeZ N T wk (tt, ⟨n, v, p⟩))) := by
 have hbad : ∀ e W', BadP W e W' → comeZ N T wk (tt, ⟨n, v, p⟩) = none → ComeI W0 Fb (.slice ac N cc) gs ch N d W (comeZ N T wk (tt, ⟨n, v, p⟩)) e W' := fun e W' hb hz => by
   rw [hz]
   exact ⟨h.bel.trans (hb.2.mono h.bel.size), Fz.of_below hb.2, fun _ => hb.1, fun x hx => by cases hx⟩
 by_cases t1 : (N : Int) ≤ tt
 · refine (comeI_out h tt n v p t1).mono fun e W' hb => hbad e W' hb ?_
   unfold comeZ
   rw [if_pos (Or.inr (Or.inl t1))]
 obtain ⟨k, rfl⟩ : ∃ k : Nat, tt = (k : Int) := ⟨tt.toNat, by omega⟩
 have hk : k < N := by omega
 by_cases t2 : 100 < n ∨ 100 < v
 · refine (comeI_many h k n v p hk t2).mono fun e W' hb => hbad e W' hb ?_
   unfold comeZ
   rw [if_pos (by dsimp only; omega)]
 have hz : comeZ N T wk ((k : Int), ⟨n, v, p⟩) = if tg T k = ⟨n, v, p⟩ then some (T, wk) else if (tg T k).p ≠ 0 then none else some (T.set k ⟨n, v, p⟩, wk ++ [k]) := by
   unfold comeZ
   rw [if_neg (by dsimp only; omega)]
   rfl
 by_cases t3 : tg T k = ⟨n, v, p⟩
 · refine (comeI_same h k n v p hk (by omega) (by omega) t3).mono fun e W' hb => ?_
   rw [hz, if_pos t3]
   refine ⟨h.bel.trans (hb.2.mono h.bel.size), Fz.of_below hb.2, fun e => (by cases e), fun x hx => ?_⟩
   cases hx
   exact ⟨hb.1, h.below hb.2⟩
 by_cases t4 : (tg T k).p = 0
 · refine (comeI_push h k n v p hk hn (by omega) hv (by omega) hp0 hp1 t4).mono fun e W' hb => ?_
   rw [hz, if_neg t3, if_neg (fun e => e t4)]
   refine ⟨hb.2.1.bel, hb.2.2, fun e => (by cases e), fun x hx => ?_⟩
   cases hx
   exact ⟨hb.1, hb.2.1⟩
 · have hnone : comeZ N T wk ((k : Int), ⟨n, v, p⟩) = none := by rw [hz, if_neg t3, if_pos t4]
   obtain ⟨⟨x, y, z⟩, ht⟩ : ∃ s, tg T k = s := ⟨_, rfl⟩
   rw [ht] at t3 t4
   by_cases c1 : x = n
   · by_cases c2 : y = v
     · have c3 : z ≠ p := fun e => t3 (by rw [c1, c2, e])
       exact (comeI_otherP h k n v p x y z hk (by omega) (by omega) ht t4 c3).mono fun e W' hb => hbad e W' hb hnone
     · exact (comeI_otherV h k n v p x y z hk (by omega) (by omega) ht t4 c2).mono fun e W' hb => hbad e W' hb hnone
   · exact (comeI_otherN h k n v p x y z hk (by omega) (by omega) ht t4 c1).mono fun e W' hb => hbad e W' hb hnone
end
section
open Go.RowKit
def intCells (bs : List Int) (i : Nat) : Value := .int .i64 (bs.getD i 0)
theorem z69 {k n : Nat} (hk : k < n) (hm : n ≤ 1048576) : wrap64 ((k : Int) + 1) = ((k + 1 : Nat) : Int) := by
 unfold wrap64
 omega
def IntSlice (w : World) (v : Value) (bs : List Int) : Prop :=
 ∃ a cap, v = .slice a bs.length cap ∧ (bs = [] ∨ ∃ b off, a = some ⟨b, off, none⟩ ∧ b < w.heap.size ∧ ∀ k, k < bs.length → w.cell? ⟨b, off + k, none⟩ = some (.int .i64 (bs.getD k 0)))
theorem IntSlice.below {w w' : World} {v : Value} {bs : List Int} (h : IntSlice w v bs) (hb : Below w.heap.size w w') : IntSlice w' v bs := by
 obtain ⟨a, cap, rfl, h⟩ := h
 refine ⟨a, cap, rfl, h.imp id ?_⟩
 rintro ⟨b, off, rfl, hlt, hn⟩
 exact ⟨b, off, rfl, Nat.lt_of_lt_of_le hlt hb.size, fun k hk => (hb.cell hlt).trans (hn k hk)⟩
theorem SliceR.intSlice {B : Nat} {w : World} {v : Value} {bs : List Int} (h : SliceR 3 1 B w v bs.length (intCells bs)) : IntSlice w v bs := by
 obtain ⟨ad, cap, rfl, h⟩ := h
 refine ⟨ad, cap, rfl, ?_⟩
 by_cases h0 : bs = []
 · exact Or.inl h0
 · obtain ⟨g, rfl, _, hr⟩ := h.resolve_left (fun e => h0 (List.length_eq_zero_iff.1 e))
   refine Or.inr ⟨g, 0, rfl, hr.lt, fun k hk => ?_⟩
   rw [Nat.zero_add]
   exact hr.cell (by omega)
theorem intSliceR_of_owns {B : Nat} {w : World} {v : Value} {bs : List Int} (h : w.ownsRow B 3 1 v bs.length (bs.map (fun b => .int .i64 b))) : SliceR 3 1 B w v bs.length (intCells bs) := by
 obtain ⟨ad, cap, rfl, h'⟩ := sliceR_of_owns h
 refine ⟨ad, cap, rfl, h'.imp id ?_⟩
 rintro ⟨g, rfl, hB, hr⟩
 refine ⟨g, rfl, hB, hr.congr (fun i hi => ?_)⟩
 have hi' : i < bs.length := by omega
 simp [intCells, List.getD, hi']

end
section
open Go.RowKit Go.Conc
def CodeAt (W0 : World) (bc oc cc : Nat) (is : List In) : Prop := bc < W0.heap.size ∧ InsAt W0 bc oc is ∧ is.length ≤ cc ∧ is.length ≤ 1500 ∧ ∀ i ∈ is, i.ok = true
theorem z28 {W : World} {a : Addr} {v : Value} (h : W.cell? a = some v) : a.block < W.heap.size := by
 unfold World.cell? at h
 split at h
 · rename_i e
   obtain ⟨hlt, _⟩ := Array.getElem?_eq_some_iff.mp e
   exact hlt
 · cases h
set_option maxRecDepth 100000 in
theorem z42 (n v p a b : Int) (w : World) (h1 : wrap64 (n + a) = n + a) (h2 : wrap64 (v + b) = v + b) :
   Calls Tryz.prog 66 #[.agg #[.int .i64 n, .int .i64 v, .int .i64 p], .int .i64 a, .int .i64 b] w fun e w' => e = .returned (.agg #[.int .i64 (n + a), .int .i64 (v + b), .int .i64 p]) ∧ Below w.heap.size w w' := by
 go_enter Tryz.func66, Tryz.ntmps66
 go_wp2_with fail
 refine bodyPost_ret (by simp [results, go_sem]; exact rfl) rfl ?_
 exact ⟨rfl, ((Below.refl _ _).alloc (Nat.le_refl _) _).alloc (by simp) _⟩
set_option maxRecDepth 100000 in
theorem z43 (n : Int) (w : World) :
   Calls Tryz.prog 67 #[.int .i64 n] w fun e w' => e = .returned (.agg #[.int .i64 n, .int .i64 0, .int .i64 2]) ∧ Below w.heap.size w w' := by
 go_enter Tryz.func67, Tryz.ntmps67
 go_wp2_with fail
 refine bodyPost_ret (by simp [results, go_sem]; exact rfl) rfl ?_
 exact ⟨rfl, (Below.refl _ _).alloc (Nat.le_refl _) _⟩
def ClauseP (bc oc k B : Nat) (W : World) (e : Ending) (W' : World) : Prop := ∃ ad cp, e = .returned (.slice ad B cp) ∧ (0 < B → ad = some ⟨bc, oc + (k + 1) * 4, none⟩) ∧ Below W.heap.size W W'
set_option maxRecDepth 100000 in
set_option maxHeartbeats 4000000 in
theorem tabClauses_calls {Fb bc oc cc N k B : Nat} {W : World} (hF : W.cell? ⟨Fb, 0, none⟩ = some (.slice (some ⟨bc, oc, none⟩) N cc)) (hc2 : W.cell? ⟨bc, oc + k * 4 + 2, none⟩ = some (.int .i64 (B : Int))) (hk : k + B < N) (hcc : N ≤ cc) (hN : N ≤ 1500) :
   Calls Tryz.prog 88 #[.pointer (some ⟨Fb, 0, none⟩), .int .i64 (k : Int)] W (ClauseP bc oc k B W) := by
 have hFl := z28 hF
 have hbl := z28 hc2
 have p0 : ∀ y : Later W.heap.size W, y.w.cell? ⟨Fb, 0, none⟩ = _ := fun y => y.cell hFl hF
 have p2 : ∀ y : Later W.heap.size W, y.w.cell? ⟨bc, oc + k * 4 + 2, none⟩ = _ := fun y => y.cell hbl hc2
 obtain ⟨kn, hkn⟩ : ∃ kn : Nat, k + 1 = kn := ⟨_, rfl⟩
 have w1 : wrap64 ((k : Int) + 1) = (kn : Int) := by rw [wrap64]; omega
 have q0 : (0 : Int) ≤ (k : Int) := by omega
 have q1 : (k : Int) < (N : Int) := by omega
 have q2 : (0 : Int) ≤ (kn : Int) := by omega
 have q3 : (kn : Int) ≤ (N : Int) := by omega
 have q4 : (kn : Int) ≤ (cc : Int) := by omega
 have q4' : (N : Int) ≤ (cc : Int) := by omega
 have q5 : (0 : Int) ≤ (B : Int) := by omega
 have q6 : (B : Int) ≤ ((cc - kn : Nat) : Int) := by omega
 have HB : Hid (k + B < N ∧ N ≤ cc ∧ k + 1 = kn) := ⟨hk, hcc, hkn⟩
 clear hF hc2 hk hcc hN hFl hbl hkn
 go_enter Tryz.func88, Tryz.ntmps88
 go_wp2_with fail
 refine z30 W.heap.size (by kernel_rfl) (by kernel_rfl) ?_
 repeat (go_big_quiet_step (fail))
 obtain ⟨ad, had⟩ : ∃ ad, (if cc = kn then some (⟨bc, oc, none⟩ : Addr) else some ⟨bc, oc + kn * 4, none⟩) = ad := ⟨_, rfl⟩
 rw [had]
 have HA := hid had
 clear had
 refine wpQuiet_nil ?_
 rintro w5 ⟨y, rfl⟩
 have HY := hid y.h
 generalize y.w = W1 at *
 clear p0 p2
 go_wp2_with fail
 go_ret
 refine ⟨_, _, rfl, fun hB => ?_, HY.out⟩
 rw [← HA.out, if_neg (by have := HB.out; omega), HB.out.2.2]
theorem linesI_len {is : List In} {k B : Nat} (hB : (is.getD k default).b = (B : Int)) (hk : k + B < is.length) : (clausesZ is (k : Int)).length = B := by
 unfold clausesZ
 rw [Int.toNat_natCast, hB, Int.toNat_natCast, List.length_take, List.length_drop]
 omega
theorem linesI_next {is : List In} {k B j : Nat} (hB : (is.getD k default).b = (B : Int)) (hk : k + B < is.length) (hj : j < B) : (clausesZ is (k : Int)).take (j + 1) = (clausesZ is (k : Int)).take j ++ [is.getD (k + (j + 1)) default] := by
 have hl := linesI_len hB hk
 have e : (clausesZ is (k : Int))[j]? = some (is.getD (k + (j + 1)) default) := by
   unfold clausesZ
   rw [Int.toNat_natCast, hB, Int.toNat_natCast, List.getElem?_take_of_lt hj, List.getElem?_drop, List.getD_eq_getElem?_getD, show k + 1 + j = k + (j + 1) by omega, List.getElem?_eq_getElem (by omega)]
   rfl
 rw [List.take_add_one, e]
 rfl
def BoolP (b : Bool) (W : World) (e : Ending) (W' : World) : Prop := e = .returned (.bool b) ∧ Below W.heap.size W W'
set_option maxRecDepth 100000 in
set_option maxHeartbeats 8000000 in
theorem isTable_calls {Fb bc oc cc : Nat} {is : List In} {W : World} (hF : W.cell? ⟨Fb, 0, none⟩ = some (.slice (some ⟨bc, oc, none⟩) is.length cc)) (hin : InsAt W bc oc is) (hbc : bc < W.heap.size) (hcc : is.length ≤ cc) (hN : is.length ≤ 1500) (hall : ∀ i ∈ is, i.ok = true) (a : Int) (ha : 0 ≤ a) (ha1 : a ≤ 65535) :
   Calls Tryz.prog 65 #[.pointer (some ⟨Fb, 0, none⟩), .int .i64 a] W (BoolP (tableZ is a) W) := by
 have hFl := z28 hF
 have p0 : ∀ y : Later W.heap.size W, y.w.cell? ⟨Fb, 0, none⟩ = _ := fun y => y.cell hFl hF
 have HF := hid hF
 have HN := hid (And.intro hN hcc)
 have HIn := hid (And.intro hin hbc)
 by_cases t1 : (is.length : Int) ≤ a
 · have HT : Hid (tableZ is a = false) := by
     show _ = _
     unfold tableZ
     rw [decide_eq_false (by omega)]
     rfl
   have t1d : decide ((is.length : Int) ≤ a) = true := decide_eq_true t1
   clear hF hin hbc hcc hN hall ha ha1 hFl
   go_enter Tryz.func65, Tryz.ntmps65
   go_wp2_with fail
   refine z30 W.heap.size (by kernel_rfl) (by kernel_rfl) ?_
   repeat (go_big_quiet_step (fail))
   refine wpQuiet_nil ?_
   rintro w5 ⟨y, rfl⟩
   have HY := hid y.h
   generalize y.w = W1 at *
   go_wp2_with fail
   go_ret
   refine ⟨?_, HY.out⟩
   rw [HT.out]
   rfl
 obtain ⟨k, rfl⟩ : ∃ k : Nat, a = (k : Int) := ⟨a.toNat, by omega⟩
 have hk : k < is.length := by omega
 have hok := z41 hall hk
 have c0 := hin k hk 0 (by omega)
 have c2 := hin k hk 2 (by omega)
 obtain ⟨i, hi⟩ : ∃ i, is.getD k default = i := ⟨_, rfl⟩
 rw [hi] at c0 c2 hok
 obtain ⟨op, a1, b1, c1v⟩ := i
 simp only [In.cell, Nat.add_zero] at c0 c2
 have p1 : ∀ y : Later W.heap.size W, y.w.cell? ⟨bc, oc + k * 4, none⟩ = _ := fun y => y.cell hbc c0
 have p2 : ∀ y : Later W.heap.size W, y.w.cell? ⟨bc, oc + k * 4 + 2, none⟩ = _ := fun y => y.cell hbc c2
 have HI := hid hi
 have HOk := hid hok
 have HC2 := hid c2
 have HTb : Hid (tableZ is (k : Int) = (decide ((k : Int) < (is.length : Int)) && (decide (op = 24) && (decide (b1 ≤ 4) && (decide (b1 < (is.length : Int) - k) && (clausesZ is k).all (fun i => decide (i.op = 25))))))) := by
   show _ = _
   unfold tableZ
   rw [Int.toNat_natCast, hi]
 have q1 : (0 : Int) ≤ (k : Int) := by omega
 have t1d : decide ((is.length : Int) ≤ (k : Int)) = false := decide_eq_false t1
 have t1n : decide (is.length ≤ k) = false := decide_eq_false (by omega)
 have hws : wrap64 ((is.length : Int) - (k : Int)) = (is.length : Int) - k := by rw [wrap64]; omega
 clear hF hin hbc hcc hN hall ha ha1 hFl c0 c2 hi hok t1
 have t1 : (k : Int) < (is.length : Int) := by omega
 by_cases t2 : op = 24
 case neg =>
   have HT : Hid (tableZ is (k : Int) = false) := by
     show _ = _
     rw [HTb.out, decide_eq_false t2]
     simp
   have t2' : (op != 24) = true := by simp [t2]
   clear t2
   go_enter Tryz.func65, Tryz.ntmps65
   go_wp2_with fail
   refine z30 W.heap.size (by kernel_rfl) (by kernel_rfl) ?_
   repeat (go_big_quiet_step (fail))
   refine wpQuiet_nil ?_
   rintro w5 ⟨y, rfl⟩
   have HY := hid y.h
   generalize y.w = W1 at *
   go_wp2_with fail
   go_ret
   refine ⟨?_, HY.out⟩
   rw [HT.out]
   rfl
 subst t2
 have t2' : ((24 : Int) != 24) = false := rfl
 have hb1 : 0 ≤ b1 ∧ b1 ≤ 65535 := by
   have := ok_nums HOk.out (by dsimp only; decide) (by dsimp only; decide) (by dsimp only; decide)
   exact ⟨this.2.2.1, this.2.2.2.1⟩
 have HB1 := hid hb1
 clear hb1
 by_cases t3 : 4 < b1
 · have t3d : decide (4 < b1) = true := decide_eq_true t3
   have HT : Hid (tableZ is (k : Int) = false) := by
     show _ = _
     rw [HTb.out, decide_eq_false (show ¬ b1 ≤ 4 by omega)]
     simp
   go_enter Tryz.func65, Tryz.ntmps65
   go_wp2_with fail
   refine z30 W.heap.size (by kernel_rfl) (by kernel_rfl) ?_
   repeat (go_big_quiet_step (fail))
   refine wpQuiet_nil ?_
   rintro w5 ⟨y, rfl⟩
   have HY := hid y.h
   generalize y.w = W1 at *
   go_wp2_with fail
   go_ret
   refine ⟨?_, HY.out⟩
   rw [HT.out]
   rfl
 have t3d : decide (4 < b1) = false := decide_eq_false t3
 by_cases t4 : (is.length : Int) - k ≤ b1
 · have t4d : decide ((is.length : Int) - (k : Int) ≤ b1) = true := decide_eq_true t4
   have HT : Hid (tableZ is (k : Int) = false) := by
     show _ = _
     rw [HTb.out, decide_eq_false (show ¬ b1 < (is.length : Int) - k by omega)]
     simp
   go_enter Tryz.func65, Tryz.ntmps65
   go_wp2_with fail
   refine z30 W.heap.size (by kernel_rfl) (by kernel_rfl) ?_
   repeat (go_big_quiet_step (fail))
   refine wpQuiet_nil ?_
   rintro w5 ⟨y, rfl⟩
   have HY := hid y.h
   generalize y.w = W1 at *
   go_wp2_with fail
   go_ret
   refine ⟨?_, HY.out⟩
   rw [HT.out]
   rfl
 have t4d : decide ((is.length : Int) - (k : Int) ≤ b1) = false := decide_eq_false t4
 obtain ⟨B, hBz⟩ : ∃ B : Nat, b1 = (B : Int) := ⟨b1.toNat, by have := HB1.out; omega⟩
 have HBk : Hid (b1 = (B : Int) ∧ k + B < is.length ∧ B ≤ 4) := ⟨hBz, by omega, by omega⟩
 clear hBz t3 t4
 go_enter Tryz.func65, Tryz.ntmps65
 go_wp2_with fail
 refine z30 W.heap.size (by kernel_rfl) (by kernel_rfl) ?_
 repeat (go_big_quiet_step (fail))
 refine wpQuiet_nil ?_
 rintro w5 ⟨y, rfl⟩
 have HY := hid y.h
 generalize y.w = W1 at *
 have hF1 := (HY.out.cell (z28 HF.out)).trans HF.out
 have hin1 := HIn.out.1.below HY.out HIn.out.2
 have hc21 := (HY.out.cell (z28 HC2.out)).trans HC2.out
 rw [HBk.out.1] at hc21
 have HCl := hid (tabClauses_calls hF1 hc21 HBk.out.2.1 HN.out.2 HN.out.1)
 clear p0 p1 p2 hF1 hc21
 have HIn1 := hid hin1
 clear hin1
 go_wp2_with fail
 refine HCl.out.mono ?_
 rintro e W2 ⟨ad, cp, rfl, had, hb2⟩
 have HAd := hid had
 have HY2 := hid (HY.out.trans (hb2.mono HY.out.size))
 have HIn2 := hid (HIn1.out.below hb2 (Nat.lt_of_lt_of_le HIn.out.2 HY.out.size))
 clear had hb2 HCl HIn1
 go_wp2_with fail
 have HL : Hid (∀ j, j < B → (clausesZ is (k : Int)).take (j + 1) = (clausesZ is (k : Int)).take j ++ [is.getD (k + (j + 1)) default]) := fun j hj => linesI_next (by rw [HI.out]; exact HBk.out.1) HBk.out.2.1 hj
 have HLl : Hid ((clausesZ is (k : Int)).length = B) := linesI_len (by rw [HI.out]; exact HBk.out.1) HBk.out.2.1
 go_loopw [58] (fun i wr => ∃ (j : Nat), i = .int .i64 (j : Int) ∧ j ≤ B ∧ Hid (Below W2.heap.size W2 wr) ∧ Hid (∀ c ∈ (clausesZ is (k : Int)).take j, c.op = 25)) (fun i _ => B - (intOf i).toNat)
 case atStart => exact ⟨0, rfl, Nat.zero_le _, Below.refl _ _, fun c hc => absurd hc (by simp)⟩
 case round =>
   obtain ⟨j, rfl, hj, HBr, HAr⟩ := hrel
   by_cases hlt : (j : Int) < (B : Int)
   · have hjB : j < B := by omega
     have hkj : k + (j + 1) < is.length := by have := HBk.out; omega
     have hinW := HIn2.out.below HBr.out (Nat.lt_of_lt_of_le HIn.out.2 HY2.out.size)
     have f0 := hinW (k + (j + 1)) hkj 0 (by omega)
     have f1 := hinW (k + (j + 1)) hkj 1 (by omega)
     have f2 := hinW (k + (j + 1)) hkj 2 (by omega)
     have f3 := hinW (k + (j + 1)) hkj 3 (by omega)
     have hnx := HL.out j hjB
     have hmem : is.getD (k + (j + 1)) default ∈ clausesZ is (k : Int) := by
       have h1 : is.getD (k + (j + 1)) default ∈ (clausesZ is (k : Int)).take (j + 1) := by rw [hnx]; simp
       exact List.mem_of_mem_take h1
     obtain ⟨⟨fop, fa, fb, fc⟩, hf⟩ : ∃ i, is.getD (k + (j + 1)) default = i := ⟨_, rfl⟩
     rw [hf] at f0 f1 f2 f3 hnx hmem
     have eo : oc + (k + (j + 1)) * 4 = oc + (k + 1) * 4 + j * 4 := by omega
     rw [eo] at f0 f1 f2 f3
     simp only [In.cell, Nat.add_zero] at f0 f1 f2 f3
     have had := HAd.out (by omega)
     subst had
     have hj0 : (0 : Int) ≤ (j : Int) := by omega
     have hst : B - (intOf (.int .i64 ((j + 1 : Nat) : Int))).toNat < B - (intOf (.int .i64 (j : Int))).toNat := by simp only [intOf, Int.toNat_natCast]; omega
     have HNx := hid hnx
     have HMm := hid hmem
     have HSt := hid hst
     have HJB := hid hjB
     obtain ⟨off, hoff⟩ : ∃ off, oc + (k + 1) * 4 = off := ⟨_, rfl⟩
     rw [hoff] at f0 f1 f2 f3 ⊢
     clear hnx hmem hf hinW hst eo hkj hjB hj hoff
     by_cases hop : fop = 25
     case neg =>
       have hop' : (fop != 25) = true := by simp [hop]
       have HT : Hid (tableZ is (k : Int) = false) := by
         show _ = _
         rw [HTb.out]
         have : (clausesZ is (k : Int)).all (fun i => decide (i.op = 25)) = false := by
           rw [Bool.eq_false_iff]
           intro he
           exact hop (of_decide_eq_true (List.all_eq_true.1 he _ HMm.out))
         rw [this]
         simp
       clear hop
       go_wp2_with fail
       go_ret
       refine ⟨?_, (HY2.out.trans (HBr.out.mono HY2.out.size)).alloc (by have := HY2.out.size; have := HBr.out.size; omega) _⟩
       rw [HT.out]
       rfl
     subst hop
     go_wp2_with fail
     try rw [z69 HJB.out (by have := HBk.out; omega)]
     refine ⟨⟨j + 1, rfl, HJB.out, HBr.out.alloc HBr.out.size _, fun c hc => ?_⟩, HSt.out⟩
     rw [HNx.out, List.mem_append, List.mem_singleton] at hc
     rcases hc with hc | rfl
     · exact HAr.out c hc
     · rfl
   · have hjB : j = B := by omega
     have HT : Hid (tableZ is (k : Int) = true) := by
       show _ = _
       rw [HTb.out]
       have h1 := HBk.out
       have h2 : (clausesZ is (k : Int)).all (fun i => decide (i.op = 25)) = true := List.all_eq_true.2 (fun c hc => decide_eq_true (HAr.out c (by rw [hjB, List.take_of_length_le (by rw [HLl.out]; exact Nat.le_refl _)]; exact hc)))
       rw [h2, decide_eq_true (show (k : Int) < (is.length : Int) by omega), decide_eq_true (show b1 ≤ 4 by omega), decide_eq_true (show b1 < (is.length : Int) - k by omega)]
       rfl
     clear hjB hj
     go_wp2_with fail
     go_ret
     refine ⟨?_, HY2.out.trans (HBr.out.mono HY2.out.size)⟩
     rw [HT.out]
     rfl
end
section
open Go.RowKit Go.Conc
theorem z34 (W : World) (o o' : Obj) : Below W.heap.size W ((W.alloc o).alloc o') := ((Below.refl _ _).alloc (Nat.le_refl _) _).alloc (by simp) _
set_option maxRecDepth 100000 in
theorem needs_0 (is : List In) (Fb : Nat) (a b c n v p : Int) (W : World) :
   Calls Tryz.prog 35 #[.pointer (some ⟨Fb, 0, none⟩), .agg #[.int .i64 0, .int .i64 a, .int .i64 b, .int .i64 c], .agg #[.int .i64 n, .int .i64 v, .int .i64 p]] W (BoolP (needsZ is ⟨0, a, b, c⟩ ⟨n, v, p⟩) W) := by
 have hz : needsZ is ⟨0, a, b, c⟩ ⟨n, v, p⟩ = decide (v = 1 ∧ p = 1) := by simp [needsZ]
 rw [hz]
 clear hz
 by_cases h1 : v = 1
 · subst h1
   by_cases h2 : p = 1
   · subst h2
     go_enter Tryz.func35, Tryz.ntmps35
     go_wp2_with fail
     go_ret
     exact ⟨rfl, z34 _ _ _⟩
   · have h2' : (p == 1) = false := by simp [h2]
     rw [decide_eq_false (fun h => h2 h.2)]
     clear h2
     go_enter Tryz.func35, Tryz.ntmps35
     go_wp2_with fail
     go_ret
     exact ⟨rfl, z34 _ _ _⟩
 · have h1' : (v == 1) = false := by simp [h1]
   rw [decide_eq_false (fun h => h1 h.1)]
   clear h1
   go_enter Tryz.func35, Tryz.ntmps35
   go_wp2_with fail
   go_ret
   exact ⟨rfl, z34 _ _ _⟩
set_option maxRecDepth 100000 in
theorem needs_1 (is : List In) (Fb : Nat) (a b c n v p : Int) (W : World) :
   Calls Tryz.prog 35 #[.pointer (some ⟨Fb, 0, none⟩), .agg #[.int .i64 1, .int .i64 a, .int .i64 b, .int .i64 c], .agg #[.int .i64 n, .int .i64 v, .int .i64 p]] W (BoolP (needsZ is ⟨1, a, b, c⟩ ⟨n, v, p⟩) W) := by
 have hz : needsZ is ⟨1, a, b, c⟩ ⟨n, v, p⟩ = true := by simp [needsZ]
 rw [hz]
 clear hz
 go_enter Tryz.func35, Tryz.ntmps35
 go_wp2_with fail
 go_ret
 exact ⟨rfl, z34 _ _ _⟩
set_option maxRecDepth 100000 in
theorem needs_2 (is : List In) (Fb : Nat) (a b c n v p : Int) (W : World) :
   Calls Tryz.prog 35 #[.pointer (some ⟨Fb, 0, none⟩), .agg #[.int .i64 2, .int .i64 a, .int .i64 b, .int .i64 c], .agg #[.int .i64 n, .int .i64 v, .int .i64 p]] W (BoolP (needsZ is ⟨2, a, b, c⟩ ⟨n, v, p⟩) W) := by
 have hz : needsZ is ⟨2, a, b, c⟩ ⟨n, v, p⟩ = true := by simp [needsZ]
 rw [hz]
 clear hz
 go_enter Tryz.func35, Tryz.ntmps35
 go_wp2_with fail
 go_ret
 exact ⟨rfl, z34 _ _ _⟩
set_option maxRecDepth 100000 in
theorem needs_3 (is : List In) (Fb : Nat) (a b c n v p : Int) (W : World) :
   Calls Tryz.prog 35 #[.pointer (some ⟨Fb, 0, none⟩), .agg #[.int .i64 3, .int .i64 a, .int .i64 b, .int .i64 c], .agg #[.int .i64 n, .int .i64 v, .int .i64 p]] W (BoolP (needsZ is ⟨3, a, b, c⟩ ⟨n, v, p⟩) W) := by
 have hz : needsZ is ⟨3, a, b, c⟩ ⟨n, v, p⟩ = true := by simp [needsZ]
 rw [hz]
 clear hz
 go_enter Tryz.func35, Tryz.ntmps35
 go_wp2_with fail
 go_ret
 exact ⟨rfl, z34 _ _ _⟩
set_option maxRecDepth 100000 in
theorem needs_4 (is : List In) (Fb : Nat) (a b c n v p : Int) (W : World) :
   Calls Tryz.prog 35 #[.pointer (some ⟨Fb, 0, none⟩), .agg #[.int .i64 4, .int .i64 a, .int .i64 b, .int .i64 c], .agg #[.int .i64 n, .int .i64 v, .int .i64 p]] W (BoolP (needsZ is ⟨4, a, b, c⟩ ⟨n, v, p⟩) W) := by
 have hz : needsZ is ⟨4, a, b, c⟩ ⟨n, v, p⟩ = true := by simp [needsZ]
 rw [hz]
 clear hz
 go_enter Tryz.func35, Tryz.ntmps35
 go_wp2_with fail
 go_ret
 exact ⟨rfl, z34 _ _ _⟩
set_option maxRecDepth 100000 in
theorem needs_5 (is : List In) (Fb : Nat) (a b c n v p : Int) (W : World) :
   Calls Tryz.prog 35 #[.pointer (some ⟨Fb, 0, none⟩), .agg #[.int .i64 5, .int .i64 a, .int .i64 b, .int .i64 c], .agg #[.int .i64 n, .int .i64 v, .int .i64 p]] W (BoolP (needsZ is ⟨5, a, b, c⟩ ⟨n, v, p⟩) W) := by
 have hz : needsZ is ⟨5, a, b, c⟩ ⟨n, v, p⟩ = decide (a < n) := by simp [needsZ]
 rw [hz]
 clear hz
 go_enter Tryz.func35, Tryz.ntmps35
 go_wp2_with fail
 go_ret
 exact ⟨rfl, z34 _ _ _⟩
set_option maxRecDepth 100000 in
theorem needs_6 (is : List In) (Fb : Nat) (a b c n v p : Int) (W : World) :
   Calls Tryz.prog 35 #[.pointer (some ⟨Fb, 0, none⟩), .agg #[.int .i64 6, .int .i64 a, .int .i64 b, .int .i64 c], .agg #[.int .i64 n, .int .i64 v, .int .i64 p]] W (BoolP (needsZ is ⟨6, a, b, c⟩ ⟨n, v, p⟩) W) := by
 have hz : needsZ is ⟨6, a, b, c⟩ ⟨n, v, p⟩ = true := by simp [needsZ]
 rw [hz]
 clear hz
 go_enter Tryz.func35, Tryz.ntmps35
 go_wp2_with fail
 go_ret
 exact ⟨rfl, z34 _ _ _⟩
set_option maxRecDepth 100000 in
theorem needs_7 (is : List In) (Fb : Nat) (a b c n v p : Int) (W : World) :
   Calls Tryz.prog 35 #[.pointer (some ⟨Fb, 0, none⟩), .agg #[.int .i64 7, .int .i64 a, .int .i64 b, .int .i64 c], .agg #[.int .i64 n, .int .i64 v, .int .i64 p]] W (BoolP (needsZ is ⟨7, a, b, c⟩ ⟨n, v, p⟩) W) := by
 have hz : needsZ is ⟨7, a, b, c⟩ ⟨n, v, p⟩ = true := by simp [needsZ]
 rw [hz]
 clear hz
 go_enter Tryz.func35, Tryz.ntmps35
 go_wp2_with fail
 go_ret
 exact ⟨rfl, z34 _ _ _⟩
set_option maxRecDepth 100000 in
theorem needs_8 (is : List In) (Fb : Nat) (a b c n v p : Int) (W : World) :
   Calls Tryz.prog 35 #[.pointer (some ⟨Fb, 0, none⟩), .agg #[.int .i64 8, .int .i64 a, .int .i64 b, .int .i64 c], .agg #[.int .i64 n, .int .i64 v, .int .i64 p]] W (BoolP (needsZ is ⟨8, a, b, c⟩ ⟨n, v, p⟩) W) := by
 have hz : needsZ is ⟨8, a, b, c⟩ ⟨n, v, p⟩ = decide (2 ≤ v) := by simp [needsZ]
 rw [hz]
 clear hz
 go_enter Tryz.func35, Tryz.ntmps35
 go_wp2_with fail
 go_ret
 exact ⟨rfl, z34 _ _ _⟩
set_option maxRecDepth 100000 in
theorem needs_9 (is : List In) (Fb : Nat) (a b c n v p : Int) (W : World) :
   Calls Tryz.prog 35 #[.pointer (some ⟨Fb, 0, none⟩), .agg #[.int .i64 9, .int .i64 a, .int .i64 b, .int .i64 c], .agg #[.int .i64 n, .int .i64 v, .int .i64 p]] W (BoolP (needsZ is ⟨9, a, b, c⟩ ⟨n, v, p⟩) W) := by
 have hz : needsZ is ⟨9, a, b, c⟩ ⟨n, v, p⟩ = decide (v = 1 ∧ p = 2) := by simp [needsZ]
 rw [hz]
 clear hz
 by_cases h1 : v = 1
 · subst h1
   by_cases h2 : p = 2
   · subst h2
     go_enter Tryz.func35, Tryz.ntmps35
     go_wp2_with fail
     go_ret
     exact ⟨rfl, z34 _ _ _⟩
   · have h2' : (p == 2) = false := by simp [h2]
     rw [decide_eq_false (fun h => h2 h.2)]
     clear h2
     go_enter Tryz.func35, Tryz.ntmps35
     go_wp2_with fail
     go_ret
     exact ⟨rfl, z34 _ _ _⟩
 · have h1' : (v == 1) = false := by simp [h1]
   rw [decide_eq_false (fun h => h1 h.1)]
   clear h1
   go_enter Tryz.func35, Tryz.ntmps35
   go_wp2_with fail
   go_ret
   exact ⟨rfl, z34 _ _ _⟩
set_option maxRecDepth 100000 in
theorem needs_10 (is : List In) (Fb : Nat) (a b c n v p : Int) (W : World) :
   Calls Tryz.prog 35 #[.pointer (some ⟨Fb, 0, none⟩), .agg #[.int .i64 10, .int .i64 a, .int .i64 b, .int .i64 c], .agg #[.int .i64 n, .int .i64 v, .int .i64 p]] W (BoolP (needsZ is ⟨10, a, b, c⟩ ⟨n, v, p⟩) W) := by
 have hz : needsZ is ⟨10, a, b, c⟩ ⟨n, v, p⟩ = decide (1 ≤ v) := by simp [needsZ]
 rw [hz]
 clear hz
 go_enter Tryz.func35, Tryz.ntmps35
 go_wp2_with fail
 go_ret
 exact ⟨rfl, z34 _ _ _⟩
set_option maxRecDepth 100000 in
theorem needs_11 (is : List In) (Fb : Nat) (a b c n v p : Int) (W : World) :
   Calls Tryz.prog 35 #[.pointer (some ⟨Fb, 0, none⟩), .agg #[.int .i64 11, .int .i64 a, .int .i64 b, .int .i64 c], .agg #[.int .i64 n, .int .i64 v, .int .i64 p]] W (BoolP (needsZ is ⟨11, a, b, c⟩ ⟨n, v, p⟩) W) := by
 have hz : needsZ is ⟨11, a, b, c⟩ ⟨n, v, p⟩ = true := by simp [needsZ]
 rw [hz]
 clear hz
 go_enter Tryz.func35, Tryz.ntmps35
 go_wp2_with fail
 go_ret
 exact ⟨rfl, z34 _ _ _⟩
set_option maxRecDepth 100000 in
theorem needs_12 (is : List In) (Fb : Nat) (a b c n v p : Int) (W : World) :
   Calls Tryz.prog 35 #[.pointer (some ⟨Fb, 0, none⟩), .agg #[.int .i64 12, .int .i64 a, .int .i64 b, .int .i64 c], .agg #[.int .i64 n, .int .i64 v, .int .i64 p]] W (BoolP (needsZ is ⟨12, a, b, c⟩ ⟨n, v, p⟩) W) := by
 have hz : needsZ is ⟨12, a, b, c⟩ ⟨n, v, p⟩ = decide (1 ≤ v) := by simp [needsZ]
 rw [hz]
 clear hz
 go_enter Tryz.func35, Tryz.ntmps35
 go_wp2_with fail
 go_ret
 exact ⟨rfl, z34 _ _ _⟩
set_option maxRecDepth 100000 in
theorem needs_13 (is : List In) (Fb : Nat) (a b c n v p : Int) (W : World) :
   Calls Tryz.prog 35 #[.pointer (some ⟨Fb, 0, none⟩), .agg #[.int .i64 13, .int .i64 a, .int .i64 b, .int .i64 c], .agg #[.int .i64 n, .int .i64 v, .int .i64 p]] W (BoolP (needsZ is ⟨13, a, b, c⟩ ⟨n, v, p⟩) W) := by
 have hz : needsZ is ⟨13, a, b, c⟩ ⟨n, v, p⟩ = decide (1 ≤ n) := by simp [needsZ]
 rw [hz]
 clear hz
 go_enter Tryz.func35, Tryz.ntmps35
 go_wp2_with fail
 go_ret
 exact ⟨rfl, z34 _ _ _⟩
set_option maxRecDepth 100000 in
theorem needs_14 (is : List In) (Fb : Nat) (a b c n v p : Int) (W : World) :
   Calls Tryz.prog 35 #[.pointer (some ⟨Fb, 0, none⟩), .agg #[.int .i64 14, .int .i64 a, .int .i64 b, .int .i64 c], .agg #[.int .i64 n, .int .i64 v, .int .i64 p]] W (BoolP (needsZ is ⟨14, a, b, c⟩ ⟨n, v, p⟩) W) := by
 have hz : needsZ is ⟨14, a, b, c⟩ ⟨n, v, p⟩ = decide (2 ≤ v) := by simp [needsZ]
 rw [hz]
 clear hz
 go_enter Tryz.func35, Tryz.ntmps35
 go_wp2_with fail
 go_ret
 exact ⟨rfl, z34 _ _ _⟩
set_option maxRecDepth 100000 in
theorem needs_15 (is : List In) (Fb : Nat) (a b c n v p : Int) (W : World) :
   Calls Tryz.prog 35 #[.pointer (some ⟨Fb, 0, none⟩), .agg #[.int .i64 15, .int .i64 a, .int .i64 b, .int .i64 c], .agg #[.int .i64 n, .int .i64 v, .int .i64 p]] W (BoolP (needsZ is ⟨15, a, b, c⟩ ⟨n, v, p⟩) W) := by
 have hz : needsZ is ⟨15, a, b, c⟩ ⟨n, v, p⟩ = decide (2 ≤ v) := by simp [needsZ]
 rw [hz]
 clear hz
 go_enter Tryz.func35, Tryz.ntmps35
 go_wp2_with fail
 go_ret
 exact ⟨rfl, z34 _ _ _⟩
set_option maxRecDepth 100000 in
theorem needs_16 (is : List In) (Fb : Nat) (a b c n v p : Int) (W : World) :
   Calls Tryz.prog 35 #[.pointer (some ⟨Fb, 0, none⟩), .agg #[.int .i64 16, .int .i64 a, .int .i64 b, .int .i64 c], .agg #[.int .i64 n, .int .i64 v, .int .i64 p]] W (BoolP (needsZ is ⟨16, a, b, c⟩ ⟨n, v, p⟩) W) := by
 have hz : needsZ is ⟨16, a, b, c⟩ ⟨n, v, p⟩ = decide (1 ≤ v) := by simp [needsZ]
 rw [hz]
 clear hz
 go_enter Tryz.func35, Tryz.ntmps35
 go_wp2_with fail
 go_ret
 exact ⟨rfl, z34 _ _ _⟩
set_option maxRecDepth 100000 in
theorem needs_17 (is : List In) (Fb : Nat) (a b c n v p : Int) (W : World) :
   Calls Tryz.prog 35 #[.pointer (some ⟨Fb, 0, none⟩), .agg #[.int .i64 17, .int .i64 a, .int .i64 b, .int .i64 c], .agg #[.int .i64 n, .int .i64 v, .int .i64 p]] W (BoolP (needsZ is ⟨17, a, b, c⟩ ⟨n, v, p⟩) W) := by
 have hz : needsZ is ⟨17, a, b, c⟩ ⟨n, v, p⟩ = decide (1 ≤ v) := by simp [needsZ]
 rw [hz]
 clear hz
 go_enter Tryz.func35, Tryz.ntmps35
 go_wp2_with fail
 go_ret
 exact ⟨rfl, z34 _ _ _⟩
set_option maxRecDepth 100000 in
theorem needs_18 (is : List In) (Fb : Nat) (a b c n v p : Int) (W : World) :
   Calls Tryz.prog 35 #[.pointer (some ⟨Fb, 0, none⟩), .agg #[.int .i64 18, .int .i64 a, .int .i64 b, .int .i64 c], .agg #[.int .i64 n, .int .i64 v, .int .i64 p]] W (BoolP (needsZ is ⟨18, a, b, c⟩ ⟨n, v, p⟩) W) := by
 have hz : needsZ is ⟨18, a, b, c⟩ ⟨n, v, p⟩ = decide (2 ≤ v) := by simp [needsZ]
 rw [hz]
 clear hz
 go_enter Tryz.func35, Tryz.ntmps35
 go_wp2_with fail
 go_ret
 exact ⟨rfl, z34 _ _ _⟩
set_option maxRecDepth 100000 in
theorem needs_19 (is : List In) (Fb : Nat) (a b c n v p : Int) (W : World) :
   Calls Tryz.prog 35 #[.pointer (some ⟨Fb, 0, none⟩), .agg #[.int .i64 19, .int .i64 a, .int .i64 b, .int .i64 c], .agg #[.int .i64 n, .int .i64 v, .int .i64 p]] W (BoolP (needsZ is ⟨19, a, b, c⟩ ⟨n, v, p⟩) W) := by
 have hz : needsZ is ⟨19, a, b, c⟩ ⟨n, v, p⟩ = decide (1 ≤ v) := by simp [needsZ]
 rw [hz]
 clear hz
 go_enter Tryz.func35, Tryz.ntmps35
 go_wp2_with fail
 go_ret
 exact ⟨rfl, z34 _ _ _⟩
set_option maxRecDepth 100000 in
theorem needs_20 (is : List In) (Fb : Nat) (a b c n v p : Int) (W : World) :
   Calls Tryz.prog 35 #[.pointer (some ⟨Fb, 0, none⟩), .agg #[.int .i64 20, .int .i64 a, .int .i64 b, .int .i64 c], .agg #[.int .i64 n, .int .i64 v, .int .i64 p]] W (BoolP (needsZ is ⟨20, a, b, c⟩ ⟨n, v, p⟩) W) := by
 have hz : needsZ is ⟨20, a, b, c⟩ ⟨n, v, p⟩ = decide (1 ≤ v) := by simp [needsZ]
 rw [hz]
 clear hz
 go_enter Tryz.func35, Tryz.ntmps35
 go_wp2_with fail
 go_ret
 exact ⟨rfl, z34 _ _ _⟩
set_option maxRecDepth 100000 in
theorem needs_21 (is : List In) (Fb : Nat) (a b c n v p : Int) (W : World) (hT : ∀ X, Below W.heap.size W X → Calls Tryz.prog 65 #[.pointer (some ⟨Fb, 0, none⟩), .int .i64 a] X (BoolP (tableZ is a) X)) :
   Calls Tryz.prog 35 #[.pointer (some ⟨Fb, 0, none⟩), .agg #[.int .i64 21, .int .i64 a, .int .i64 b, .int .i64 c], .agg #[.int .i64 n, .int .i64 v, .int .i64 p]] W (BoolP (needsZ is ⟨21, a, b, c⟩ ⟨n, v, p⟩) W) := by
 have hz : needsZ is ⟨21, a, b, c⟩ ⟨n, v, p⟩ = tableZ is a := by simp [needsZ]
 rw [hz]
 have HT := hid hT
 clear hT hz
 go_enter Tryz.func35, Tryz.ntmps35
 go_wp2_with fail
 refine (HT.out _ (z34 _ _ _)).mono ?_
 rintro e X ⟨rfl, hb⟩
 have HB := hid ((z34 W _ _).trans (hb.mono (z34 W _ _).size))
 clear hb
 go_wp2_with fail
 go_ret
 exact ⟨rfl, HB.out⟩
set_option maxRecDepth 100000 in
theorem needs_22 (is : List In) (Fb : Nat) (a b c n v p : Int) (W : World) :
   Calls Tryz.prog 35 #[.pointer (some ⟨Fb, 0, none⟩), .agg #[.int .i64 22, .int .i64 a, .int .i64 b, .int .i64 c], .agg #[.int .i64 n, .int .i64 v, .int .i64 p]] W (BoolP (needsZ is ⟨22, a, b, c⟩ ⟨n, v, p⟩) W) := by
 have hz : needsZ is ⟨22, a, b, c⟩ ⟨n, v, p⟩ = decide (1 ≤ v) := by simp [needsZ]
 rw [hz]
 clear hz
 go_enter Tryz.func35, Tryz.ntmps35
 go_wp2_with fail
 go_ret
 exact ⟨rfl, z34 _ _ _⟩
set_option maxRecDepth 100000 in
theorem needs_23 (is : List In) (Fb : Nat) (a b c n v p : Int) (W : World) :
   Calls Tryz.prog 35 #[.pointer (some ⟨Fb, 0, none⟩), .agg #[.int .i64 23, .int .i64 a, .int .i64 b, .int .i64 c], .agg #[.int .i64 n, .int .i64 v, .int .i64 p]] W (BoolP (needsZ is ⟨23, a, b, c⟩ ⟨n, v, p⟩) W) := by
 have hz : needsZ is ⟨23, a, b, c⟩ ⟨n, v, p⟩ = decide (v = 1 ∧ p = 3) := by simp [needsZ]
 rw [hz]
 clear hz
 by_cases h1 : v = 1
 · subst h1
   by_cases h2 : p = 3
   · subst h2
     go_enter Tryz.func35, Tryz.ntmps35
     go_wp2_with fail
     go_ret
     exact ⟨rfl, z34 _ _ _⟩
   · have h2' : (p == 3) = false := by simp [h2]
     rw [decide_eq_false (fun h => h2 h.2)]
     clear h2
     go_enter Tryz.func35, Tryz.ntmps35
     go_wp2_with fail
     go_ret
     exact ⟨rfl, z34 _ _ _⟩
 · have h1' : (v == 1) = false := by simp [h1]
   rw [decide_eq_false (fun h => h1 h.1)]
   clear h1
   go_enter Tryz.func35, Tryz.ntmps35
   go_wp2_with fail
   go_ret
   exact ⟨rfl, z34 _ _ _⟩
set_option maxRecDepth 100000 in
theorem needs_24 (is : List In) (Fb : Nat) (a b c n v p : Int) (W : World) :
   Calls Tryz.prog 35 #[.pointer (some ⟨Fb, 0, none⟩), .agg #[.int .i64 24, .int .i64 a, .int .i64 b, .int .i64 c], .agg #[.int .i64 n, .int .i64 v, .int .i64 p]] W (BoolP (needsZ is ⟨24, a, b, c⟩ ⟨n, v, p⟩) W) := by
 have hz : needsZ is ⟨24, a, b, c⟩ ⟨n, v, p⟩ = false := by simp [needsZ]
 rw [hz]
 clear hz
 go_enter Tryz.func35, Tryz.ntmps35
 go_wp2_with fail
 go_ret
 exact ⟨rfl, z34 _ _ _⟩
set_option maxRecDepth 100000 in
theorem needs_25 (is : List In) (Fb : Nat) (a b c n v p : Int) (W : World) :
   Calls Tryz.prog 35 #[.pointer (some ⟨Fb, 0, none⟩), .agg #[.int .i64 25, .int .i64 a, .int .i64 b, .int .i64 c], .agg #[.int .i64 n, .int .i64 v, .int .i64 p]] W (BoolP (needsZ is ⟨25, a, b, c⟩ ⟨n, v, p⟩) W) := by
 have hz : needsZ is ⟨25, a, b, c⟩ ⟨n, v, p⟩ = false := by simp [needsZ]
 rw [hz]
 clear hz
 go_enter Tryz.func35, Tryz.ntmps35
 go_wp2_with fail
 go_ret
 exact ⟨rfl, z34 _ _ _⟩
theorem needs_calls {Fb bc oc cc : Nat} {is : List In} {W : World} (hF : W.cell? ⟨Fb, 0, none⟩ = some (.slice (some ⟨bc, oc, none⟩) is.length cc)) (hin : InsAt W bc oc is) (hbc : bc < W.heap.size) (hcc : is.length ≤ cc) (hN : is.length ≤ 1500) (hall : ∀ i ∈ is, i.ok = true) (i : In) (hi : i.ok = true) (s : Sq) :
   Calls Tryz.prog 35 #[.pointer (some ⟨Fb, 0, none⟩), .agg #[.int .i64 i.op, .int .i64 i.a, .int .i64 i.b, .int .i64 i.c], .agg #[.int .i64 s.n, .int .i64 s.v, .int .i64 s.p]] W (BoolP (needsZ is i s) W) := by
 obtain ⟨op, a, b, c⟩ := i
 obtain ⟨n, v, p⟩ := s
 have ho : 0 ≤ op ∧ op ≤ 25 := by
   unfold In.ok insOkZ at hi
   split at hi
   · cases hi
   · rename_i hn
     have h0 : ¬ manyZ op < 0 := fun e => hn (Or.inl e)
     unfold manyZ at h0
     repeat' split at h0
     all_goals omega
 dsimp only
 rcases ops_cases op with hz | hz
 · omega
 rcases hz with rfl | rfl | rfl | rfl | rfl | rfl | rfl | rfl | rfl | rfl | rfl | rfl | rfl | rfl | rfl | rfl | rfl | rfl | rfl | rfl | rfl | rfl | rfl | rfl | rfl | rfl
 · exact needs_0 is Fb a b c n v p W
 · exact needs_1 is Fb a b c n v p W
 · exact needs_2 is Fb a b c n v p W
 · exact needs_3 is Fb a b c n v p W
 · exact needs_4 is Fb a b c n v p W
 · exact needs_5 is Fb a b c n v p W
 · exact needs_6 is Fb a b c n v p W
 · exact needs_7 is Fb a b c n v p W
 · exact needs_8 is Fb a b c n v p W
 · exact needs_9 is Fb a b c n v p W
 · exact needs_10 is Fb a b c n v p W
 · exact needs_11 is Fb a b c n v p W
 · exact needs_12 is Fb a b c n v p W
 · exact needs_13 is Fb a b c n v p W
 · exact needs_14 is Fb a b c n v p W
 · exact needs_15 is Fb a b c n v p W
 · exact needs_16 is Fb a b c n v p W
 · exact needs_17 is Fb a b c n v p W
 · exact needs_18 is Fb a b c n v p W
 · exact needs_19 is Fb a b c n v p W
 · exact needs_20 is Fb a b c n v p W
 · have hn := ok_nums hi (by dsimp only; decide) (by dsimp only; decide) (by dsimp only; decide)
   exact needs_21 is Fb a b c n v p W (fun X hX => isTable_calls ((hX.cell (z28 hF)).trans hF) (hin.below hX hbc) (Nat.lt_of_lt_of_le hbc hX.size) hcc hN hall a hn.1 hn.2.1)
 · exact needs_22 is Fb a b c n v p W
 · exact needs_23 is Fb a b c n v p W
 · exact needs_24 is Fb a b c n v p W
 · exact needs_25 is Fb a b c n v p W
end
section
open Go.RowKit Go.Conc
def ExB (W : World) (g : Nat) (es : List (Int × Sq)) : Prop :=
 ∃ cur, W.heap[g]? = some (.cells cur 67) ∧ ∀ j, j < es.length → cur[j * 4]? = some (.int .i64 (es.getD j (0, ⟨0, 0, 0⟩)).1) ∧ cur[j * 4 + 1]? = some (.int .i64 (es.getD j (0, ⟨0, 0, 0⟩)).2.n) ∧ cur[j * 4 + 2]? = some (.int .i64 (es.getD j (0, ⟨0, 0, 0⟩)).2.v) ∧ cur[j * 4 + 3]? = some (.int .i64 (es.getD j (0, ⟨0, 0, 0⟩)).2.p)
def ExitsP (es : List (Int × Sq)) (W : World) (e : Ending) (W' : World) : Prop :=
 Below W.heap.size W W' ∧ ∃ ad c, e = .returned (.slice ad es.length c) ∧ (es = [] ∨ ∃ g, ad = some ⟨g, 0, none⟩ ∧ ExB W' g es)
theorem exits_none {W W' : World} (hb : Below W.heap.size W W') : ExitsP [] W (.returned (.slice none 0 0)) W' := ⟨hb, none, 0, rfl, Or.inl rfl⟩
theorem exits_one {W X : World} {t n v p : Int} {e : Int × Sq} (hb : Below W.heap.size W X) (he : e = (t, ⟨n, v, p⟩)) : ExitsP [e] W (.returned (.slice (some ⟨X.heap.size, 0, none⟩) 1 1)) (X.alloc (.cells #[.int .i64 t, .int .i64 n, .int .i64 v, .int .i64 p] 67)) := by
 subst he
 refine ⟨hb.alloc hb.size _, _, 1, rfl, Or.inr ⟨_, rfl, _, (MapKept.heap_alloc X _).1, fun j hj => ?_⟩⟩
 obtain rfl : j = 0 := by simpa using hj
 exact ⟨rfl, rfl, rfl, rfl⟩
theorem exits_two {W X : World} {t n v p t' n' v' p' : Int} {e e' : Int × Sq} (hb : Below W.heap.size W X) (he : e = (t, ⟨n, v, p⟩)) (he' : e' = (t', ⟨n', v', p'⟩)) : ExitsP [e, e'] W (.returned (.slice (some ⟨X.heap.size, 0, none⟩) 2 2)) (X.alloc (.cells #[.int .i64 t, .int .i64 n, .int .i64 v, .int .i64 p, .int .i64 t', .int .i64 n', .int .i64 v', .int .i64 p'] 67)) := by
 subst he he'
 refine ⟨hb.alloc hb.size _, _, 2, rfl, Or.inr ⟨_, rfl, _, (MapKept.heap_alloc X _).1, fun j hj => ?_⟩⟩
 have hj' : j = 0 ∨ j = 1 := by simp at hj; omega
 rcases hj' with rfl | rfl
 · exact ⟨rfl, rfl, rfl, rfl⟩
 · exact ⟨rfl, rfl, rfl, rfl⟩

structure Boxed (W X : World) (b5 b6 : Nat) (op a b c n v p : Int) : Prop where
 bel : Below W.heap.size W X
 i : X.heap[b5]? = some (.cells #[.int .i64 op, .int .i64 a, .int .i64 b, .int .i64 c] 31)
 s : X.heap[b6]? = some (.cells #[.int .i64 n, .int .i64 v, .int .i64 p] 43)
def put4 (X : World) (g : Nat) (a b c d : Value) : World := (((X.setCell ⟨g, 0, none⟩ a).setCell ⟨g, 1, none⟩ b).setCell ⟨g, 2, none⟩ c).setCell ⟨g, 3, none⟩ d
def put3 (X : World) (g : Nat) (a b c : Value) : World := ((X.setCell ⟨g, 0, none⟩ a).setCell ⟨g, 1, none⟩ b).setCell ⟨g, 2, none⟩ c
theorem put4_is {X : World} {g : Nat} {x0 x1 x2 x3 : Value} {t : TypeId} (h : X.heap[g]? = some (.cells #[x0, x1, x2, x3] t)) (a b c d : Value) : (put4 X g a b c d).heap[g]? = some (.cells #[a, b, c, d] t) ∧ (∀ q, q ≠ g → (put4 X g a b c d).heap[q]? = X.heap[q]?) ∧ (put4 X g a b c d).heap.size = X.heap.size ∧ (put4 X g a b c d).os = X.os ∧ (put4 X g a b c d).tape = X.tape ∧ (put4 X g a b c d).output = X.output := by
 refine ⟨by simp [put4, World.setCell, Array.getElem?_modify, h], fun q hq => ?_, by simp [put4, World.setCell], by simp [put4, World.setCell], by simp [put4, World.setCell], by simp [put4, World.setCell]⟩
 unfold put4
 rw [Below.heap_setCell _ ⟨g, 3, none⟩ _ q hq, Below.heap_setCell _ ⟨g, 2, none⟩ _ q hq, Below.heap_setCell _ ⟨g, 1, none⟩ _ q hq, Below.heap_setCell _ ⟨g, 0, none⟩ _ q hq]
theorem put3_is {X : World} {g : Nat} {x0 x1 x2 : Value} {t : TypeId} (h : X.heap[g]? = some (.cells #[x0, x1, x2] t)) (a b c : Value) : (put3 X g a b c).heap[g]? = some (.cells #[a, b, c] t) ∧ (∀ q, q ≠ g → (put3 X g a b c).heap[q]? = X.heap[q]?) ∧ (put3 X g a b c).heap.size = X.heap.size ∧ (put3 X g a b c).os = X.os ∧ (put3 X g a b c).tape = X.tape ∧ (put3 X g a b c).output = X.output := by
 refine ⟨by simp [put3, World.setCell, Array.getElem?_modify, h], fun q hq => ?_, by simp [put3, World.setCell], by simp [put3, World.setCell], by simp [put3, World.setCell], by simp [put3, World.setCell]⟩
 unfold put3
 rw [Below.heap_setCell _ ⟨g, 2, none⟩ _ q hq, Below.heap_setCell _ ⟨g, 1, none⟩ _ q hq, Below.heap_setCell _ ⟨g, 0, none⟩ _ q hq]
theorem two_new (D : World) (o1 o2 : Obj) : ((D.alloc o1).alloc o2).heap[D.heap.size]? = some o1 ∧ ((D.alloc o1).alloc o2).heap[D.heap.size + 1]? = some o2 := by
 have h1 := (MapKept.heap_alloc D o1).1
 have h2 := MapKept.heap_alloc (D.alloc o1) o2
 have hs : (D.alloc o1).heap.size = D.heap.size + 1 := by simp
 refine ⟨(h2.2 _ (by omega)).trans h1, ?_⟩
 have h3 := h2.1
 rw [hs] at h3
 exact h3
theorem boxed {W X : World} {b5 b6 : Nat} {x0 x1 x2 x3 y0 y1 y2 : Value} (hb : Below W.heap.size W X) (h5 : X.heap[b5]? = some (.cells #[x0, x1, x2, x3] 31)) (h6 : X.heap[b6]? = some (.cells #[y0, y1, y2] 43)) (l5 : W.heap.size ≤ b5) (l6 : W.heap.size ≤ b6) (op a b c n v p : Int) :
   Boxed W (put3 (put4 X b5 (.int .i64 op) (.int .i64 a) (.int .i64 b) (.int .i64 c)) b6 (.int .i64 n) (.int .i64 v) (.int .i64 p)) b5 b6 op a b c n v p := by
 have hne : b6 ≠ b5 := fun e => by
   subst e
   rw [h5] at h6
   cases h6
 obtain ⟨p1, p2, p3, p4, p5, p6⟩ := put4_is h5 (.int .i64 op) (.int .i64 a) (.int .i64 b) (.int .i64 c)
 obtain ⟨q1, q2, q3, q4, q5, q6⟩ := put3_is ((p2 b6 hne).trans h6) (.int .i64 n) (.int .i64 v) (.int .i64 p)
 exact ⟨⟨q4.trans (p4.trans hb.os), q5.trans (p5.trans hb.tape), q6.trans (p6.trans hb.output), by rw [q3, p3]; exact hb.size, fun q hq => (q2 q (by omega)).trans ((p2 q (by omega)).trans (hb.block q hq))⟩, (q2 b5 (Ne.symm hne)).trans p1, q1⟩
end
end Go.Proofs.YtfmkgppkgmjpfaaGreatDoor
