/- The namer's walk over a form is the plain one. -/
import Derived.Test.YtgiejnmphfgmgaaGreatDoorNameWalk
namespace Go.Proofs.YtgiejnmphfgmgaaGreatDoor
open Go.RowKit Go.Deep

/-- There is room for so many nodes more. -/
structure Room (c : Nat) (s : Wst) : Prop where
  plain : s.plain.length + 2 * c ≤ 90000
  free : s.free.length + 2 * c ≤ 90000
  made : s.made + 2 * c ≤ 90000

theorem Room.small {c : Nat} {s : Wst} (h : Room c s) : Wsm s := ⟨by have := h.plain; omega, by have := h.free; omega, by have := h.made; omega⟩

theorem makesZ_le (k : Int) : makesZ k ≤ 2 := by
  unfold makesZ
  repeat' split
  all_goals omega

theorem lostZ_len (n : Nd) (sc : Sco) : (lostZ n sc).length ≤ 1 := by
  unfold lostZ
  split <;> simp

/-- Forms that lay there lie there still. -/
theorem shape_now {W0 : World} {Nb BF : Nat} {s : Wst} {vp vf : Value} {W : World} {n : Nd} {us : List Value} {v : Value} (hS : Shape BF W0 n us v) (hN : Nb < BF) (st : Nms W0 Nb s vp vf W) : Shape BF W n us v :=
  hS.kept (Nat.le_refl _) st.size (fun a h1 h2 => World.cell?_of_block (st.kept a.block h2 (by omega)))

theorem forms_now {W0 : World} {Nb BF : Nat} {s : Wst} {vp vf : Value} {W : World} {k : Fo} {us : List Value} (hF : Forms BF W0 k us) (hN : Nb < BF) (st : Nms W0 Nb s vp vf W) : Forms BF W k us :=
  hF.kept (Nat.le_refl _) st.size (fun a h1 h2 => World.cell?_of_block (st.kept a.block h2 (by omega)))

/-- Where a walk has come to. -/
structure Wlk (W0 : World) (Nb : Nat) (W : World) (vp vf : Value) (s' : Wst) (vp' vf' : Value) (X : World) : Prop where
  st : Nms W0 Nb s' vp' vf' X
  fr : Nfr Nb vp vf W X
  mp : Movd W vp vp'
  mf : Movd W vf vf'

theorem Wlk.step {W0 : World} {Nb : Nat} {W : World} {vp vf : Value} {s' s'' : Wst} {vp' vf' vp'' vf'' : Value} {X Y : World} (h : Wlk W0 Nb W vp vf s' vp' vf' X) (hy : Nms W0 Nb s'' vp'' vf'' Y) (fy : Nfr Nb vp' vf' X Y) (hp : Movd X vp' vp'') (hf : Movd X vf' vf'') : Wlk W0 Nb W vp vf s'' vp'' vf'' Y :=
  ⟨hy, h.fr.trans h.mp h.mf fy, h.mp.trans h.fr.size hp, h.mf.trans h.fr.size hf⟩

theorem Wlk.below {W0 : World} {Nb : Nat} {W : World} {vp vf : Value} {s' : Wst} {vp' vf' : Value} {X Y : World} (h : Wlk W0 Nb W vp vf s' vp' vf' X) (hb : Below X.heap.size X Y) : Wlk W0 Nb W vp vf s' vp' vf' Y := h.step (h.st.below hb) (Nfr.of_below hb) (Or.inl rfl) (Or.inl rfl)

/-- A block that no row lies in. -/
structure Free (Nb q : Nat) (vp vf : Value) (X : World) : Prop where
  lt : q < X.heap.size
  nb : q ≠ Nb
  np : vp.ownBlock ≠ some q
  nf : vf.ownBlock ≠ some q

theorem Free.step {Nb q : Nat} {vp vf vp' vf' : Value} {X Y : World} (h : Free Nb q vp vf X) (fy : Nfr Nb vp vf X Y) (hp : Movd X vp vp') (hf : Movd X vf vf') : Free Nb q vp' vf' Y ∧ Y.heap[q]? = X.heap[q]? :=
  ⟨⟨Nat.lt_of_lt_of_le h.lt fy.size, h.nb, hp.not h.lt h.np, hf.not h.lt h.nf⟩, fy.block q h.lt h.nb h.np h.nf⟩

theorem Free.below {Nb q : Nat} {vp vf : Value} {X Y : World} (h : Free Nb q vp vf X) (hb : Below X.heap.size X Y) : Free Nb q vp vf Y ∧ Y.heap[q]? = X.heap[q]? := h.step (Nfr.of_below hb) (Or.inl rfl) (Or.inl rfl)

/-- A new block. -/
theorem free_new {W0 : World} {Nb : Nat} {s : Wst} {vp vf : Value} {X Y : World} (st : Nms W0 Nb s vp vf X) {q : Nat} (h1 : X.heap.size ≤ q) (h2 : q < Y.heap.size) : Free Nb q vp vf Y :=
  ⟨h2, by have := st.nb; have := st.size; omega, fun e => by obtain ⟨-, c, hc⟩ := own_type st.prow e; have := heap_lt hc; omega, fun e => by obtain ⟨-, c, hc⟩ := own_type st.frow e; have := heap_lt hc; omega⟩

/-- Names in a slice. -/
def NamesAt (W : World) (ad : Option Addr) (ss : List ByteArray) : Prop := ss.length = 0 ∨ ∃ g o, ad = some ⟨g, o, none⟩ ∧ g < W.heap.size ∧ ∀ j, j < ss.length → W.cell? ⟨g, o + j, none⟩ = some (.string (ss.getD j ⟨#[]⟩))

theorem names_at {B : Nat} {W : World} {sv : Value} {ss : List ByteArray} (h : SliceOf B W sv (strRow ss)) : ∃ ad c, sv = .slice ad ss.length c ∧ NamesAt W ad ss := by
  have hl : (strRow ss).length = ss.length := by unfold strRow; simp
  rcases h with ⟨e, a, c, rfl⟩ | ⟨g, o, cap, rfl, -, hg, hc⟩
  · have h0 : ss.length = 0 := by rw [← hl, e]; rfl
    exact ⟨a, c, by rw [h0], Or.inl h0⟩
  · refine ⟨_, cap, by rw [hl], Or.inr ⟨g, o, rfl, hg, fun j hj => ?_⟩⟩
    rw [hc j (by rw [hl]; exact hj)]
    unfold strRow
    simp [List.getD, hj]

theorem NamesAt.below {W W' : World} {ad : Option Addr} {ss : List ByteArray} (h : NamesAt W ad ss) (hb : Below W.heap.size W W') : NamesAt W' ad ss := by
  rcases h with h | ⟨g, o, e, hg, hc⟩
  · exact Or.inl h
  · exact Or.inr ⟨g, o, e, Nat.lt_of_lt_of_le hg hb.size, fun j hj => (hb.cell (p := ⟨g, o + j, none⟩) hg).trans (hc j hj)⟩

theorem zip_take (xs ys : List ByteArray) (j : Nat) (h1 : j < xs.length) (h2 : xs.length = ys.length) (sc : Sco) : ((xs.zip ys).take (j + 1)).foldl (fun s p => p :: s) sc = (xs.getD j ⟨#[]⟩, ys.getD j ⟨#[]⟩) :: ((xs.zip ys).take j).foldl (fun s p => p :: s) sc := by
  have hz : j < (xs.zip ys).length := by rw [List.length_zip]; omega
  rw [List.take_add_one, List.getElem?_eq_getElem hz, Option.toList_some, List.foldl_append]
  simp [List.getD, h1, show j < ys.length by omega]

theorem walkW_room {n : Nd} {k : Fo} {sc : Sco} {s : Wst} {c : Nat} (h : Room (1 + k.flat.length + c) s) : Room c (walkW n k sc s) := by
  obtain ⟨h1, h2, h3⟩ := kidsW_plain n (renZ n sc s.made) k 0 sc (stepW n sc s)
  have e1 := h.plain
  have e2 := h.free
  have e3 := h.made
  have h4 := lostZ_len n sc
  have h5 := makesZ_le n.kind
  have s1 : (stepW n sc s).plain.length = s.plain.length + 1 := by simp [stepW]
  have s2 : (stepW n sc s).free.length ≤ s.free.length + 1 := by simp only [stepW, List.length_append]; omega
  have s3 : (stepW n sc s).made ≤ s.made + 2 := by simp only [stepW]; omega
  unfold walkW
  exact ⟨by omega, by omega, by omega⟩

theorem lt_step' {i L : Nat} (h : (i : Int) < (L : Int)) : L - (intOf (.int .i64 ((i + 1 : Nat) : Int))).toNat < L - (intOf (.int .i64 (i : Int))).toNat := by simp only [intOf, Int.toNat_natCast]; omega

set_option maxHeartbeats 8000000 in
set_option maxRecDepth 100000 in
theorem walk_calls {W0 : World} {Nb BF : Nat} (hL : Laid W0) (h0 : Nb ≠ 0) (hNF : Nb < BF) : ∀ (N : Nat) (n : Nd) (k : Fo) (us : List Value) (v : Value) (p : Option Addr) (sc : Sco) (s : Wst) (vp vf : Value) (W : World),
    Forms BF W0 k us → Shape BF W0 n us v → n.kids = k.count → k.wf → (∀ m ∈ n :: k.flat, Whole m) → k.flat.length < N → k.flat.length ≤ 300 → Nms W0 Nb s vp vf W → Room (k.flat.length + 1) s → ScoAt W p sc →
    Calls Tryz.prog 51 #[.pointer (some ⟨Nb, 0, none⟩), v, .pointer p] W fun e W' => (∃ x, e = .returned x) ∧ ∃ vp' vf', Nms W0 Nb (walkW n k sc s) vp' vf' W' ∧ Nfr Nb vp vf W W' ∧ Movd W vp vp' ∧ Movd W vf vf' := by
  intro N
  induction N with
  | zero => intro n k us v p sc s vp vf W _ _ _ _ _ h; omega
  | succ N ih =>
    intro n k us v p sc s vp vf W hF hS hkd hwf hwh hN h300 st hroom hsc
    have hlen := hF.length
    have HIH := hid ih
    have HF := hid hF
    have HS := hid hS
    have HWf := hid hwf
    have HWh := hid hwh
    have HN := hid hN
    have H300 := hid h300
    have HSt := hid st
    have HRm := hid hroom
    have HSc := hid hsc
    have HLn := hid hlen
    have HNo := hid (nodeOfF_calls W (shape_now hS hNF st) hF.ifaces (hwh n List.mem_cons_self) (by rw [hkd, hlen]))
    have HNa := hid (hwh n List.mem_cons_self).2
    obtain ⟨T, pv, hv⟩ := hS.iface
    subst hv
    obtain ⟨TG, hTG⟩ : ∃ TG, walkW n k sc s = TG := ⟨_, rfl⟩
    have HTG0 := hid hTG
    rw [hTG]
    clear hTG
    clear ih hF hS hwf hwh hN h300 st hroom hsc hlen hkd
    go_enter Tryz.func51, Tryz.ntmps51
    go_wp2_with fail
    refine HNo.out.mono ?_
    rintro e W1 ⟨rfl, hb1⟩
    obtain ⟨kd, num, a, b, c, kids⟩ := n
    unfold ndV
    dsimp only at *
    have hb6 := (MapKept.heap_alloc W1 (.cells #[.int .i64 kd, .int .i64 num, .string a, .string b, .string c, .int .i64 kids] 81)).1
    have hb2 := hb1.trans (((Below.refl W1.heap.size W1).alloc (Nat.le_refl _) (.cells #[.int .i64 kd, .int .i64 num, .string a, .string b, .string c, .int .i64 kids] 81)).mono hb1.size)
    have HSt2 := hid (HSt.out.below hb2)
    have HSc2 := hid (HSc.out.below hb2)
    have hlt6 : W.heap.size ≤ W1.heap.size := hb1.size
    have HB2 := hid hb2
    clear HNo hb1 hb2
    go_upto_region 1 with fail
    generalize W1.alloc (.cells #[.int .i64 kd, .int .i64 num, .string a, .string b, .string c, .int .i64 kids] 81) = W2 at *
    generalize W1.heap.size = b6 at *
    have c0 := cell_of_heap hb6 0
    have c1 := cell_of_heap hb6 1
    have c2 := cell_of_heap hb6 2
    have c3 := cell_of_heap hb6 3
    have c4 := cell_of_heap hb6 4
    have c5 := cell_of_heap hb6 5
    simp at c0 c1 c2 c3 c4 c5
    have HRe := hid (rename_calls ⟨kd, num, a, b, c, kids⟩ p sc W2 HSt2.out hL h0 HRm.out.small HSc2.out HNa.out)
    unfold ndV at HRe
    dsimp only at HRe
    go_wp2_with fail
    refine HRe.out.mono ?_
    rintro e W3 ⟨rfl, ⟨vf1, hn3, hm3⟩, hf3⟩
    obtain ⟨m, hm⟩ : ∃ m, renZ ⟨kd, num, a, b, c, kids⟩ sc s.made = m := ⟨_, rfl⟩
    have HMe := hid hm
    rw [hm]
    clear hm HRe
    obtain ⟨mk, mn, ma, mb, mc, mi⟩ := m
    dsimp only
    have K3 : Hid (Wlk W0 Nb W vp vf ⟨s.plain, s.free ++ lostZ ⟨kd, num, a, b, c, kids⟩ sc, s.made + makesZ kd⟩ vp vf1 W3) := ((⟨HSt.out, Nfr.of_below (Below.refl _ _), Or.inl rfl, Or.inl rfl⟩ : Wlk W0 Nb W vp vf s vp vf W).below HB2.out).step hn3 hf3 (Or.inl rfl) hm3
    have HSc3 := hid (HSc2.out.frame HSt2.out hf3)
    have f6 := (free_new (X := W) HSt.out hlt6 (heap_lt hb6)).step hf3 (Or.inl rfl) hm3
    have hb6' := f6.2.trans hb6
    have F6 := hid f6.1
    have HB6 := hid hb6'
    clear hb6 hb6' f6 hn3 hf3 hm3 HSc2 HSt2 HB2 c0 c1 c2 c3 c4 c5
    have hb7 := (MapKept.heap_alloc W3 (.cells #[.int .i64 mk, .int .i64 mn, .string ma, .string mb, .string mc, .int .i64 mi] 81)).1
    have hb4 := (Below.refl W3.heap.size W3).alloc (Nat.le_refl _) (.cells #[.int .i64 mk, .int .i64 mn, .string ma, .string mb, .string mc, .int .i64 mi] 81)
    go_upto_region 2 with fail
    generalize W3.alloc (.cells #[.int .i64 mk, .int .i64 mn, .string ma, .string mb, .string mc, .int .i64 mi] 81) = W4 at *
    have F7 := hid (free_new K3.out.st (Nat.le_refl _) (heap_lt hb7))
    have K4 := hid (K3.out.below hb4)
    have HSc4 := hid (HSc3.out.below hb4)
    have f6 := F6.out.below hb4
    have HB6' := hid (f6.2.trans HB6.out)
    have F6' := hid f6.1
    have HB7 := hid hb7
    have hlt7 : W3.heap.size < W4.heap.size := heap_lt hb7
    generalize W3.heap.size = b7 at *
    clear hb4 hb7 f6 K3 HSc3 F6 HB6
    obtain ⟨ad, cp, hvp⟩ := own_slice K4.out.st.prow
    dsimp only at hvp
    subst hvp
    have d0 := cell_of_heap K4.out.st.blk 0
    simp at d0
    have hNl : Nb < W4.heap.size := heap_lt K4.out.st.blk
    have e0 := cell_of_heap HB7.out 0
    have e1 := cell_of_heap HB7.out 1
    have e2 := cell_of_heap HB7.out 2
    have e3 := cell_of_heap HB7.out 3
    have e4 := cell_of_heap HB7.out 4
    have e5 := cell_of_heap HB7.out 5
    simp at e0 e1 e2 e3 e4 e5
    have q0 : ∀ y : Later W4.heap.size W4, y.w.cell? ⟨Nb, 0, none⟩ = _ := fun y => y.cell hNl d0
    have p0 : ∀ y : Later W4.heap.size W4, y.w.cell? ⟨b7, 0, none⟩ = _ := fun y => y.cell hlt7 e0
    have p1 : ∀ y : Later W4.heap.size W4, y.w.cell? ⟨b7, 1, none⟩ = _ := fun y => y.cell hlt7 e1
    have p2 : ∀ y : Later W4.heap.size W4, y.w.cell? ⟨b7, 2, none⟩ = _ := fun y => y.cell hlt7 e2
    have p3 : ∀ y : Later W4.heap.size W4, y.w.cell? ⟨b7, 3, none⟩ = _ := fun y => y.cell hlt7 e3
    have p4 : ∀ y : Later W4.heap.size W4, y.w.cell? ⟨b7, 4, none⟩ = _ := fun y => y.cell hlt7 e4
    have p5 : ∀ y : Later W4.heap.size W4, y.w.cell? ⟨b7, 5, none⟩ = _ := fun y => y.cell hlt7 e5
    clear d0 e0 e1 e2 e3 e4 e5
    refine till_begin (c := 7) (S := fun w' => ∃ x : Later W4.heap.size W4, w' = x.w) (by kernel_rfl) ?_
    refine till_walk (by kernel_rfl) 6 0 _ _ (by kernel_rfl) (by kernel_rfl) ⟨⟨W4.drew, (Below.refl _ _).drew⟩, rfl⟩ ?_
    simp only [List.drop_zero, List.take_succ_cons, List.take_zero]
    repeat (go_big_quiet_step (fail))
    refine wpQuiet_nil ?_
    rintro w7 ⟨x1, rfl⟩
    have hL1 := x1.h
    clear q0 p0 p1 p2 p3 p4 p5
    generalize x1.w = X1 at *
    refine till_make (k := 6) (v := .slice (some ⟨X1.heap.size, 0, none⟩) 1 1) (w1 := X1.alloc (.cells #[.int .i64 mk, .int .i64 mn, .string ma, .string mb, .string mc, .int .i64 mi] 81)) (by decide) rfl (by kernel_rfl) rfl (by simp [go_sem]) ⟨⟨_, hL1.alloc (by have := hL1.size; omega) _⟩, rfl⟩ (by simp [go_sem]; exact rfl) ?_
    have hE := (MapKept.heap_alloc X1 (.cells #[.int .i64 mk, .int .i64 mn, .string ma, .string mb, .string mc, .int .i64 mi] 81)).1
    have hK := hL1.trans (((Below.refl X1.heap.size X1).alloc (Nat.le_refl _) (.cells #[.int .i64 mk, .int .i64 mn, .string ma, .string mb, .string mc, .int .i64 mi] 81)).mono hL1.size)
    generalize X1.alloc (.cells #[.int .i64 mk, .int .i64 mn, .string ma, .string mb, .string mc, .int .i64 mi] 81) = X2 at *
    have K5 := hid (K4.out.below hK)
    have HSc5 := hid (HSc4.out.below hK)
    have f6 := F6'.out.below hK
    have f7 := F7.out.below hK
    obtain ⟨i0, hi, hz0, hz1, hz2⟩ := info_parts info_nd
    obtain ⟨vp2, X3, hrun, hown, hgrow, -, hat⟩ := run_append_own_at (P := Tryz.prog) X2 W0.heap.size 31 31 81 i0 _ 6 72 Tryz.underlying31 hi hz0 hz1 hz2 rfl (by decide) (.slice ad s.plain.length cp) s.plain.length (ndRow s.plain) K5.out.st.prow ⟨X1.heap.size, 0, none⟩ 1 1 [.int .i64 mk, .int .i64 mn, .string ma, .string mb, .string mc, .int .i64 mi] rfl (fun j u hu => by
      match j, hu with
      | 0, hu => simp at hu; subst hu; exact cell_of_heap hE 0
      | 1, hu => simp at hu; subst hu; exact cell_of_heap hE 1
      | 2, hu => simp at hu; subst hu; exact cell_of_heap hE 2
      | 3, hu => simp at hu; subst hu; exact cell_of_heap hE 3
      | 4, hu => simp at hu; subst hu; exact cell_of_heap hE 4
      | 5, hu => simp at hu; subst hu; exact cell_of_heap hE 5) (fun u hu => by
      simp at hu
      rcases hu with rfl | rfl | rfl | rfl | rfl | rfl <;> rfl) (by have := HRm.out.plain; unfold maxLen; omega) (by have := HRm.out.plain; omega) K5.out.st.size
    have hnx := nms_plain (m := ⟨mk, mn, ma, mb, mc, mi⟩) K5.out.st hown hgrow hat
    refine till_cut (v := vp2) (w1 := X3) rfl (by kernel_rfl) rfl (append_runN (s := .tmp 24) (x := .tmp 26) (t := 31) rfl rfl rfl hrun) (by simp [go_sem]; exact rfl) ?_
    refine any_stage (fun _ => True) ?_
    have hnbk : X3.heap[Nb]? = X2.heap[Nb]? := hgrow.block Nb (heap_lt K5.out.st.blk) (fun e => (K5.out.st.apart K5.out.st.blk).1 (by decide) e.symm)
    have hb3 := hnbk.trans K5.out.st.blk
    have d1 := cell_of_heap hb3 0
    have w1 := frozen_of_heap hb3 0
    simp at d1
    obtain ⟨ad2, cp2, hv2⟩ := own_slice hown
    subst hv2
    refine stage_make (k := 8) (v := .pointer (some ⟨Nb, 0, none⟩)) (w1 := X3) rfl (by kernel_rfl) rfl (by simp [go_sem]) trivial (by simp [go_sem]; exact rfl) ?_
    refine stage_make (k := 9) (v := .pointer (some ⟨Nb, 0, none⟩)) (w1 := X3) rfl (by kernel_rfl) rfl (by simp [go_sem]) trivial (by simp [go_sem]; exact rfl) ?_
    refine stage_skip (k := 10) rfl (w1 := X3.setCell ⟨Nb, 0, none⟩ (.slice ad2 (s.plain.length + 1) cp2)) rfl (by kernel_rfl) rfl (by simp [go_sem, d1, w1]) trivial ?_
    refine stage_end (by kernel_rfl) ?_
    have K7 := hid (K5.out.step hnx.1 hnx.2.1 hnx.2.2 (Or.inl rfl))
    have HSc7 := hid (HSc5.out.frame K5.out.st hnx.2.1)
    have g6 := f6.1.step hnx.2.1 hnx.2.2 (Or.inl rfl)
    have g7 := f7.1.step hnx.2.1 hnx.2.2 (Or.inl rfl)
    have HB6 := hid (g6.2.trans (f6.2.trans HB6'.out))
    have HB7' := hid (g7.2.trans (f7.2.trans HB7.out))
    have F6 := hid g6.1
    have F7' := hid g7.1
    clear hnx hrun hown hgrow hat hE hK hi hz0 hz1 hz2 hnbk hb3 d1 w1 K5 HSc5 f6 f7 g6 g7 hL1 F6' F7 HB6' HB7 HSc4 K4 hNl hlt7
    generalize X3.setCell ⟨Nb, 0, none⟩ (.slice ad2 (s.plain.length + 1) cp2) = W7 at *
    have hK := kidsOf (shape_now HS.out hNF K7.out.st) HF.out.ifaces
    obtain ⟨T', pv', g', rv', e1, hmth', hcf', hKd⟩ := hK
    cases e1
    have HK := hid hKd
    clear hKd
    go_wp2_with fail
    refine HK.out.mono ?_
    rintro e W8 ⟨sv, rfl, hsl, hb8⟩
    have K8 := hid (K7.out.below hb8)
    have HSc8 := hid (HSc7.out.below hb8)
    have g6 := F6.out.below hb8
    have g7 := F7'.out.below hb8
    have HB6' := hid (g6.2.trans HB6.out)
    have HB7 := hid (g7.2.trans HB7'.out)
    have F6' := hid g6.1
    have F7 := hid g7.1
    have HW7 := hid K7.out.st
    have HTG : Hid (kidsW ⟨kd, num, a, b, c, kids⟩ ⟨mk, mn, ma, mb, mc, mi⟩ 0 k sc ⟨s.plain ++ [⟨mk, mn, ma, mb, mc, mi⟩], s.free ++ lostZ ⟨kd, num, a, b, c, kids⟩ sc, s.made + makesZ kd⟩ = TG) := by
      show _ = _
      rw [← HTG0.out]
      unfold walkW stepW
      rw [HMe.out]
    have HRm8 : Hid (Room k.flat.length ⟨s.plain ++ [⟨mk, mn, ma, mb, mc, mi⟩], s.free ++ lostZ ⟨kd, num, a, b, c, kids⟩ sc, s.made + makesZ kd⟩) := by
      have h1 := HRm.out.plain
      have h2 := HRm.out.free
      have h3 := HRm.out.made
      have h4 := lostZ_len ⟨kd, num, a, b, c, kids⟩ sc
      have h5 := makesZ_le kd
      refine ⟨?_, ?_, ?_⟩
      · simp only [List.length_append, List.length_cons, List.length_nil]
        omega
      · simp only [List.length_append]
        omega
      · dsimp only
        omega
    generalize (⟨s.plain ++ [⟨mk, mn, ma, mb, mc, mi⟩], s.free ++ lostZ ⟨kd, num, a, b, c, kids⟩ sc, s.made + makesZ kd⟩ : Wst) = s8 at *
    clear HK hmth' hcf' K7 HSc7 g6 g7 F6 F7' HB6 HB7' HNa HTG0
    rcases hsl with ⟨rfl, ad8, c8, rfl⟩ | ⟨g0, o, cap, rfl, hg7, hg0, hc0⟩
    · have hk : k = .none := by
        have := HLn.out
        cases k with
        | none => rfl
        | tree => simp [Fo.count] at this
      subst hk
      have HT := HTG.out
      simp only [kidsW] at HT
      subst HT
      clear hb8
      go_wp2_with fail
      refine wp_loop_rounds 1 ?_
      rw [rounds_succ]
      go_wp2_with fail
      go_end0
      exact ⟨⟨_, rfl⟩, _, _, K8.out.st, K8.out.fr, K8.out.mp, K8.out.mf⟩
    · have F0 := hid (free_new HW7.out hg7 hg0)
      obtain ⟨L, hL8⟩ : ∃ L, us.length = L := ⟨_, rfl⟩
      have HC0 : Hid (us.length = L ∧ ∀ j, j < us.length → W8.cell? ⟨g0, o + j, none⟩ = us[j]?) := ⟨hL8, hc0⟩
      rw [hL8]
      clear hc0 hL8 hb8 hg7 hg0 HW7
      go_wp2_with fail
      go_loopw [33] (fun i wr => ∃ (i' : Nat) (r : Fo) (rest : List Value) (s' : Wst) (vp' vf' : Value), i = .int .i64 i' ∧ Hid (Forms BF W0 r rest ∧ us.drop i' = rest ∧ i' + r.count = L ∧ r.wf ∧ (∀ m ∈ r.flat, Whole m) ∧ r.flat.length ≤ k.flat.length) ∧ Hid (Room r.flat.length s' ∧ kidsW ⟨kd, num, a, b, c, kids⟩ ⟨mk, mn, ma, mb, mc, mi⟩ i' r sc s' = TG) ∧ Hid (Wlk W0 Nb W (.slice ad s.plain.length cp) vf s' vp' vf' wr) ∧ Hid (ScoAt wr p sc) ∧ Hid (Free Nb b6 vp' vf' wr ∧ wr.heap[b6]? = W8.heap[b6]?) ∧ Hid (Free Nb b7 vp' vf' wr ∧ wr.heap[b7]? = W8.heap[b7]?) ∧ Hid (Free Nb g0 vp' vf' wr ∧ wr.heap[g0]? = W8.heap[g0]?)) (fun i _ => L - (intOf i).toNat)
      case atStart => exact ⟨0, k, us, s8, _, _, rfl, ⟨HF.out, rfl, by rw [← HC0.out.1, HLn.out]; omega, HWf.out, fun m hm => HWh.out m (List.mem_cons_of_mem _ hm), Nat.le_refl _⟩, ⟨HRm8.out, HTG.out⟩, K8, HSc8, ⟨F6'.out, rfl⟩, ⟨F7.out, rfl⟩, ⟨F0.out, rfl⟩⟩
      case round =>
        obtain ⟨i', r, rest, s', vp', vf', rfl, HR, HRT, KR, HScR, G6, G7, G0⟩ := hrel
        cases r with
        | none =>
          obtain ⟨-, -, h1, -⟩ := HR.out
          simp only [Fo.count] at h1
          have h1' : i' = L := by omega
          subst h1'
          have HT := HRT.out.2
          simp only [kidsW] at HT
          subst HT
          clear HR h1 HRT HTG
          go_wp2_with fail
          go_end0
          exact ⟨⟨_, rfl⟩, _, _, KR.out.st, KR.out.fr, KR.out.mp, KR.out.mf⟩
        | tree n' k' r' =>
          obtain ⟨⟨v', us', rest', e1, hF1, hS1, hF2⟩, e2, h1, h2, h3, h4⟩ := HR.out
          obtain ⟨h2a, h2b, h2c⟩ := h2
          simp only [Fo.count, Fo.flat, List.length_cons, List.length_append] at h1 h4
          rw [e1] at e2
          have hi : (i' : Int) < (L : Int) := by omega
          have hil : i' < us.length := by rw [HC0.out.1]; omega
          have hcell : wr.cell? ⟨g0, o + i', none⟩ = some v' := by
            rw [World.cell?_of_block (a := ⟨g0, o + i', none⟩) G0.out.2, HC0.out.2 i' hil]
            rw [List.drop_eq_getElem_cons hil] at e2
            rw [List.getElem?_eq_getElem hil, (List.cons.inj e2).1]
          have hdrop : us.drop (i' + 1) = rest' := by
            rw [List.drop_eq_getElem_cons hil] at e2
            exact (List.cons.inj e2).2
          obtain ⟨T', p', rfl⟩ := hS1.iface
          have Hsub := hid (And.intro hF1 (And.intro hS1 (And.intro h2a h2b)))
          have Hrst : Hid (Forms BF W0 r' rest' ∧ us.drop (i' + 1) = rest' ∧ i' + 1 + r'.count = L ∧ r'.wf ∧ (∀ m ∈ r'.flat, Whole m) ∧ r'.flat.length ≤ k.flat.length) := ⟨hF2, hdrop, by omega, h2c, fun m hm => h3 m (by simp only [Fo.flat, List.mem_cons, List.mem_append]; exact Or.inr (Or.inr hm)), by omega⟩
          have Hwh' : Hid (∀ m ∈ n' :: k'.flat, Whole m) := fun m hm => h3 m (by
            simp only [Fo.flat, List.mem_cons, List.mem_append]
            rcases List.mem_cons.1 hm with h | h
            · exact Or.inl h
            · exact Or.inr (Or.inl h))
          have Hle : Hid (k'.flat.length + 1 + r'.flat.length ≤ k.flat.length) := by show _ ≤ _; omega
          have hx6 := G6.out.2.trans HB6'.out
          have hx7 := G7.out.2.trans HB7.out
          have c0 := cell_of_heap hx7 0
          have c1 := cell_of_heap hx7 1
          have c2 := cell_of_heap hx7 2
          have c3 := cell_of_heap hx7 3
          have c4 := cell_of_heap hx7 4
          have c5 := cell_of_heap hx7 5
          simp at c0 c1 c2 c3 c4 c5
          have HKn := hid (known_calls ⟨mk, mn, ma, mb, mc, mi⟩ i' wr)
          unfold ndV at HKn
          dsimp only at HKn
          have HX6 := hid hx6
          clear HR hF1 hS1 hF2 e1 e2 h1 h2a h2b h2c h3 h4 hil hdrop hx6 hx7
          have hi0 : (0 : Int) ≤ (i' : Int) := by omega
          go_wp2_with fail
          refine HKn.out.mono ?_
          rintro e W9 ⟨sv1, rfl, hsl1, hb9⟩
          obtain ⟨ad1, cc1, rfl, hn1⟩ := names_at hsl1
          have HN1 := hid hn1
          have HX6' := hid ((hb9.block _ (heap_lt HX6.out)).trans HX6.out)
          have HB9 := hid hb9
          have c0 := cell_of_heap HX6'.out 0
          have c1 := cell_of_heap HX6'.out 1
          have c2 := cell_of_heap HX6'.out 2
          have c3 := cell_of_heap HX6'.out 3
          have c4 := cell_of_heap HX6'.out 4
          have c5 := cell_of_heap HX6'.out 5
          simp at c0 c1 c2 c3 c4 c5
          have HKn2 := hid (known_calls ⟨kd, num, a, b, c, kids⟩ i' W9)
          unfold ndV at HKn2
          dsimp only at HKn2
          clear hsl1 hn1 hb9 HKn HX6 hcell
          go_wp2_with fail
          refine HKn2.out.mono ?_
          rintro e W10 ⟨sv2, rfl, hsl2, hb10⟩
          obtain ⟨ad2', cc2, rfl, hn2⟩ := names_at hsl2
          have HN2 := hid hn2
          have HN1' := hid (HN1.out.below hb10)
          have HB10 := hid (HB9.out.trans (hb10.mono HB9.out.size))
          have hsame : (knownZ ⟨kd, num, a, b, c, kids⟩ i').length = (knownZ ⟨mk, mn, ma, mb, mc, mi⟩ i').length := knownZ_same (by
            have e := renZ_kind ⟨kd, num, a, b, c, kids⟩ sc s.made
            rw [HMe.out] at e
            exact e.symm) i'
          have HOp : Hid (openS ⟨kd, num, a, b, c, kids⟩ ⟨mk, mn, ma, mb, mc, mi⟩ i' sc = ((knownZ ⟨kd, num, a, b, c, kids⟩ i').zip (knownZ ⟨mk, mn, ma, mb, mc, mi⟩ i')).foldl (fun s p => p :: s) sc) := rfl
          have HSm := hid hsame
          have hl2 := knownZ_len ⟨kd, num, a, b, c, kids⟩ i'
          generalize hk1 : knownZ ⟨kd, num, a, b, c, kids⟩ i' = xs at *
          generalize hk2 : knownZ ⟨mk, mn, ma, mb, mc, mi⟩ i' = ys at *
          obtain ⟨M, hM⟩ : ∃ M, xs.length = M := ⟨_, rfl⟩
          have HMl := hid hM
          rw [← hsame, hM]
          clear hsl2 hn2 hb10 HKn2 c0 c1 c2 c3 c4 c5 HN1 HX6' hk1 hk2 hsame hM
          have HSc10 := hid (HScR.out.below HB10.out)
          have K10 := hid (KR.out.below HB10.out)
          have G6' := hid (G6.out.1.below HB10.out)
          have G7' := hid (G7.out.1.below HB10.out)
          have G0' := hid (G0.out.1.below HB10.out)
          have HG6 := hid (G6'.out.2.trans G6.out.2)
          have HG7 := hid (G7'.out.2.trans G7.out.2)
          have HG0 := hid (G0'.out.2.trans G0.out.2)
          clear HScR KR G6 G7 G0 HB10 HB9
          have hM2 : M ≤ 2 := by rw [← HMl.out]; exact hl2
          clear hl2
          have H300' := hid H300.out
          go_wp2_with fail
          go_loopw [10, 46] (fun pin j wj => ∃ (j' : Nat) (q : Option Addr), pin = .pointer q ∧ j = .int .i64 j' ∧ Hid (j' ≤ M ∧ ScoAt wj q (((xs.zip ys).take j').foldl (fun s p => p :: s) sc)) ∧ Hid (Below W10.heap.size W10 wj)) (fun _ j _ => M - (intOf j).toNat)
          case atStart => exact ⟨0, p, rfl, rfl, ⟨Nat.zero_le _, by simpa using HSc10.out⟩, Below.refl _ _⟩
          case round =>
            obtain ⟨j', q, rfl, rfl, HJ, HBj⟩ := hrel
            by_cases hjl : (j' : Int) < (M : Int)
            · have hjx : j' < xs.length := by rw [HMl.out]; omega
              have hjy : j' < ys.length := by rw [← HSm.out]; exact hjx
              obtain ⟨g2, o2, ea2, hg2, hc2⟩ := HN2.out.resolve_left (by omega)
              obtain ⟨g1, o1, ea1, hg1, hc1⟩ := HN1'.out.resolve_left (by omega)
              subst ea2
              subst ea1
              have q2 := (HBj.out.cell (p := ⟨g2, o2 + j', none⟩) hg2).trans (hc2 j' hjx)
              have q1 := (HBj.out.cell (p := ⟨g1, o1 + j', none⟩) hg1).trans (hc1 j' hjy)
              have HZ := hid (zip_take xs ys j' hjx HSm.out sc)
              have hjM : (j' : Int) < ((ys.length : Nat) : Int) := by omega
              have hyM : ys.length = M := by rw [← HSm.out]; exact HMl.out
              generalize xs.getD j' ⟨#[]⟩ = x at *
              generalize ys.getD j' ⟨#[]⟩ = y at *
              have hj0 : (0 : Int) ≤ (j' : Int) := by omega
              clear hc2 hc1 hg2 hg1 hjM hyM hjx hjy
              go_wp2_with fail
              refine (with_calls _ _ _ _).mono ?_
              rintro e W11 ⟨rfl, rfl⟩
              go_wp2_with fail
              refine ⟨⟨j' + 1, _, rfl, rfl, ⟨by omega, ?_⟩, HBj.out.alloc HBj.out.size _⟩, lt_step' hjl⟩
              rw [HZ.out]
              exact ⟨_, q, rfl, (MapKept.heap_alloc _ _).1, HJ.out.2.below ((Below.refl _ _).alloc (Nat.le_refl _) _)⟩
            · have hjM : j' = M := by have := HJ.out.1; omega
              subst hjM
              have HScj : Hid (ScoAt wr q (openS ⟨kd, num, a, b, c, kids⟩ ⟨mk, mn, ma, mb, mc, mi⟩ i' sc)) := by
                rw [HOp.out]
                have e := HJ.out.2
                rw [List.take_of_length_le (by rw [List.length_zip, HMl.out]; omega)] at e
                exact e
              obtain ⟨sc', hsc'⟩ : ∃ sc', openS ⟨kd, num, a, b, c, kids⟩ ⟨mk, mn, ma, mb, mc, mi⟩ i' sc = sc' := ⟨_, rfl⟩
              rw [hsc'] at HScj
              have HSO := hid hsc'
              have Kj := hid (K10.out.below HBj.out)
              have g6 := G6'.out.1.below HBj.out
              have g7 := G7'.out.1.below HBj.out
              have gg0 := G0'.out.1.below HBj.out
              have HScp := hid (HSc10.out.below HBj.out)
              have hRm := HRT.out.1
              simp only [Fo.flat, List.length_cons, List.length_append] at hRm
              have hRm1 : Room (k'.flat.length + 1) s' := ⟨by have := hRm.plain; omega, by have := hRm.free; omega, by have := hRm.made; omega⟩
              have hRm2 : Room (1 + k'.flat.length + r'.flat.length) s' := ⟨by have := hRm.plain; omega, by have := hRm.free; omega, by have := hRm.made; omega⟩
              have HRm2 := hid (walkW_room (n := n') (sc := sc') hRm2)
              have HCl := hid (HIH.out n' k' us' (.iface T' p') q sc' s' vp' vf' wr Hsub.out.1 Hsub.out.2.1 Hsub.out.2.2.1 Hsub.out.2.2.2 Hwh'.out (by have := Hle.out; have := HN.out; omega) (by have := Hle.out; have := H300'.out; omega) Kj.out.st hRm1 HScj.out)
              clear hsc' hRm hRm1 hRm2
              go_wp2_with fail
              refine HCl.out.mono ?_
              rintro e W12 ⟨⟨xx, rfl⟩, vp2, vf2, hn12, hf12, hp12, hq12⟩
              have K12 := hid (Kj.out.step hn12 hf12 hp12 hq12)
              have HSc12 := hid (HScp.out.frame Kj.out.st hf12)
              have r6 := g6.1.step hf12 hp12 hq12
              have r7 := g7.1.step hf12 hp12 hq12
              have r0 := gg0.1.step hf12 hp12 hq12
              have HE6 := hid (r6.2.trans (g6.2.trans HG6.out))
              have HE7 := hid (r7.2.trans (g7.2.trans HG7.out))
              have HE0 := hid (r0.2.trans (gg0.2.trans HG0.out))
              have HR6 := hid r6.1
              have HR7 := hid r7.1
              have HR0 := hid r0.1
              have HTn : Hid (kidsW ⟨kd, num, a, b, c, kids⟩ ⟨mk, mn, ma, mb, mc, mi⟩ (i' + 1) r' sc (walkW n' k' sc' s') = TG) := by
                have e := HRT.out.2
                simp only [kidsW] at e
                rw [HSO.out] at e
                exact e
              have hi9 : i' ≤ 1048576 := by have := HC0.out.1; have := HLn.out; have := Fo.count_le k; have := H300'.out; omega
              clear hn12 hf12 hp12 hq12 r6 r7 r0 g6 g7 gg0 HCl Kj HScp
              go_wp2_with fail
              exact ⟨⟨i' + 1, r', rest', walkW n' k' sc' s', vp2, vf2, rfl, Hrst, ⟨HRm2.out, HTn.out⟩, K12, HSc12, ⟨HR6.out, HE6.out⟩, ⟨HR7.out, HE7.out⟩, ⟨HR0.out, HE0.out⟩⟩, lt_step' hi⟩
end Go.Proofs.YtgiejnmphfgmgaaGreatDoor
