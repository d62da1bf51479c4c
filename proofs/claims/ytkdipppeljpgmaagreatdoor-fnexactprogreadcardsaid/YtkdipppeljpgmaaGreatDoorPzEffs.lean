/- The specification's parser: operations. -/
import Derived.Test.YtkdipppeljpgmaaGreatDoorPzBase
import Derived.Test.YtkdipppeljpgmaaGreatDoorPzLoop
namespace Go.Proofs.YtkdipppeljpgmaaGreatDoor
open Go.RowKit Go.Deep

theorem ef_one (n : Ef) (i : Nat) : (n.cell i).oneCell' = true := by
  match i with
  | 0 => rfl
  | 1 => rfl
  | _ + 2 => rfl

section
variable {d : Dr} {ws : List Wd} {ad : Option Addr} {cp : Nat}

/-- Where the reading of operations stands. -/
structure Ey (d : Dr) (ws : List Wd) (ad : Option Addr) (cp : Nat) (s : Ps) (W X : World) (v : Value) (es : List Ef) : Prop where
  step : StepP d ws ad cp s W X
  row : X.ownsRow W.heap.size 59 3 v es.length (rowZ Ef.cell 3 es)

theorem Ey.re {s0 s s' : Ps} {W X X' : World} {v : Value} {es : List Ef} (h : Ey d ws ad cp s W X v es) (h0 : PsAt d ws ad cp s0 W) (g : Grew d X X') (hp : StepP d ws ad cp s' W X') : Ey d ws ad cp s' W X' v es :=
  ⟨hp, y_grew h.row (heap_lt h0.blk) (by rw [h0.eq]; exact heap_lt h0.blk) g⟩

theorem Ey.nx {s0 s : Ps} {W X : World} {v : Value} {es : List Ef} (h : Ey d ws ad cp s W X v es) (h0 : PsAt d ws ad cp s0 W) (hl : s.at_ < ws.length) : Ey d ws ad cp s.next W (X.setCell ⟨d.B, 1, none⟩ (.int .i64 ((s.at_ + 1 : Nat) : Int))) v es :=
  h.re h0 (grew_set X 1 _) (h.step.next hl)

theorem Ey.app {s0 s : Ps} {W X : World} {v : Value} {es : List Ef} (h : Ey d ws ad cp s W X v es) (h0 : PsAt d ws ad cp s0 W) (x : Ef) (hl : es.length ≤ 10000) (ty : TypeId) :
    ∃ v' X', (Builtin.append_ #[22, 22] ty #[v, .slice (some ⟨X.heap.size, 0, none⟩) 1 1]).run Tryz.prog (X.alloc (.cells #[.string x.name, .int .i64 x.arg, .int .i64 x.res] 59)) = .ok v' X' ∧ Ey d ws ad cp s W X' v' (es ++ [x]) := by
  obtain ⟨i0, hinf, hz0, hz1, hz2⟩ := info_parts info_eff
  have hb : Below X.heap.size X (X.alloc (.cells #[.string x.name, .int .i64 x.arg, .int .i64 x.res] 59)) := (Below.refl _ _).alloc (Nat.le_refl _) _
  have hX := h.re h0 (Grew.of_below hb) (h.step.below hb)
  have hB := heap_lt h.step.1.blk
  have hli : Lies d (X.alloc (.cells #[.string x.name, .int .i64 x.arg, .int .i64 x.res] 59)) (.slice (some ⟨X.heap.size, 0, none⟩) 1 1) [x].length 3 (fun i => Ef.cell ([x].getD (i / 3) default) (i % 3)) :=
    lies_lit (f := Ef.cell) (sz := 3) (by decide) X 59 [x] _ rfl hB (by rw [h0.eq]; exact hB)
  obtain ⟨v', X', hr, ho, hgr⟩ := app_row (d := d) ef_one Tryz.underlying22 hinf hz0 hz1 hz2 rfl (by decide) (by decide) hX.row hli (by simp; omega) hX.step.2.size ty
  exact ⟨v', X', hr, hX.step.own h0 hgr (fun g hg => (hX.row.lt g hg).1), ho⟩

/-- What holds of the loop over the operations. -/
def LoopE (d : Dr) (ws : List Wd) (ad : Option Addr) (cp : Nat) (F : List Ef × Ps) (s : Ps) (W : World) (v : Value) (wr : World) : Prop :=
  ∃ (es : List Ef) (g : Nat) (sr : Ps), Ey d ws ad cp sr W wr v es ∧ effsS ws g es sr = F ∧ ws.length - sr.at_ < g ∧ s.at_ ≤ sr.at_ ∧ es.length ≤ sr.at_ - s.at_ ∧ ∀ x ∈ es, Brief x.name

set_option maxHeartbeats 8000000 in
set_option maxRecDepth 100000 in
theorem effects_calls (hw : BriefW ws) (s : Ps) (W : World) (h : PsAt d ws ad cp s W) :
    Calls Tryz.prog 11 #[.pointer (some ⟨d.B, 0, none⟩)] W fun e W' => ∃ v es s', effsS ws (ws.length + 1) [] s = (es, s') ∧ e = .returned v ∧ Lies d W' v es.length 3 (fun i => Ef.cell (es.getD (i / 3) default) (i % 3)) ∧ StepP d ws ad cp s' W W' ∧ es.length ≤ ws.length ∧ ∀ x ∈ es, Brief x.name := by
  have SP := hid (StepP.start h)
  have H0 := hid h
  have BW := hid hw
  have G := hid (show s.at_ + 0 ≤ s.at_ ∧ s.at_ ≤ ws.length from ⟨Nat.le_refl _, h.lt⟩)
  clear h hw
  go_enter Tryz.func11, Tryz.ntmps11
  go_wp2_with fail
  obtain ⟨F, hF⟩ : ∃ x, effsS ws (ws.length + 1) [] s = x := ⟨_, rfl⟩
  have HF := hid hF
  clear hF
  go_loopw [3] (fun v wr => Hid (LoopE d ws ad cp F s W v wr)) (fun _ wr => ws.length - posOf d wr)
  case atStart => exact hid ⟨[], ws.length + 1, s, ⟨SP.out, rfl, Or.inl ⟨rfl, rfl⟩⟩, HF.out, by omega, Nat.le_refl _, Nat.zero_le _, fun x hx => by cases hx⟩
  case round =>
    obtain ⟨es, g, sr, hN, hFr, hmr, hon, hlen, hbr⟩ := hrel.out
    clear hrel
    obtain ⟨va, vc, rfl⟩ := y_is hN.row
    obtain ⟨g, rfl⟩ : ∃ k, g = k + 1 := ⟨g - 1, by omega⟩
    have EY := hid hN
    have SP := hid hN.step
    have SP0 := hid hN.step
    have HFr := hid hFr
    have HM := hid hmr
    have ON := hid (And.intro hon (And.intro hlen hbr))
    have G := hid (show sr.at_ + 0 ≤ sr.at_ ∧ sr.at_ ≤ ws.length from ⟨Nat.le_refl _, hN.step.1.lt⟩)
    clear hN hFr hmr hon hlen hbr
    go_wp2_with fail
    refine (text_calls sr wr SP.out.1).mono ?_
    rintro e X21 ⟨rfl, hb21⟩
    have SP := hid (SP.out.below hb21)
    have EY := hid (EY.out.re H0.out (Grew.of_below hb21) SP.out)
    obtain ⟨u21, hu21⟩ : ∃ u, txt ws sr = u := ⟨_, rfl⟩
    rw [hu21]
    have HU21 := hid hu21
    clear hb21 hu21
    by_cases hkEffect21 : (u21.toList == ([101, 102, 102, 101, 99, 116] : List UInt8)) = true
    · have hz22 : seesS ws sr kEffect = true := by unfold seesS; rw [HU21.out]; exact hkEffect21
      have hl22 := sees_lt (by decide) hz22
      have Z22 := hid (And.intro hz22 hl22)
      clear hz22 hl22
      have q1 := cell_of_heap SP.out.1.blk 1
      have z1 := frozen_of_heap SP.out.1.blk 1
      simp at q1
      have HWr := hid SP.out.wrap
      have hn23 := SP.out.next Z22.out.2
      have hy23 := EY.out.nx H0.out Z22.out.2
      obtain ⟨s23, hs23⟩ : ∃ x, sr.next = x := ⟨_, rfl⟩
      have hc23 : s23.at_ = sr.at_ + 1 := by rw [← hs23]; rfl
      rw [hs23] at hn23 hy23
      have GR23 := hid (grew_set (d := d) X21 1 (.int .i64 ((sr.at_ + 1 : Nat) : Int)))
      obtain ⟨X23, hX23⟩ : ∃ Y, X21.setCell ⟨d.B, 1, none⟩ (.int .i64 ((sr.at_ + 1 : Nat) : Int)) = Y := ⟨_, rfl⟩
      rw [hX23] at hn23 GR23 hy23
      have HX23 := hid hX23
      have G := hid (show sr.at_ + 1 ≤ s23.at_ ∧ s23.at_ ≤ ws.length by have h1 := G.out; have h2 := Z22.out.2; omega)
      have SPn := hid hn23
      have EYn := hid hy23
      clear hy23
      have Q23 := hid hs23
      clear hn23 hs23 hc23 hX23 GR23
      go_wp2_with fail
      rw [HWr.out, HX23.out]
      have SP := SPn
      clear SPn HWr q1 z1 HX23
      have EY := EYn
      clear EYn
      refine (pname_calls s23 X23 SP.out.1).mono ?_
      rintro e X24 ⟨rfl, hp24⟩
      have hg24 := name_goes (ws := ws) BW.out SP.out.1.lt
      obtain ⟨n24, s24, ht24⟩ : ∃ a b, nameS ws s23 = (a, b) := ⟨_, _, rfl⟩
      rw [ht24] at hp24 hg24 ⊢
      have SP := hid (SP.out.step hp24)
      have EY := hid (EY.out.re H0.out hp24.2 SP.out)
      have G := hid (show sr.at_ + 1 ≤ s24.at_ ∧ s24.at_ ≤ ws.length by have h1 := G.out; have h2 := hg24.1; have h3 := hg24.2.1; dsimp only at h2 h3; omega)
      have B24 := hid hg24.2.2
      have Q24 := hid ht24
      clear hp24 hg24 ht24
      dsimp only
      go_wp2_with fail
      have NB : Hid ((X24.alloc (.cells #[.string n24, .int .i64 0, .int .i64 0] 59)).heap[X24.heap.size]? = some (.cells #[.string n24, .int .i64 0, .int .i64 0] 59)) := hid (MapKept.heap_alloc X24 (.cells #[.string n24, .int .i64 0, .int .i64 0] 59)).1
      have NQ := hid (show X24.heap.size ≠ d.B ∧ X24.heap.size ≠ d.G by have h1 := heap_lt SP.out.1.blk; have h2 := SP.out.1.eq; omega)
      have HZ := hid SP.out.2.size
      have hba : Below X24.heap.size X24 (X24.alloc (.cells #[.string n24, .int .i64 0, .int .i64 0] 59)) := (Below.refl _ _).alloc (Nat.le_refl _) _
      have SP := hid (SP.out.below hba)
      have GX := hid (Grew.of_below (d := d) hba)
      generalize X24.alloc (.cells #[.string n24, .int .i64 0, .int .i64 0] 59) = Y2 at NB SP GX ⊢
      clear hba
      refine (takeK_calls s24 ⟨#[58]⟩ gColon (by kernel_rfl) (by decide) Y2 SP.out.1).mono ?_
      rintro e X25 ⟨⟨x25, rfl⟩, hp25⟩
      have hg25 := take_goes (ws := ws) (l := gColon) (by decide) SP.out.1.lt
      obtain ⟨s25, ht25⟩ : ∃ x, (takeS ws gColon s24).2 = x := ⟨_, rfl⟩
      rw [ht25] at hp25 hg25
      have SP := hid (SP.out.step hp25)
      have NB := hid ((hp25.2.block _ ⟨heap_lt NB.out, NQ.out.1, NQ.out.2⟩).trans NB.out)
      have GX := hid (GX.out.trans hp25.2)
      have G := hid (show sr.at_ + 1 ≤ s25.at_ ∧ s25.at_ ≤ ws.length by have h1 := G.out; omega)
      have Q25 := hid ht25
      clear hp25 hg25 ht25
      go_wp2_with fail
      refine (base_calls s25 X25 SP.out.1).mono ?_
      rintro e X26 ⟨rfl, hp26⟩
      have hg26 := base_on (ws := ws) SP.out.1.lt
      obtain ⟨n26, s26, ht26⟩ : ∃ a b, baseS ws s25 = (a, b) := ⟨_, _, rfl⟩
      rw [ht26] at hp26 hg26 ⊢
      have SP := hid (SP.out.step hp26)
      have NB := hid ((hp26.2.block _ ⟨heap_lt NB.out, NQ.out.1, NQ.out.2⟩).trans NB.out)
      have GX := hid (GX.out.trans hp26.2)
      have G := hid (show sr.at_ + 1 ≤ s26.at_ ∧ s26.at_ ≤ ws.length by have h1 := G.out; have h2 := hg26.1; have h3 := hg26.2; dsimp only at h2 h3; omega)
      have Q26 := hid ht26
      clear hp26 hg26 ht26
      dsimp only
      have q1 := cell_of_heap NB.out 1
      have z1 := frozen_of_heap NB.out 1
      simp at q1
      go_wp2_with fail
      have NB : Hid ((X24.heap.size, X26.setCell ⟨X24.heap.size, 1, none⟩ (.int .i64 n26)).2.heap[X24.heap.size]? = some (.cells #[.string n24, .int .i64 n26, .int .i64 0] 59)) := hid (set_block (i := 1) (.int .i64 n26) NB.out)
      have SP := hid (SP.out.put H0.out HZ.out 1 (.int .i64 n26))
      have GX := hid (set_grew (i := 1) (v := .int .i64 n26) GX.out (Nat.le_refl _))
      dsimp only at NB
      generalize X26.setCell ⟨X24.heap.size, 1, none⟩ (.int .i64 n26) = Z26 at NB SP GX ⊢
      clear q1 z1
      refine (takeK_calls s26 ⟨#[61, 62]⟩ gGives (by kernel_rfl) (by decide) Z26 SP.out.1).mono ?_
      rintro e X27 ⟨⟨x27, rfl⟩, hp27⟩
      have hg27 := take_goes (ws := ws) (l := gGives) (by decide) SP.out.1.lt
      obtain ⟨s27, ht27⟩ : ∃ x, (takeS ws gGives s26).2 = x := ⟨_, rfl⟩
      rw [ht27] at hp27 hg27
      have SP := hid (SP.out.step hp27)
      have NB := hid ((hp27.2.block _ ⟨heap_lt NB.out, NQ.out.1, NQ.out.2⟩).trans NB.out)
      have GX := hid (GX.out.trans hp27.2)
      have G := hid (show sr.at_ + 1 ≤ s27.at_ ∧ s27.at_ ≤ ws.length by have h1 := G.out; omega)
      have Q27 := hid ht27
      clear hp27 hg27 ht27
      go_wp2_with fail
      refine (base_calls s27 X27 SP.out.1).mono ?_
      rintro e X28 ⟨rfl, hp28⟩
      have hg28 := base_on (ws := ws) SP.out.1.lt
      obtain ⟨n28, s28, ht28⟩ : ∃ a b, baseS ws s27 = (a, b) := ⟨_, _, rfl⟩
      rw [ht28] at hp28 hg28 ⊢
      have SP := hid (SP.out.step hp28)
      have NB := hid ((hp28.2.block _ ⟨heap_lt NB.out, NQ.out.1, NQ.out.2⟩).trans NB.out)
      have GX := hid (GX.out.trans hp28.2)
      have G := hid (show sr.at_ + 1 ≤ s28.at_ ∧ s28.at_ ≤ ws.length by have h1 := G.out; have h2 := hg28.1; have h3 := hg28.2; dsimp only at h2 h3; omega)
      have Q28 := hid ht28
      clear hp28 hg28 ht28
      dsimp only
      have q2 := cell_of_heap NB.out 2
      have z2 := frozen_of_heap NB.out 2
      simp at q2
      go_wp2_with fail
      have NB : Hid ((X24.heap.size, X28.setCell ⟨X24.heap.size, 2, none⟩ (.int .i64 n28)).2.heap[X24.heap.size]? = some (.cells #[.string n24, .int .i64 n26, .int .i64 n28] 59)) := hid (set_block (i := 2) (.int .i64 n28) NB.out)
      have SP := hid (SP.out.put H0.out HZ.out 2 (.int .i64 n28))
      have GX := hid (set_grew (i := 2) (v := .int .i64 n28) GX.out (Nat.le_refl _))
      dsimp only at NB
      generalize X28.setCell ⟨X24.heap.size, 2, none⟩ (.int .i64 n28) = Z28 at NB SP GX ⊢
      clear q2 z2
      refine (takeK_calls s28 ⟨#[59]⟩ gSemi (by kernel_rfl) (by decide) Z28 SP.out.1).mono ?_
      rintro e X29 ⟨⟨x29, rfl⟩, hp29⟩
      have hg29 := take_goes (ws := ws) (l := gSemi) (by decide) SP.out.1.lt
      obtain ⟨s29, ht29⟩ : ∃ x, (takeS ws gSemi s28).2 = x := ⟨_, rfl⟩
      rw [ht29] at hp29 hg29
      have SP := hid (SP.out.step hp29)
      have NB := hid ((hp29.2.block _ ⟨heap_lt NB.out, NQ.out.1, NQ.out.2⟩).trans NB.out)
      have GX := hid (GX.out.trans hp29.2)
      have G := hid (show sr.at_ + 1 ≤ s29.at_ ∧ s29.at_ ≤ ws.length by have h1 := G.out; omega)
      have Q29 := hid ht29
      clear hp29 hg29 ht29
      have c0 := cell_of_heap NB.out 0
      have c1 := cell_of_heap NB.out 1
      have c2 := cell_of_heap NB.out 2
      simp at c0 c1 c2
      go_wp2_with (at_builtin; refine wpList_append_by rfl _ _ 22 rfl _ _ rfl rfl (fun ty => (EY.out.re H0.out GX.out SP.out).app H0.out ⟨n24, n26, n28⟩ (by have h1 := ON.out.2.1; have h2 := SP.out.1.few; have h3 := SP0.out.1.lt; omega) ty) ?_; intro v5 w5 hv5; have EY5 := hid hv5; clear hv5)
      go_roundw
      case rel =>
        exact hid ⟨es ++ [⟨n24, n26, n28⟩], g, s29, EY5.out, by
          refine Eq.trans (Eq.symm ?_) HFr.out
          refine (orT Z22.out.1 Q23.out).trans ?_
          refine (bindEq Q24.out).trans ?_
          refine (bindTake Q25.out).trans ?_
          refine (bindEq Q26.out).trans ?_
          refine (bindTake Q27.out).trans ?_
          refine (bindEq Q28.out).trans ?_
          refine (bindTake Q29.out).trans ?_
          rfl, (by have h1 := HM.out; have h2 := G.out; omega), (by have h1 := ON.out; have h2 := G.out; omega), (by have h1 := ON.out; have h2 := G.out; rw [List.length_append]; simp; omega), fun x hx => by
          rw [List.mem_append, List.mem_singleton] at hx
          rcases hx with hx | rfl
          · exact ON.out.2.2 x hx
          · exact B24.out⟩
      case measure =>
        show ws.length - posOf d _ < ws.length - posOf d _
        rw [pos_at EY5.out.step.1, pos_at SP0.out.1]
        have h1 := G.out
        omega
    have hx21kEffect : (u21.toList == ([101, 102, 102, 101, 99, 116] : List UInt8)) = false := by simpa using hkEffect21
    clear hkEffect21
    have hkEffect21 := hx21kEffect
    clear hx21kEffect
    have hz30 : seesS ws sr kEffect = false := by unfold seesS; rw [HU21.out]; exact hkEffect21
    have Z30 := hid hz30
    clear hz30
    go_wp2_with fail
    go_ret
    refine ⟨_, es, sr, ?_, rfl, lies_owns (f := Ef.cell) (by decide) EY.out.row (heap_lt H0.out.blk) (by rw [H0.out.eq]; exact heap_lt H0.out.blk), SP.out, (by have h1 := ON.out.2.1; have h2 := SP0.out.1.lt; omega), ON.out.2.2⟩
    refine HF.out.trans ?_
    refine HFr.out.symm.trans ?_
    refine (orF Z30.out).trans ?_
    rfl

end
end Go.Proofs.YtkdipppeljpgmaaGreatDoor
