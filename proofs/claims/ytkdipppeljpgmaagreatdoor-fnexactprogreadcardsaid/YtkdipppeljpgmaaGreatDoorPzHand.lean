/- The specification's parser: handlers. -/
import Derived.Test.YtkdipppeljpgmaaGreatDoorPzRow
import Derived.Test.YtkdipppeljpgmaaGreatDoorPzLoop
namespace Go.Proofs.YtkdipppeljpgmaaGreatDoor
open Go.RowKit Go.Deep

section
variable {d : Dr} {ws : List Wd} {ad : Option Addr} {cp : Nat}

/-- What holds of the loop over the clauses. -/
def LoopH (d : Dr) (ws : List Wd) (ad : Option Addr) (cp : Nat) (f : Nat) (k : Int) (F : List Nd × Ps) (s : Ps) (W : World) (v : Value) (wr : World) : Prop :=
  ∃ (ls : List Ky) (g : Nat) (sr : Ps), Hy d ws ad cp sr W wr v ls ∧ spz ws g (.opsL k (ls.map Ky.ns)) sr = F ∧ ms ws (.opsL k (ls.map Ky.ns)) sr ≤ g ∧ g ≤ f ∧ s.at_ ≤ sr.at_ ∧ (ls.map Ky.ns).flatten.length ≤ 3 * (sr.at_ - s.at_) + 1 ∧ 2 * ls.length ≤ 6 + (sr.at_ - s.at_) ∧ (sr.bad = false → 2 * ls.length ≤ 4 + (sr.at_ - s.at_))

set_option maxHeartbeats 8000000 in
set_option maxRecDepth 100000 in
theorem phand_calls (hw : BriefW ws) {f : Nat} (ha : ∀ g, g ≤ f → PcAll d ws ad cp g) (k : Int) (s : Ps) (W : World) (h : PsAt d ws ad cp s W) (hm : ms ws (.hand k) s ≤ f + 1) :
    Calls Tryz.prog 122 #[.pointer (some ⟨d.B, 0, none⟩), .int .i64 k] W (PostN d ws ad cp (spz ws (f + 1) (.hand k) s) W) := by
  have SP := hid (StepP.start h)
  have HC := hid (ha f (Nat.le_refl _))
  have HA := hid ha
  have H0 := hid h
  have HM := hid hm
  have BW := hid hw
  have G := hid (show s.at_ + 0 ≤ s.at_ ∧ s.at_ ≤ ws.length from ⟨Nat.le_refl _, h.lt⟩)
  clear h ha hm hw
  go_enter Tryz.func122, Tryz.ntmps122
  go_wp2_with fail
  refine (HC.out.expr s W SP.out.1 (by have h1 := G.out; have h2 := HM.out; simp only [ms, lvN] at h2 ⊢; omega)).mono ?_
  rintro e X1 ⟨v1, rfl, hn1, hp1⟩
  have hg1 := goes_at (ws := ws) BW.out f .expr trivial SP.out.1.lt
  obtain ⟨l1, s1, ht1⟩ : ∃ a b, spz ws f .expr s = (a, b) := ⟨_, _, rfl⟩
  rw [ht1] at hp1 hg1 hn1
  dsimp only at hp1 hn1
  obtain ⟨va1, vc1, rfl⟩ := hn1.is
  have SP := hid (SP.out.step hp1)
  have N1 := hid hn1
  have G := hid (show s.at_ + 0 ≤ s1.at_ ∧ s1.at_ ≤ ws.length by have h1 := G.out; have h2 := hg1.on; have h3 := hg1.lt; dsimp only at h2 h3; omega)
  have L1 := hid (show l1.length ≤ 20000 by have h2 := hg1.len; have h3 := hg1.lt; have h4 := SP.out.1.few; dsimp only [accN] at h2 h3; omega)
  have T1 := hid (show s.at_ ≤ s1.at_ ∧ l1.length ≤ 3 * (s1.at_ - s.at_) by have h1 := hg1.on; have h2 := hg1.len; dsimp only [accN] at h1 h2; omega)
  have Q1 := hid ht1
  clear hp1 hg1 ht1 hn1
  go_wp2_with fail
  have HY : Hid (Hy d ws ad cp s1 W (X1.alloc (.cells #[.slice va1 l1.length vc1] 23)) (.slice (some ⟨X1.heap.size, 0, none⟩) 1 1) [⟨va1, vc1, l1⟩]) := hid (Hy.start SP.out ⟨va1, vc1, l1⟩ N1.out)
  generalize X1.alloc (.cells #[.slice va1 l1.length vc1] 23) = Y1 at HY ⊢
  generalize X1.heap.size = y1 at HY ⊢
  have SP := hid HY.out.step
  clear N1
  have HM0 := HM
  have HM := hid (show 16 * (ws.length - s1.at_) + 12 ≤ f + 1 by have h1 := HM0.out; have h2 := T1.out.1; simp only [ms, lvN] at h1; omega)
  have G := hid (show s1.at_ + 0 ≤ s1.at_ ∧ s1.at_ ≤ ws.length from ⟨Nat.le_refl _, G.out.2⟩)
  refine (takeK_calls s1 ⟨#[119, 105, 116, 104]⟩ kWith (by kernel_rfl) (by decide) Y1 SP.out.1).mono ?_
  rintro e X2 ⟨⟨x2, rfl⟩, hp2⟩
  have hg2 := take_goes (ws := ws) (l := kWith) (by decide) SP.out.1.lt
  obtain ⟨s2, ht2⟩ : ∃ x, (takeS ws kWith s1).2 = x := ⟨_, rfl⟩
  rw [ht2] at hp2 hg2
  have SP := hid (SP.out.step hp2)
  have HY := hid (HY.out.re H0.out hp2.2 SP.out)
  have G := hid (show s1.at_ + 0 ≤ s2.at_ ∧ s2.at_ ≤ ws.length by have h1 := G.out; omega)
  have Q2 := hid ht2
  clear hp2 hg2 ht2
  go_wp2_with fail
  refine (takeK_calls s2 ⟨#[114, 101, 116]⟩ kRet (by kernel_rfl) (by decide) X2 SP.out.1).mono ?_
  rintro e X3 ⟨⟨x3, rfl⟩, hp3⟩
  have hg3 := take_goes (ws := ws) (l := kRet) (by decide) SP.out.1.lt
  obtain ⟨s3, ht3⟩ : ∃ x, (takeS ws kRet s2).2 = x := ⟨_, rfl⟩
  rw [ht3] at hp3 hg3
  have SP := hid (SP.out.step hp3)
  have HY := hid (HY.out.re H0.out hp3.2 SP.out)
  have G := hid (show s1.at_ + 0 ≤ s3.at_ ∧ s3.at_ ≤ ws.length by have h1 := G.out; omega)
  have Q3 := hid ht3
  clear hp3 hg3 ht3
  go_wp2_with fail
  refine (pname_calls s3 X3 SP.out.1).mono ?_
  rintro e X4 ⟨rfl, hp4⟩
  have hg4 := name_goes (ws := ws) BW.out SP.out.1.lt
  obtain ⟨n4, s4, ht4⟩ : ∃ a b, nameS ws s3 = (a, b) := ⟨_, _, rfl⟩
  rw [ht4] at hp4 hg4 ⊢
  have SP := hid (SP.out.step hp4)
  have HY := hid (HY.out.re H0.out hp4.2 SP.out)
  have G := hid (show s1.at_ + 0 ≤ s4.at_ ∧ s4.at_ ≤ ws.length by have h1 := G.out; have h2 := hg4.1; have h3 := hg4.2.1; dsimp only at h2 h3; omega)
  have B4 := hid hg4.2.2
  have Q4 := hid ht4
  clear hp4 hg4 ht4
  dsimp only
  go_wp2_with fail
  refine (takeK_calls s4 ⟨#[45, 62]⟩ gTo (by kernel_rfl) (by decide) X4 SP.out.1).mono ?_
  rintro e X5 ⟨⟨x5, rfl⟩, hp5⟩
  have hg5 := take_goes (ws := ws) (l := gTo) (by decide) SP.out.1.lt
  obtain ⟨s5, ht5⟩ : ∃ x, (takeS ws gTo s4).2 = x := ⟨_, rfl⟩
  rw [ht5] at hp5 hg5
  have SP := hid (SP.out.step hp5)
  have HY := hid (HY.out.re H0.out hp5.2 SP.out)
  have G := hid (show s1.at_ + 0 ≤ s5.at_ ∧ s5.at_ ≤ ws.length by have h1 := G.out; omega)
  have Q5 := hid ht5
  clear hp5 hg5 ht5
  go_wp2_with fail
  have GA := G
  refine (HC.out.expr s5 X5 SP.out.1 (by have h1 := G.out; have h2 := HM.out; simp only [ms, lvN] at h2 ⊢; omega)).mono ?_
  rintro e X6 ⟨v6, rfl, hn6, hp6⟩
  have hg6 := goes_at (ws := ws) BW.out f .expr trivial SP.out.1.lt
  obtain ⟨l6, s6, ht6⟩ : ∃ a b, spz ws f .expr s5 = (a, b) := ⟨_, _, rfl⟩
  rw [ht6] at hp6 hg6 hn6
  dsimp only at hp6 hn6
  obtain ⟨va6, vc6, rfl⟩ := hn6.is
  have SP := hid (SP.out.step hp6)
  have HY := hid (HY.out.re H0.out hp6.2 SP.out)
  have N6 := hid hn6
  have G := hid (show s1.at_ + 0 ≤ s6.at_ ∧ s6.at_ ≤ ws.length by have h1 := G.out; have h2 := hg6.on; have h3 := hg6.lt; dsimp only at h2 h3; omega)
  have L6 := hid (show l6.length ≤ 20000 by have h2 := hg6.len; have h3 := hg6.lt; have h4 := SP.out.1.few; dsimp only [accN] at h2 h3; omega)
  have T6 := hid (show s5.at_ ≤ s6.at_ ∧ l6.length ≤ 3 * (s6.at_ - s5.at_) by have h1 := hg6.on; have h2 := hg6.len; dsimp only [accN] at h1 h2; omega)
  have Q6 := hid ht6
  clear hp6 hg6 ht6 hn6
  go_wp2_with fail
  refine (put1_calls SP.out.1 25 0 0 n4 ⟨#[]⟩ ⟨#[]⟩ N6.out ⟨B4.out, brief_e, brief_e⟩ (by have h1 := L6.out; omega)).mono ?_
  rintro e X7 ⟨v7, rfl, hn7, hb7⟩
  have SP := hid (SP.out.below hb7)
  have HY := hid (HY.out.re H0.out (Grew.of_below hb7) SP.out)
  have N7 := hid hn7
  clear hb7 hn7
  obtain ⟨pn, hpn⟩ : ∃ y, putN ⟨25, 0, n4, ⟨#[]⟩, ⟨#[]⟩, 0⟩ [l6] = y := ⟨_, rfl⟩
  rw [hpn] at N7
  have HPN := hid hpn
  clear hpn
  obtain ⟨vp, vcp, rfl⟩ := N7.out.is
  go_wp2_with (at_builtin; refine wpList_append_by rfl _ _ 85 rfl _ _ rfl rfl (fun ty => HY.out.app H0.out ⟨vp, vcp, pn⟩ N7.out (by simp) ty) ?_; intro v5 w5 hv5; have HY5 := hid hv5.1; clear hv5)
  have SP := hid HY5.out.step
  obtain ⟨F, hF⟩ : ∃ x, spz ws f (.opsL k [l1, pn]) s6 = x := ⟨_, rfl⟩
  have HF := hid hF
  clear hF
  go_loopw [5] (fun v wr => Hid (LoopH d ws ad cp f k F s W v wr)) (fun _ wr => ws.length - posOf d wr)
  case atStart =>
    have h1 := HM.out
    have h2 := G.out
    have h3 := T1.out
    have h4 := T6.out
    have h5 := GA.out
    exact hid ⟨[⟨va1, vc1, l1⟩, ⟨vp, vcp, pn⟩], f, s6, HY5.out, HF.out, (by simp only [ms, lvN]; omega), Nat.le_refl _, by omega, (by rw [← HPN.out]; simp [putN]; omega), by simp <;> omega, fun _ => by simp <;> omega⟩
  case round =>
    obtain ⟨ls, g, sr, hN, hFr, hmr, hgr, hon, hlen, hll, hlv⟩ := hrel.out
    clear hrel
    obtain ⟨va, vc, rfl⟩ := y_is hN.kids
    obtain ⟨g, rfl⟩ : ∃ k, g = k + 1 := ⟨g - 1, by simp only [ms, lvN] at hmr; omega⟩
    have HY := hid hN
    have SP := hid hN.step
    have SP0 := hid hN.step
    have HFr := hid hFr
    have HM := hid hmr
    have HG := hid hgr
    have HC := hid (HA.out g (by omega))
    have ON := hid (And.intro hon (And.intro hlen (And.intro hll hlv)))
    have G := hid (show sr.at_ + 0 ≤ sr.at_ ∧ sr.at_ ≤ ws.length from ⟨Nat.le_refl _, hN.step.1.lt⟩)
    clear hN hFr hmr hgr hon hlen hll hlv
    go_wp2_with fail
    refine (text_calls sr wr SP.out.1).mono ?_
    rintro e X21 ⟨rfl, hb21⟩
    have SP := hid (SP.out.below hb21)
    have HY := hid (HY.out.re H0.out (Grew.of_below hb21) SP.out)
    obtain ⟨u21, hu21⟩ : ∃ u, txt ws sr = u := ⟨_, rfl⟩
    rw [hu21]
    have HU21 := hid hu21
    clear hb21 hu21
    by_cases hgBar21 : (u21.toList == ([124] : List UInt8)) = true
    · have hz22 : seesS ws sr gBar = true := by unfold seesS; rw [HU21.out]; exact hgBar21
      have hl22 := sees_lt (by decide) hz22
      have Z22 := hid (And.intro hz22 hl22)
      clear hz22 hl22
      have q1 := cell_of_heap SP.out.1.blk 1
      have z1 := frozen_of_heap SP.out.1.blk 1
      simp at q1
      have HWr := hid SP.out.wrap
      have hn23 := SP.out.next Z22.out.2
      have hy23 := HY.out.nx H0.out Z22.out.2
      obtain ⟨s23, hs23⟩ : ∃ x, sr.next = x := ⟨_, rfl⟩
      have hc23 : s23.at_ = sr.at_ + 1 := by rw [← hs23]; rfl
      rw [hs23] at hn23 hy23
      have GR23 := hid (grew_set (d := d) X21 1 (.int .i64 ((sr.at_ + 1 : Nat) : Int)))
      obtain ⟨X23, hX23⟩ : ∃ Y, X21.setCell ⟨d.B, 1, none⟩ (.int .i64 ((sr.at_ + 1 : Nat) : Int)) = Y := ⟨_, rfl⟩
      rw [hX23] at hn23 GR23 hy23
      have HX23 := hid hX23
      have G := hid (show sr.at_ + 1 ≤ s23.at_ ∧ s23.at_ ≤ ws.length by have h1 := G.out; have h2 := Z22.out.2; omega)
      have SPn := hid hn23
      have HYn := hid hy23
      clear hy23
      have Q23 := hid hs23
      clear hn23 hs23 hc23 hX23 GR23
      go_wp2_with fail
      rw [HWr.out, HX23.out]
      have SP := SPn
      clear SPn HWr q1 z1 HX23
      have HY := HYn
      clear HYn
      have HB0 := hid (sees_live (by decide) Z22.out.1)
      refine (pname_calls s23 X23 SP.out.1).mono ?_
      rintro e X24 ⟨rfl, hp24⟩
      have hg24 := name_goes (ws := ws) BW.out SP.out.1.lt
      obtain ⟨n24, s24, ht24⟩ : ∃ a b, nameS ws s23 = (a, b) := ⟨_, _, rfl⟩
      rw [ht24] at hp24 hg24 ⊢
      have SP := hid (SP.out.step hp24)
      have HY := hid (HY.out.re H0.out hp24.2 SP.out)
      have G := hid (show sr.at_ + 1 ≤ s24.at_ ∧ s24.at_ ≤ ws.length by have h1 := G.out; have h2 := hg24.1; have h3 := hg24.2.1; dsimp only at h2 h3; omega)
      have B24 := hid hg24.2.2
      have Q24 := hid ht24
      clear hp24 hg24 ht24
      dsimp only
      go_wp2_with fail
      have NB : Hid ((X24.alloc (.cells #[.int .i64 26, .int .i64 0, .string n24, .string ⟨#[]⟩, .string ⟨#[]⟩, .int .i64 0] 64)).heap[X24.heap.size]? = some (.cells #[.int .i64 26, .int .i64 0, .string n24, .string ⟨#[]⟩, .string ⟨#[]⟩, .int .i64 0] 64)) := hid (MapKept.heap_alloc X24 (.cells #[.int .i64 26, .int .i64 0, .string n24, .string ⟨#[]⟩, .string ⟨#[]⟩, .int .i64 0] 64)).1
      have NQ := hid (show X24.heap.size ≠ d.B ∧ X24.heap.size ≠ d.G by have h1 := heap_lt SP.out.1.blk; have h2 := SP.out.1.eq; omega)
      have HZ := hid SP.out.2.size
      have hba : Below X24.heap.size X24 (X24.alloc (.cells #[.int .i64 26, .int .i64 0, .string n24, .string ⟨#[]⟩, .string ⟨#[]⟩, .int .i64 0] 64)) := (Below.refl _ _).alloc (Nat.le_refl _) _
      have SP := hid (SP.out.below hba)
      have GX := hid (Grew.of_below (d := d) hba)
      generalize X24.alloc (.cells #[.int .i64 26, .int .i64 0, .string n24, .string ⟨#[]⟩, .string ⟨#[]⟩, .int .i64 0] 64) = Y2 at NB SP GX ⊢
      clear hba
      refine (pname_calls s24 Y2 SP.out.1).mono ?_
      rintro e X25 ⟨rfl, hp25⟩
      have hg25 := name_goes (ws := ws) BW.out SP.out.1.lt
      obtain ⟨n25, s25, ht25⟩ : ∃ a b, nameS ws s24 = (a, b) := ⟨_, _, rfl⟩
      rw [ht25] at hp25 hg25 ⊢
      have SP := hid (SP.out.step hp25)
      have NB := hid ((hp25.2.block _ ⟨heap_lt NB.out, NQ.out.1, NQ.out.2⟩).trans NB.out)
      have GX := hid (GX.out.trans hp25.2)
      have G := hid (show sr.at_ + 1 ≤ s25.at_ ∧ s25.at_ ≤ ws.length by have h1 := G.out; have h2 := hg25.1; have h3 := hg25.2.1; dsimp only at h2 h3; omega)
      have B25 := hid hg25.2.2
      have Q25 := hid ht25
      clear hp25 hg25 ht25
      dsimp only
      have q3 := cell_of_heap NB.out 3
      have z3 := frozen_of_heap NB.out 3
      simp at q3
      go_wp2_with fail
      have NB : Hid ((X24.heap.size, X25.setCell ⟨X24.heap.size, 3, none⟩ (.string n25)).2.heap[X24.heap.size]? = some (.cells #[.int .i64 26, .int .i64 0, .string n24, .string n25, .string ⟨#[]⟩, .int .i64 0] 64)) := hid (set_block (i := 3) (.string n25) NB.out)
      have SP := hid (SP.out.put H0.out HZ.out 3 (.string n25))
      have GX := hid (set_grew (i := 3) (v := .string n25) GX.out (Nat.le_refl _))
      dsimp only at NB
      generalize X25.setCell ⟨X24.heap.size, 3, none⟩ (.string n25) = Z25 at NB SP GX ⊢
      clear q3 z3
      refine (pname_calls s25 Z25 SP.out.1).mono ?_
      rintro e X26 ⟨rfl, hp26⟩
      have hg26 := name_goes (ws := ws) BW.out SP.out.1.lt
      obtain ⟨n26, s26, ht26⟩ : ∃ a b, nameS ws s25 = (a, b) := ⟨_, _, rfl⟩
      rw [ht26] at hp26 hg26 ⊢
      have SP := hid (SP.out.step hp26)
      have NB := hid ((hp26.2.block _ ⟨heap_lt NB.out, NQ.out.1, NQ.out.2⟩).trans NB.out)
      have GX := hid (GX.out.trans hp26.2)
      have G := hid (show sr.at_ + 1 ≤ s26.at_ ∧ s26.at_ ≤ ws.length by have h1 := G.out; have h2 := hg26.1; have h3 := hg26.2.1; dsimp only at h2 h3; omega)
      have B26 := hid hg26.2.2
      have Q26 := hid ht26
      clear hp26 hg26 ht26
      dsimp only
      have q4 := cell_of_heap NB.out 4
      have z4 := frozen_of_heap NB.out 4
      simp at q4
      go_wp2_with fail
      have NB : Hid ((X24.heap.size, X26.setCell ⟨X24.heap.size, 4, none⟩ (.string n26)).2.heap[X24.heap.size]? = some (.cells #[.int .i64 26, .int .i64 0, .string n24, .string n25, .string n26, .int .i64 0] 64)) := hid (set_block (i := 4) (.string n26) NB.out)
      have SP := hid (SP.out.put H0.out HZ.out 4 (.string n26))
      have GX := hid (set_grew (i := 4) (v := .string n26) GX.out (Nat.le_refl _))
      dsimp only at NB
      generalize X26.setCell ⟨X24.heap.size, 4, none⟩ (.string n26) = Z26 at NB SP GX ⊢
      clear q4 z4
      refine (takeK_calls s26 ⟨#[45, 62]⟩ gTo (by kernel_rfl) (by decide) Z26 SP.out.1).mono ?_
      rintro e X27 ⟨⟨x27, rfl⟩, hp27⟩
      have hg27 := take_goes (ws := ws) (l := gTo) (by decide) SP.out.1.lt
      obtain ⟨s27, ht27⟩ : ∃ x, (takeS ws gTo s26).2 = x := ⟨_, rfl⟩
      rw [ht27] at hp27 hg27
      have SP := hid (SP.out.step hp27)
      have NB := hid ((hp27.2.block _ ⟨heap_lt NB.out, NQ.out.1, NQ.out.2⟩).trans NB.out)
      have GX := hid (GX.out.trans hp27.2)
      have G := hid (show sr.at_ + 1 ≤ s27.at_ ∧ s27.at_ ≤ ws.length by have h1 := G.out; omega)
      have Q27 := hid ht27
      clear hp27 hg27 ht27
      go_upto_region 13 with fail
      refine pick_begin (S := fun w' : World => w'.heap[X24.heap.size]? = some (.cells #[.int .i64 26, .int .i64 0, .string n24, .string n25, .string n26, .int .i64 0] 64)) (by kernel_rfl) rfl rfl ?_
      have hbz : Below X27.heap.size X27 X27.drew := (Below.refl _ _).drew
      have SP := hid (SP.out.below hbz)
      have GX := hid (GX.out.trans (Grew.of_below hbz))
      have NB := hid ((hbz.block _ (heap_lt NB.out)).trans NB.out)
      clear hbz
      generalize X27.drew = Z9 at NB SP GX ⊢
      refine pick_op (i := 0) (v := .slice va ls.length vc) (by kernel_rfl) rfl (by kernel_rfl) (by kernel_rfl) rfl rfl (fun w' _ => by simp [go_sem]) NB.out (by simp [go_sem]; exact rfl) ?_
      refine pick_op (i := 1) (v := .agg #[.int .i64 26, .int .i64 0, .string n24, .string n25, .string n26, .int .i64 0]) (by kernel_rfl) rfl (by kernel_rfl) (by kernel_rfl) rfl rfl (fun w' h => by have e0 := cell_of_heap h 0; have e1 := cell_of_heap h 1; have e2 := cell_of_heap h 2; have e3 := cell_of_heap h 3; have e4 := cell_of_heap h 4; have e5 := cell_of_heap h 5; simp at e0 e1 e2 e3 e4 e5; simp [go_sem, e0, e1, e2, e3, e4, e5]) NB.out (by simp [go_sem]; exact rfl) ?_
      refine pick_op (i := 2) (v := .pointer (some ⟨d.B, 0, none⟩)) (by kernel_rfl) rfl (by kernel_rfl) (by kernel_rfl) rfl rfl (fun w' _ => by simp [go_sem]) NB.out (by simp [go_sem]; exact rfl) ?_
      refine pick_enter (i := 3) (f := 12) (args := #[.pointer (some ⟨d.B, 0, none⟩)]) rfl (by kernel_rfl) rfl rfl (by simp [go_sem]) ?_
      have GE := G
      refine (HC.out.expr s27 Z9 SP.out.1 (by have h1 := G.out; have h2 := HM.out; simp only [ms, lvN] at h2 ⊢; omega)).mono ?_
      rintro e X28 ⟨v28, rfl, hn28, hp28⟩
      have hg28 := goes_at (ws := ws) BW.out g .expr trivial SP.out.1.lt
      obtain ⟨l28, s28, ht28⟩ : ∃ a b, spz ws g .expr s27 = (a, b) := ⟨_, _, rfl⟩
      rw [ht28] at hp28 hg28 hn28
      dsimp only at hp28 hn28
      obtain ⟨va28, vc28, rfl⟩ := hn28.is
      have SP := hid (SP.out.step hp28)
      have NB := hid ((hp28.2.block _ ⟨heap_lt NB.out, NQ.out.1, NQ.out.2⟩).trans NB.out)
      have GX := hid (GX.out.trans hp28.2)
      have N28 := hid hn28
      have G := hid (show sr.at_ + 1 ≤ s28.at_ ∧ s28.at_ ≤ ws.length by have h1 := G.out; have h2 := hg28.on; have h3 := hg28.lt; dsimp only at h2 h3; omega)
      have L28 := hid (show l28.length ≤ 20000 by have h2 := hg28.len; have h3 := hg28.lt; have h4 := SP.out.1.few; dsimp only [accN] at h2 h3; omega)
      have T28 := hid (show s27.at_ ≤ s28.at_ ∧ l28.length ≤ 3 * (s28.at_ - s27.at_) by have h1 := hg28.on; have h2 := hg28.len; dsimp only [accN] at h1 h2; omega)
      have Q28 := hid ht28
      clear hp28 hg28 ht28 hn28
      refine ⟨_, rfl, NB.out, ?_⟩
      refine pick_frame (by simp [go_sem]; exact rfl) ?_
      refine pick_make (i := 4) (v := .slice (some ⟨X28.heap.size, 0, none⟩) 1 1) (w1 := X28.alloc (.cells #[.slice va28 l28.length vc28] 23)) rfl (by kernel_rfl) rfl rfl (by simp [go_sem]) ((((Below.refl X28.heap.size X28).alloc (Nat.le_refl _) (.cells #[.slice va28 l28.length vc28] 23)).block _ (heap_lt NB.out)).trans NB.out) (by simp [go_sem]; exact rfl) ?_
      refine pick_enter (i := 5) (f := 32) (args := #[.agg #[.int .i64 26, .int .i64 0, .string n24, .string n25, .string n26, .int .i64 0], .slice (some ⟨X28.heap.size, 0, none⟩) 1 1]) rfl (by kernel_rfl) rfl rfl (by simp [go_sem]) ?_
      refine (put1_calls SP.out.1 26 0 0 n24 n25 n26 N28.out ⟨B24.out, B25.out, B26.out⟩ (by have h1 := L28.out; omega)).mono ?_
      rintro e X29 ⟨v29, rfl, hn29, hb29⟩
      have SP := hid (SP.out.below hb29)
      have NB := hid (((Grew.of_below hb29).block _ ⟨heap_lt NB.out, NQ.out.1, NQ.out.2⟩).trans NB.out)
      have GX := hid (GX.out.trans (Grew.of_below hb29))
      obtain ⟨pm, hpm⟩ : ∃ y, putN ⟨26, 0, n24, n25, n26, 0⟩ [l28] = y := ⟨_, rfl⟩
      rw [hpm] at hn29
      have HPM := hid hpm
      clear hpm
      obtain ⟨vq, vcq, rfl⟩ := hn29.is
      have N29 := hid hn29
      clear hn29 hb29
      refine ⟨_, rfl, NB.out, ?_⟩
      refine pick_frame (by simp [go_sem]; exact rfl) ?_
      refine pick_make (i := 6) (v := .slice (some ⟨X29.heap.size, 0, none⟩) 1 1) (w1 := X29.alloc (.cells #[.slice vq pm.length vcq] 23)) rfl (by kernel_rfl) rfl rfl (by simp [go_sem]) ((((Below.refl X29.heap.size X29).alloc (Nat.le_refl _) (.cells #[.slice vq pm.length vcq] 23)).block _ (heap_lt NB.out)).trans NB.out) (by simp [go_sem]; exact rfl) ?_
      obtain ⟨va9, X9, hr9, hH9, hK9⟩ := (HY.out.re H0.out GX.out SP.out).app H0.out ⟨vq, vcq, pm⟩ N29.out (by have h1 := ON.out.2.2.1; have h2 := SP.out.1.few; have h3 := SP0.out.1.lt; omega) 85
      obtain ⟨a9, c9, rfl⟩ := y_is hH9.kids
      dsimp only at hr9
      have HH9 := hid hH9
      refine pick_make (i := 7) (v := .slice a9 (ls ++ [(⟨vq, vcq, pm⟩ : Ky)]).length c9) (w1 := X9) rfl (by kernel_rfl) rfl rfl (append_runN (s := .tmp 50) (x := .tmp 56) (t := 85) rfl rfl rfl hr9) (hK9 _ _ NB.out) (by simp [go_sem]; exact rfl) ?_
      refine pick_op (i := 8) (v := .slice a9 (ls ++ [(⟨vq, vcq, pm⟩ : Ky)]).length c9) (by kernel_rfl) rfl (by kernel_rfl) (by kernel_rfl) rfl rfl (fun w' _ => by simp [go_sem]) (hK9 _ _ NB.out) (by simp [go_sem]; exact rfl) ?_
      refine pick_end (by kernel_rfl) ?_
      clear hH9 hK9 hr9
      have SP := hid HH9.out.step
      have LV := hid (show s28.bad = false → sr.at_ + 2 ≤ s28.at_ by
        intro hb
        have b1 := stuck_false (stuck_all (ws := ws) g .expr) (s := s27) (by rw [Q28.out]; exact hb)
        have b2 := stuck_false (take_stuck (ws := ws) (l := gTo) (by decide)) (s := s26) (by rw [Q27.out]; exact b1)
        have b3 := stuck_false (name_stuck (ws := ws)) (s := s25) (by rw [Q26.out]; exact b2)
        have b4 := stuck_false (name_stuck (ws := ws)) (s := s24) (by rw [Q25.out]; exact b3)
        have b5 := name_live (ws := ws) (s := s23) (by rw [Q24.out]; exact b4)
        rw [Q24.out] at b5
        have b6 : s23.at_ = sr.at_ + 1 := by rw [← Q23.out]; rfl
        have b8 := name_live (ws := ws) (s := s24) (by rw [Q25.out]; exact b3)
        have b9 := name_live (ws := ws) (s := s25) (by rw [Q26.out]; exact b2)
        rw [Q25.out] at b8
        rw [Q26.out] at b9
        have b10 : s26.at_ ≤ s27.at_ := by rw [← Q27.out]; exact take_on
        have b7 := T28.out.1
        dsimp only at b5 b8 b9
        omega)
      have HH9 := hid (show Hy d ws ad cp s28 W X9 (.slice a9 (ls.length + 1) c9) (ls ++ [⟨vq, vcq, pm⟩]) from by have h := HH9.out; rwa [show (ls ++ [(⟨vq, vcq, pm⟩ : Ky)]).length = ls.length + 1 by simp] at h)
      have FL := hid (show ((ls ++ [(⟨vq, vcq, pm⟩ : Ky)]).map Ky.ns).flatten.length = (ls.map Ky.ns).flatten.length + pm.length by simp only [List.map_append, List.flatten_append, List.length_append, List.map_cons, List.map_nil, List.flatten_cons, List.flatten_nil, List.append_nil])
      have PL := hid (show pm.length = 1 + l28.length by rw [← HPM.out, put_len']; simp)
      go_wp2_with fail
      go_roundw
      case rel =>
        exact hid ⟨ls ++ [⟨vq, vcq, pm⟩], g, s28, HH9.out, by
          refine Eq.trans (Eq.symm ?_) HFr.out
          show opsLS ws (spz ws g) k (ls.map Ky.ns) sr = _
          refine (or_t Z22.out.1 Q23.out).trans ?_
          refine (bind_eq Q24.out).trans ?_
          refine (bind_eq Q25.out).trans ?_
          refine (bind_eq Q26.out).trans ?_
          refine (bind_take Q27.out).trans ?_
          refine (bind_eq Q28.out).trans ?_
          rw [List.map_append, ← HPM.out]
          rfl, (by have h1 := HM.out; have h2 := G.out; simp only [ms, lvN] at h1 ⊢; omega), (by have := HG.out; omega), (by have h1 := ON.out; have h2 := G.out; omega), (by have h1 := ON.out; have h2 := G.out; have h3 := T28.out; have h4 := GE.out; have h5 := FL.out; have h6 := PL.out; omega), (by have h1 := ON.out.2.2.2 HB0.out; have h2 := G.out; rw [List.length_append]; simp; omega), fun hb => (by have h1 := ON.out.2.2.2 HB0.out; have h2 := LV.out hb; have h3 := ON.out.1; rw [List.length_append]; simp; omega)⟩
      case measure =>
        show ws.length - posOf d _ < ws.length - posOf d _
        rw [pos_at SP.out.1, pos_at SP0.out.1]
        have h1 := G.out
        omega
    have hx21gBar : (u21.toList == ([124] : List UInt8)) = false := by simpa using hgBar21
    clear hgBar21
    have hgBar21 := hx21gBar
    clear hx21gBar
    have hz30 : seesS ws sr gBar = false := by unfold seesS; rw [HU21.out]; exact hgBar21
    have Z30 := hid hz30
    clear hz30
    go_wp2_with fail
    refine (takeK_calls sr ⟨#[101, 110, 100]⟩ kEnd (by kernel_rfl) (by decide) X21 SP.out.1).mono ?_
    rintro e X31 ⟨⟨x31, rfl⟩, hp31⟩
    have hg31 := take_goes (ws := ws) (l := kEnd) (by decide) SP.out.1.lt
    obtain ⟨s31, ht31⟩ : ∃ x, (takeS ws kEnd sr).2 = x := ⟨_, rfl⟩
    rw [ht31] at hp31 hg31
    have SP := hid (SP.out.step hp31)
    have HY := hid (HY.out.re H0.out hp31.2 SP.out)
    have G := hid (show sr.at_ + 0 ≤ s31.at_ ∧ s31.at_ ≤ ws.length by have h1 := G.out; omega)
    have Q31 := hid ht31
    clear hp31 hg31 ht31
    go_wp2_with fail
    refine (gput_calls (d := d) k 0 0 ⟨#[]⟩ ⟨#[]⟩ ⟨#[]⟩ X31 _ (kyL ls) (heap_lt SP.out.1.blk) (by rw [SP.out.1.eq]; exact heap_lt SP.out.1.blk) (ky_own HY.out.kids (heap_lt H0.out.blk) (by rw [H0.out.eq]; exact heap_lt H0.out.blk) HY.out.nodes) ⟨brief_e, brief_e, brief_e⟩ (by have h1 := ON.out.2.2.1; have h2 := SP.out.1.few; have h3 := SP0.out.1.lt; rw [kyL, List.length_map]; omega) (by have h1 := ON.out.2.1; have h2 := SP.out.1.few; have h3 := SP0.out.1.lt; rw [kyL_flat]; omega)).mono ?_
    rintro e X99 ⟨v99, rfl, hn99, hb99⟩
    have SP := hid (SP.out.below hb99)
    have N99 := hid hn99
    clear hn99 hb99
    go_wp2_with fail
    go_ret
    have hE : spz ws (f + 1) (.hand k) s = (putN (nd0 k) (ls.map Ky.ns), s31) := by
      show handS ws (spz ws f) k s = _
      refine (bind_eq Q1.out).trans ?_
      refine (bind_take Q2.out).trans ?_
      refine (bind_take Q3.out).trans ?_
      refine (bind_eq Q4.out).trans ?_
      refine (bind_take Q5.out).trans ?_
      refine (bind_eq Q6.out).trans ?_
      rw [show putN (nd1 25 n4) [l6] = pn from HPN.out]
      refine HF.out.trans ?_
      refine HFr.out.symm.trans ?_
      show opsLS ws (spz ws g) k (ls.map Ky.ns) sr = _
      refine (or_f Z30.out).trans ?_
      refine (bind_take Q31.out).trans ?_
      rfl
    rw [hE]
    refine ⟨v99, rfl, ?_, SP.out⟩
    have e9 : putN (nd0 k) (ls.map Ky.ns) = (⟨k, 0, ⟨#[]⟩, ⟨#[]⟩, ⟨#[]⟩, ((kyL ls).length : Int)⟩ : Nd) :: flatL (kyL ls) := by
      unfold putN Nd.with_
      rw [kyL_flat, kyL, List.length_map, List.length_map]
      rfl
    rw [e9]
    exact N99.out

end
end Go.Proofs.YtkdipppeljpgmaaGreatDoor
