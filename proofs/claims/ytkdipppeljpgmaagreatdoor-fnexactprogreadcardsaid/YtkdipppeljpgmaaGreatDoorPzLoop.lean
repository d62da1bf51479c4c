/- The specification's parser: sums, products, calls: its loops. -/
import Derived.Test.YtkdipppeljpgmaaGreatDoorPzExpr
import Derived.LoopTactic
namespace Go.Proofs.YtkdipppeljpgmaaGreatDoor
open Go.RowKit Go.Deep

/-- Where the parser is, read out of memory. -/
def posOf (d : Dr) (w : World) : Nat := match w.cell? ⟨d.B, 1, none⟩ with
  | some v => (intOf v).toNat
  | none => 0

section
variable {d : Dr} {ws : List Wd} {ad : Option Addr} {cp : Nat}

theorem pos_at {s : Ps} {W : World} (h : PsAt d ws ad cp s W) : posOf d W = s.at_ := by
  have q := cell_of_heap h.blk 1
  simp at q
  unfold posOf
  rw [q]
  simp [intOf]

theorem put_len2 (n : Nd) (a b : List Nd) : (putN n [a, b]).length = 1 + a.length + b.length := by
  rw [put_len']
  simp
  omega

/-- What holds of a loop that reads on. -/
def LoopI (d : Dr) (ws : List Wd) (ad : Option Addr) (cp : Nat) (f : Nat) (nt : List Nd → Nt (List Nd)) (F : List Nd × Ps) (s : Ps) (W : World) (v : Value) (wr : World) : Prop :=
  ∃ (acc : List Nd) (g : Nat) (sr : Ps), NodesD d wr v acc ∧ StepP d ws ad cp sr W wr ∧ spz ws g (nt acc) sr = F ∧ ms ws (nt acc) sr ≤ g ∧ g ≤ f ∧ s.at_ ≤ sr.at_ ∧ acc.length ≤ 3 * (sr.at_ - s.at_)

set_option maxHeartbeats 8000000 in
set_option maxRecDepth 100000 in
theorem pprod_calls (hw : BriefW ws) {f : Nat} (ha : ∀ g, g ≤ f → PcAll d ws ad cp g) (s : Ps) (W : World) (h : PsAt d ws ad cp s W) (hm : ms ws .prod s ≤ f + 1) :
    Calls Tryz.prog 102 #[.pointer (some ⟨d.B, 0, none⟩)] W (PostN d ws ad cp (spz ws (f + 1) .prod s) W) := by
  have SP := hid (StepP.start h)
  have HC := hid (ha f (Nat.le_refl _))
  have HA := hid ha
  have HM := hid hm
  have BW := hid hw
  have G := hid (show s.at_ + 0 ≤ s.at_ ∧ s.at_ ≤ ws.length from ⟨Nat.le_refl _, h.lt⟩)
  clear h ha hm hw
  go_enter Tryz.func102, Tryz.ntmps102
  go_wp2_with fail
  refine (HC.out.call s W SP.out.1 (by have h1 := G.out; have h2 := HM.out; simp only [ms, lvN] at h2 ⊢; omega)).mono ?_
  rintro e X1 ⟨v1, rfl, hn1, hp1⟩
  have hg1 := goes_at (ws := ws) BW.out f .call trivial SP.out.1.lt
  obtain ⟨l1, s1, ht1⟩ : ∃ a b, spz ws f .call s = (a, b) := ⟨_, _, rfl⟩
  rw [ht1] at hp1 hg1 hn1
  dsimp only at hp1 hn1
  obtain ⟨va1, vc1, rfl⟩ := hn1.is
  have SP := hid (SP.out.step hp1)
  have N1 := hid hn1
  have G := hid (show s.at_ + 0 ≤ s1.at_ ∧ s1.at_ ≤ ws.length by have h1 := G.out; have h2 := hg1.on; have h3 := hg1.lt; dsimp only at h2 h3; omega)
  have L1 := hid (show l1.length ≤ 20000 by have h2 := hg1.len; have h3 := hg1.lt; have h4 := SP.out.1.few; dsimp only [accN] at h2 h3; omega)
  have T1 := hid (show s.at_ ≤ s1.at_ ∧ l1.length ≤ 3 * (s1.at_ - s.at_) by have h1 := hg1.on; have h2 := hg1.len; dsimp only [accN] at h1 h2; omega)
  have Q1 := hid ht1
  clear hp1 hg1 ht1 hn1
  go_wp2_with fail
  obtain ⟨F, hF⟩ : ∃ x, spz ws f (Nt.prodL l1) s1 = x := ⟨_, rfl⟩
  have HF := hid hF
  clear hF
  go_loopw [3] (fun v wr => Hid (LoopI d ws ad cp f Nt.prodL F s W v wr)) (fun _ wr => ws.length - posOf d wr)
  case atStart =>
    exact hid ⟨l1, f, s1, N1.out, SP.out, HF.out, (by have h1 := HM.out; have h2 := T1.out.1; simp only [ms, lvN] at h1 ⊢; omega), Nat.le_refl _, T1.out.1, T1.out.2⟩
  case round =>
    obtain ⟨acc, g, sr, hN, hSP, hFr, hmr, hgr, hon, hlen⟩ := hrel.out
    clear hrel
    obtain ⟨va, vc, rfl⟩ := hN.is
    obtain ⟨g, rfl⟩ : ∃ k, g = k + 1 := ⟨g - 1, by simp only [ms, lvN] at hmr; omega⟩
    have SP := hid hSP
    have SP0 := hid hSP
    have NA := hid hN
    have HFr := hid hFr
    have HM := hid hmr
    have HG := hid hgr
    have HC := hid (HA.out g (by omega))
    have ON := hid (And.intro hon hlen)
    have G := hid (show sr.at_ + 0 ≤ sr.at_ ∧ sr.at_ ≤ ws.length from ⟨Nat.le_refl _, hSP.1.lt⟩)
    have LA := hid (show acc.length ≤ 20000 by have h1 := hSP.1.few; have h2 := hSP.1.lt; omega)
    clear hN hSP hFr hmr hgr hon hlen
    go_wp2_with fail
    refine (text_calls sr wr SP.out.1).mono ?_
    rintro e X21 ⟨rfl, hb21⟩
    have SP := hid (SP.out.below hb21)
    have NA := hid (NA.out.grew (Grew.of_below hb21))
    obtain ⟨u21, hu21⟩ : ∃ u, txt ws sr = u := ⟨_, rfl⟩
    rw [hu21]
    have HU21 := hid hu21
    clear hb21 hu21
    by_cases hgStar21 : (u21.toList == ([42] : List UInt8)) = true
    · have hz22 : seesS ws sr gStar = true := by unfold seesS; rw [HU21.out]; exact hgStar21
      have hl22 := sees_lt (by decide) hz22
      have Z22 := hid (And.intro hz22 hl22)
      clear hz22 hl22
      have q1 := cell_of_heap SP.out.1.blk 1
      have z1 := frozen_of_heap SP.out.1.blk 1
      simp at q1
      have HWr := hid SP.out.wrap
      have hn23 := SP.out.next Z22.out.2
      obtain ⟨s23, hs23⟩ : ∃ x, sr.next = x := ⟨_, rfl⟩
      have hc23 : s23.at_ = sr.at_ + 1 := by rw [← hs23]; rfl
      rw [hs23] at hn23
      have GR23 := hid (grew_set (d := d) X21 1 (.int .i64 ((sr.at_ + 1 : Nat) : Int)))
      obtain ⟨X23, hX23⟩ : ∃ Y, X21.setCell ⟨d.B, 1, none⟩ (.int .i64 ((sr.at_ + 1 : Nat) : Int)) = Y := ⟨_, rfl⟩
      rw [hX23] at hn23 GR23
      have HX23 := hid hX23
      have NA := hid (NA.out.grew GR23.out)
      have G := hid (show sr.at_ + 1 ≤ s23.at_ ∧ s23.at_ ≤ ws.length by have h1 := G.out; have h2 := Z22.out.2; omega)
      have SPn := hid hn23
      have Q23 := hid hs23
      clear hn23 hs23 hc23 hX23 GR23
      go_wp2_with fail
      rw [HWr.out, HX23.out]
      have SP := SPn
      clear SPn HWr q1 z1 HX23
      have G1 := G
      refine (HC.out.call s23 X23 SP.out.1 (by have h1 := G.out; have h2 := HM.out; simp only [ms, lvN] at h2 ⊢; omega)).mono ?_
      rintro e X24 ⟨v24, rfl, hn24, hp24⟩
      have hg24 := goes_at (ws := ws) BW.out g .call trivial SP.out.1.lt
      obtain ⟨l24, s24, ht24⟩ : ∃ a b, spz ws g .call s23 = (a, b) := ⟨_, _, rfl⟩
      rw [ht24] at hp24 hg24 hn24
      dsimp only at hp24 hn24
      obtain ⟨va24, vc24, rfl⟩ := hn24.is
      have SP := hid (SP.out.step hp24)
      have NA := hid (NA.out.grew hp24.2)
      have N24 := hid hn24
      have G := hid (show sr.at_ + 1 ≤ s24.at_ ∧ s24.at_ ≤ ws.length by have h1 := G.out; have h2 := hg24.on; have h3 := hg24.lt; dsimp only at h2 h3; omega)
      have L24 := hid (show l24.length ≤ 20000 by have h2 := hg24.len; have h3 := hg24.lt; have h4 := SP.out.1.few; dsimp only [accN] at h2 h3; omega)
      have T24 := hid (show s23.at_ ≤ s24.at_ ∧ l24.length ≤ 3 * (s24.at_ - s23.at_) by have h1 := hg24.on; have h2 := hg24.len; dsimp only [accN] at h1 h2; omega)
      have Q24 := hid ht24
      clear hp24 hg24 ht24 hn24
      go_wp2_with fail
      refine (put2_calls SP.out.1 13 0 0 ⟨#[]⟩ ⟨#[]⟩ ⟨#[]⟩ NA.out N24.out ⟨brief_e, brief_e, brief_e⟩ ⟨LA.out, L24.out⟩).mono ?_
      rintro e X25 ⟨v25, rfl, hn25, hb25⟩
      have SP := hid (SP.out.below hb25)
      have N25 := hid hn25
      clear hb25 hn25
      go_wp2_with fail
      go_roundw
      case rel =>
        exact hid ⟨putN ⟨13, 0, ⟨#[]⟩, ⟨#[]⟩, ⟨#[]⟩, 0⟩ [acc, l24], g, s24, N25.out, SP.out, by
          refine Eq.trans (Eq.symm ?_) HFr.out
          show prodLS ws (spz ws g) acc sr = _
          refine (or_t Z22.out.1 Q23.out).trans ?_
          refine (bind_eq Q24.out).trans ?_
          rfl, (by have h1 := HM.out; have h2 := G.out; simp only [ms, lvN] at h1 ⊢; omega), (by have := HG.out; omega), (by have h1 := ON.out; have h2 := G.out; omega), (by have h1 := ON.out; have h2 := G1.out; have h3 := T24.out; rw [put_len2]; omega)⟩
      case measure =>
        show ws.length - posOf d _ < ws.length - posOf d _
        rw [pos_at SP.out.1, pos_at SP0.out.1]
        have h1 := G.out
        omega
    have hx21gStar : (u21.toList == ([42] : List UInt8)) = false := by simpa using hgStar21
    clear hgStar21
    have hgStar21 := hx21gStar
    clear hx21gStar
    have hz26 : seesS ws sr gStar = false := by unfold seesS; rw [HU21.out]; exact hgStar21
    have Z26 := hid hz26
    clear hz26
    go_wp2_with fail
    go_ret
    have hE : spz ws (f + 1) .prod s = (acc, sr) := by
      show prodS (spz ws f) s = _
      refine (bind_eq Q1.out).trans ?_
      refine HF.out.trans ?_
      refine HFr.out.symm.trans ?_
      show prodLS ws (spz ws g) acc sr = _
      refine (or_f Z26.out).trans ?_
      rfl
    rw [hE]
    exact ⟨_, rfl, NA.out, SP.out⟩

set_option maxHeartbeats 8000000 in
set_option maxRecDepth 100000 in
theorem psum_calls (hw : BriefW ws) {f : Nat} (ha : ∀ g, g ≤ f → PcAll d ws ad cp g) (s : Ps) (W : World) (h : PsAt d ws ad cp s W) (hm : ms ws .sum s ≤ f + 1) :
    Calls Tryz.prog 85 #[.pointer (some ⟨d.B, 0, none⟩)] W (PostN d ws ad cp (spz ws (f + 1) .sum s) W) := by
  have SP := hid (StepP.start h)
  have HC := hid (ha f (Nat.le_refl _))
  have HA := hid ha
  have HM := hid hm
  have BW := hid hw
  have G := hid (show s.at_ + 0 ≤ s.at_ ∧ s.at_ ≤ ws.length from ⟨Nat.le_refl _, h.lt⟩)
  clear h ha hm hw
  go_enter Tryz.func85, Tryz.ntmps85
  go_wp2_with fail
  refine (HC.out.prod s W SP.out.1 (by have h1 := G.out; have h2 := HM.out; simp only [ms, lvN] at h2 ⊢; omega)).mono ?_
  rintro e X1 ⟨v1, rfl, hn1, hp1⟩
  have hg1 := goes_at (ws := ws) BW.out f .prod trivial SP.out.1.lt
  obtain ⟨l1, s1, ht1⟩ : ∃ a b, spz ws f .prod s = (a, b) := ⟨_, _, rfl⟩
  rw [ht1] at hp1 hg1 hn1
  dsimp only at hp1 hn1
  obtain ⟨va1, vc1, rfl⟩ := hn1.is
  have SP := hid (SP.out.step hp1)
  have N1 := hid hn1
  have G := hid (show s.at_ + 0 ≤ s1.at_ ∧ s1.at_ ≤ ws.length by have h1 := G.out; have h2 := hg1.on; have h3 := hg1.lt; dsimp only at h2 h3; omega)
  have L1 := hid (show l1.length ≤ 20000 by have h2 := hg1.len; have h3 := hg1.lt; have h4 := SP.out.1.few; dsimp only [accN] at h2 h3; omega)
  have T1 := hid (show s.at_ ≤ s1.at_ ∧ l1.length ≤ 3 * (s1.at_ - s.at_) by have h1 := hg1.on; have h2 := hg1.len; dsimp only [accN] at h1 h2; omega)
  have Q1 := hid ht1
  clear hp1 hg1 ht1 hn1
  go_wp2_with fail
  obtain ⟨F, hF⟩ : ∃ x, spz ws f (Nt.sumL l1) s1 = x := ⟨_, rfl⟩
  have HF := hid hF
  clear hF
  go_loopw [3] (fun v wr => Hid (LoopI d ws ad cp f Nt.sumL F s W v wr)) (fun _ wr => ws.length - posOf d wr)
  case atStart =>
    exact hid ⟨l1, f, s1, N1.out, SP.out, HF.out, (by have h1 := HM.out; have h2 := T1.out.1; simp only [ms, lvN] at h1 ⊢; omega), Nat.le_refl _, T1.out.1, T1.out.2⟩
  case round =>
    obtain ⟨acc, g, sr, hN, hSP, hFr, hmr, hgr, hon, hlen⟩ := hrel.out
    clear hrel
    obtain ⟨va, vc, rfl⟩ := hN.is
    obtain ⟨g, rfl⟩ : ∃ k, g = k + 1 := ⟨g - 1, by simp only [ms, lvN] at hmr; omega⟩
    have SP := hid hSP
    have SP0 := hid hSP
    have NA := hid hN
    have HFr := hid hFr
    have HM := hid hmr
    have HG := hid hgr
    have HC := hid (HA.out g (by omega))
    have ON := hid (And.intro hon hlen)
    have G := hid (show sr.at_ + 0 ≤ sr.at_ ∧ sr.at_ ≤ ws.length from ⟨Nat.le_refl _, hSP.1.lt⟩)
    have LA := hid (show acc.length ≤ 20000 by have h1 := hSP.1.few; have h2 := hSP.1.lt; omega)
    clear hN hSP hFr hmr hgr hon hlen
    go_wp2_with fail
    refine (text_calls sr wr SP.out.1).mono ?_
    rintro e X21 ⟨rfl, hb21⟩
    have SP := hid (SP.out.below hb21)
    have NA := hid (NA.out.grew (Grew.of_below hb21))
    obtain ⟨u21, hu21⟩ : ∃ u, txt ws sr = u := ⟨_, rfl⟩
    rw [hu21]
    have HU21 := hid hu21
    clear hb21 hu21
    by_cases hgPlus21 : (u21.toList == ([43] : List UInt8)) = true
    · have hz22 : seesS ws sr gPlus = true := by unfold seesS; rw [HU21.out]; exact hgPlus21
      have hl22 := sees_lt (by decide) hz22
      have Z22 := hid (And.intro hz22 hl22)
      clear hz22 hl22
      have hnm : (u21.toList == ([45] : List UInt8)) = false := by rw [eq_of_beq hgPlus21]; rfl
      go_wp2_with fail
      refine (text_calls sr X21 SP.out.1).mono ?_
      rintro e X23 ⟨rfl, hb23⟩
      have SP := hid (SP.out.below hb23)
      have NA := hid (NA.out.grew (Grew.of_below hb23))
      rw [HU21.out]
      clear hb23
      have q1 := cell_of_heap SP.out.1.blk 1
      have z1 := frozen_of_heap SP.out.1.blk 1
      simp at q1
      have HWr := hid SP.out.wrap
      have hn24 := SP.out.next Z22.out.2
      obtain ⟨s24, hs24⟩ : ∃ x, sr.next = x := ⟨_, rfl⟩
      have hc24 : s24.at_ = sr.at_ + 1 := by rw [← hs24]; rfl
      rw [hs24] at hn24
      have GR24 := hid (grew_set (d := d) X23 1 (.int .i64 ((sr.at_ + 1 : Nat) : Int)))
      obtain ⟨X24, hX24⟩ : ∃ Y, X23.setCell ⟨d.B, 1, none⟩ (.int .i64 ((sr.at_ + 1 : Nat) : Int)) = Y := ⟨_, rfl⟩
      rw [hX24] at hn24 GR24
      have HX24 := hid hX24
      have NA := hid (NA.out.grew GR24.out)
      have G := hid (show sr.at_ + 1 ≤ s24.at_ ∧ s24.at_ ≤ ws.length by have h1 := G.out; have h2 := Z22.out.2; omega)
      have SPn := hid hn24
      have Q24 := hid hs24
      clear hn24 hs24 hc24 hX24 GR24
      go_wp2_with fail
      rw [HWr.out, HX24.out]
      have SP := SPn
      clear SPn HWr q1 z1 HX24
      have G1 := G
      refine (HC.out.prod s24 X24 SP.out.1 (by have h1 := G.out; have h2 := HM.out; simp only [ms, lvN] at h2 ⊢; omega)).mono ?_
      rintro e X25 ⟨v25, rfl, hn25, hp25⟩
      have hg25 := goes_at (ws := ws) BW.out g .prod trivial SP.out.1.lt
      obtain ⟨l25, s25, ht25⟩ : ∃ a b, spz ws g .prod s24 = (a, b) := ⟨_, _, rfl⟩
      rw [ht25] at hp25 hg25 hn25
      dsimp only at hp25 hn25
      obtain ⟨va25, vc25, rfl⟩ := hn25.is
      have SP := hid (SP.out.step hp25)
      have NA := hid (NA.out.grew hp25.2)
      have N25 := hid hn25
      have G := hid (show sr.at_ + 1 ≤ s25.at_ ∧ s25.at_ ≤ ws.length by have h1 := G.out; have h2 := hg25.on; have h3 := hg25.lt; dsimp only at h2 h3; omega)
      have L25 := hid (show l25.length ≤ 20000 by have h2 := hg25.len; have h3 := hg25.lt; have h4 := SP.out.1.few; dsimp only [accN] at h2 h3; omega)
      have T25 := hid (show s24.at_ ≤ s25.at_ ∧ l25.length ≤ 3 * (s25.at_ - s24.at_) by have h1 := hg25.on; have h2 := hg25.len; dsimp only [accN] at h1 h2; omega)
      have Q25 := hid ht25
      clear hp25 hg25 ht25 hn25
      go_wp2_with fail
      refine (put2_calls SP.out.1 11 0 0 ⟨#[]⟩ ⟨#[]⟩ ⟨#[]⟩ NA.out N25.out ⟨brief_e, brief_e, brief_e⟩ ⟨LA.out, L25.out⟩).mono ?_
      rintro e X26 ⟨v26, rfl, hn26, hb26⟩
      have SP := hid (SP.out.below hb26)
      have N26 := hid hn26
      clear hb26 hn26
      go_wp2_with fail
      go_roundw
      case rel =>
        exact hid ⟨putN ⟨11, 0, ⟨#[]⟩, ⟨#[]⟩, ⟨#[]⟩, 0⟩ [acc, l25], g, s25, N26.out, SP.out, by
          refine Eq.trans (Eq.symm ?_) HFr.out
          show sumLS ws (spz ws g) acc sr = _
          refine (or_t Z22.out.1 Q24.out).trans ?_
          refine (bind_eq Q25.out).trans ?_
          rfl, (by have h1 := HM.out; have h2 := G.out; simp only [ms, lvN] at h1 ⊢; omega), (by have := HG.out; omega), (by have h1 := ON.out; have h2 := G.out; omega), (by have h1 := ON.out; have h2 := G1.out; have h3 := T25.out; rw [put_len2]; omega)⟩
      case measure =>
        show ws.length - posOf d _ < ws.length - posOf d _
        rw [pos_at SP.out.1, pos_at SP0.out.1]
        have h1 := G.out
        omega
    have hx21gPlus : (u21.toList == ([43] : List UInt8)) = false := by simpa using hgPlus21
    clear hgPlus21
    have hgPlus21 := hx21gPlus
    clear hx21gPlus
    have hz27 : seesS ws sr gPlus = false := by unfold seesS; rw [HU21.out]; exact hgPlus21
    have Z27 := hid hz27
    clear hz27
    go_wp2_with fail
    refine (text_calls sr X21 SP.out.1).mono ?_
    rintro e X28 ⟨rfl, hb28⟩
    have SP := hid (SP.out.below hb28)
    have NA := hid (NA.out.grew (Grew.of_below hb28))
    rw [HU21.out]
    clear hb28
    by_cases hgMinus21 : (u21.toList == ([45] : List UInt8)) = true
    · have hz29 : seesS ws sr gMinus = true := by unfold seesS; rw [HU21.out]; exact hgMinus21
      have hl29 := sees_lt (by decide) hz29
      have Z29 := hid (And.intro hz29 hl29)
      clear hz29 hl29
      go_wp2_with fail
      refine (text_calls sr X28 SP.out.1).mono ?_
      rintro e X30 ⟨rfl, hb30⟩
      have SP := hid (SP.out.below hb30)
      have NA := hid (NA.out.grew (Grew.of_below hb30))
      rw [HU21.out]
      clear hb30
      have q1 := cell_of_heap SP.out.1.blk 1
      have z1 := frozen_of_heap SP.out.1.blk 1
      simp at q1
      have HWr := hid SP.out.wrap
      have hn31 := SP.out.next Z29.out.2
      obtain ⟨s31, hs31⟩ : ∃ x, sr.next = x := ⟨_, rfl⟩
      have hc31 : s31.at_ = sr.at_ + 1 := by rw [← hs31]; rfl
      rw [hs31] at hn31
      have GR31 := hid (grew_set (d := d) X30 1 (.int .i64 ((sr.at_ + 1 : Nat) : Int)))
      obtain ⟨X31, hX31⟩ : ∃ Y, X30.setCell ⟨d.B, 1, none⟩ (.int .i64 ((sr.at_ + 1 : Nat) : Int)) = Y := ⟨_, rfl⟩
      rw [hX31] at hn31 GR31
      have HX31 := hid hX31
      have NA := hid (NA.out.grew GR31.out)
      have G := hid (show sr.at_ + 1 ≤ s31.at_ ∧ s31.at_ ≤ ws.length by have h1 := G.out; have h2 := Z29.out.2; omega)
      have SPn := hid hn31
      have Q31 := hid hs31
      clear hn31 hs31 hc31 hX31 GR31
      go_wp2_with fail
      rw [HWr.out, HX31.out]
      have SP := SPn
      clear SPn HWr q1 z1 HX31
      have G1 := G
      refine (HC.out.prod s31 X31 SP.out.1 (by have h1 := G.out; have h2 := HM.out; simp only [ms, lvN] at h2 ⊢; omega)).mono ?_
      rintro e X32 ⟨v32, rfl, hn32, hp32⟩
      have hg32 := goes_at (ws := ws) BW.out g .prod trivial SP.out.1.lt
      obtain ⟨l32, s32, ht32⟩ : ∃ a b, spz ws g .prod s31 = (a, b) := ⟨_, _, rfl⟩
      rw [ht32] at hp32 hg32 hn32
      dsimp only at hp32 hn32
      obtain ⟨va32, vc32, rfl⟩ := hn32.is
      have SP := hid (SP.out.step hp32)
      have NA := hid (NA.out.grew hp32.2)
      have N32 := hid hn32
      have G := hid (show sr.at_ + 1 ≤ s32.at_ ∧ s32.at_ ≤ ws.length by have h1 := G.out; have h2 := hg32.on; have h3 := hg32.lt; dsimp only at h2 h3; omega)
      have L32 := hid (show l32.length ≤ 20000 by have h2 := hg32.len; have h3 := hg32.lt; have h4 := SP.out.1.few; dsimp only [accN] at h2 h3; omega)
      have T32 := hid (show s31.at_ ≤ s32.at_ ∧ l32.length ≤ 3 * (s32.at_ - s31.at_) by have h1 := hg32.on; have h2 := hg32.len; dsimp only [accN] at h1 h2; omega)
      have Q32 := hid ht32
      clear hp32 hg32 ht32 hn32
      go_wp2_with fail
      refine (put2_calls SP.out.1 12 0 0 ⟨#[]⟩ ⟨#[]⟩ ⟨#[]⟩ NA.out N32.out ⟨brief_e, brief_e, brief_e⟩ ⟨LA.out, L32.out⟩).mono ?_
      rintro e X33 ⟨v33, rfl, hn33, hb33⟩
      have SP := hid (SP.out.below hb33)
      have N33 := hid hn33
      clear hb33 hn33
      go_wp2_with fail
      go_roundw
      case rel =>
        exact hid ⟨putN ⟨12, 0, ⟨#[]⟩, ⟨#[]⟩, ⟨#[]⟩, 0⟩ [acc, l32], g, s32, N33.out, SP.out, by
          refine Eq.trans (Eq.symm ?_) HFr.out
          show sumLS ws (spz ws g) acc sr = _
          refine (or_f Z27.out).trans ?_
          refine (or_t Z29.out.1 Q31.out).trans ?_
          refine (bind_eq Q32.out).trans ?_
          rfl, (by have h1 := HM.out; have h2 := G.out; simp only [ms, lvN] at h1 ⊢; omega), (by have := HG.out; omega), (by have h1 := ON.out; have h2 := G.out; omega), (by have h1 := ON.out; have h2 := G1.out; have h3 := T32.out; rw [put_len2]; omega)⟩
      case measure =>
        show ws.length - posOf d _ < ws.length - posOf d _
        rw [pos_at SP.out.1, pos_at SP0.out.1]
        have h1 := G.out
        omega
    have hx21gMinus : (u21.toList == ([45] : List UInt8)) = false := by simpa using hgMinus21
    clear hgMinus21
    have hgMinus21 := hx21gMinus
    clear hx21gMinus
    have hz34 : seesS ws sr gMinus = false := by unfold seesS; rw [HU21.out]; exact hgMinus21
    have Z34 := hid hz34
    clear hz34
    go_wp2_with fail
    go_ret
    have hE : spz ws (f + 1) .sum s = (acc, sr) := by
      show sumS (spz ws f) s = _
      refine (bind_eq Q1.out).trans ?_
      refine HF.out.trans ?_
      refine HFr.out.symm.trans ?_
      show sumLS ws (spz ws g) acc sr = _
      refine (or_f Z27.out).trans ?_
      refine (or_f Z34.out).trans ?_
      rfl
    rw [hE]
    exact ⟨_, rfl, NA.out, SP.out⟩

end
end Go.Proofs.YtkdipppeljpgmaaGreatDoor
