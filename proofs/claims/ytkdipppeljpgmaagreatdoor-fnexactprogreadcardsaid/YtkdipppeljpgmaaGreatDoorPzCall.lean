/- The specification's parser: calls. -/
import Derived.Test.YtkdipppeljpgmaaGreatDoorPzLoop
namespace Go.Proofs.YtkdipppeljpgmaaGreatDoor
open Go.RowKit Go.Deep

section
variable {d : Dr} {ws : List Wd} {ad : Option Addr} {cp : Nat}

theorem callL_t {go : Nt (List Nd) → PS (List Nd)} {a : List Nd} {s : Ps} (h : startsS ws s = true) : callLS ws go a s = bindS (go .atom) (fun b => go (.callL (putN (nd0 7) [a, b]))) s := by
  unfold callLS
  rw [h]
  rfl

theorem callL_f {go : Nt (List Nd) → PS (List Nd)} {a : List Nd} {s : Ps} (h : startsS ws s = false) : callLS ws go a s = (a, s) := by
  unfold callLS
  rw [h]
  rfl

theorem atom_goes (hw : BriefW ws) {f : Nat} (hf : 0 < f) {s : Ps} (hs : s.at_ ≤ ws.length) (hst : startsS ws s = true) : s.at_ + 1 ≤ (spz ws f .atom s).2.at_ ∧ (spz ws f .atom s).1.length + 1 ≤ 3 * ((spz ws f .atom s).2.at_ - s.at_) := by
  obtain ⟨k, rfl⟩ : ∃ k, f = k + 1 := ⟨f - 1, by omega⟩
  obtain ⟨c, h1, h2, h3, h4⟩ := atom_m hw (part_m hw k) s hs
  have h5 := h4 hst
  have h6 := h3.1
  show s.at_ + 1 ≤ (atomS ws (spz ws k) s).2.at_ ∧ (atomS ws (spz ws k) s).1.length + 1 ≤ 3 * ((atomS ws (spz ws k) s).2.at_ - s.at_)
  omega

theorem put_len1 (n : Nd) (a : List Nd) : (putN n [a]).length = 1 + a.length := by
  rw [put_len']
  simp

set_option maxHeartbeats 8000000 in
set_option maxRecDepth 100000 in
theorem pcall_calls (hw : BriefW ws) {f : Nat} (ha : ∀ g, g ≤ f → PcAll d ws ad cp g) (s : Ps) (W : World) (h : PsAt d ws ad cp s W) (hm : ms ws .call s ≤ f + 1) :
    Calls Tryz.prog 111 #[.pointer (some ⟨d.B, 0, none⟩)] W (PostN d ws ad cp (spz ws (f + 1) .call s) W) := by
  have SP := hid (StepP.start h)
  have HC := hid (ha f (Nat.le_refl _))
  have HA := hid ha
  have HM := hid hm
  have BW := hid hw
  have G := hid (show s.at_ + 0 ≤ s.at_ ∧ s.at_ ≤ ws.length from ⟨Nat.le_refl _, h.lt⟩)
  clear h ha hm hw
  go_enter Tryz.func111, Tryz.ntmps111
  go_wp2_with fail
  refine (text_calls s W SP.out.1).mono ?_
  rintro e X1 ⟨rfl, hb1⟩
  have SP := hid (SP.out.below hb1)
  obtain ⟨u1, hu1⟩ : ∃ u, txt ws s = u := ⟨_, rfl⟩
  rw [hu1]
  have HU1 := hid hu1
  clear hb1 hu1
  by_cases hkFst1 : (u1.toList == ([102, 115, 116] : List UInt8)) = true
  · have hz2 : seesS ws s kFst = true := by unfold seesS; rw [HU1.out]; exact hkFst1
    have hl2 := sees_lt (by decide) hz2
    have Z2 := hid (And.intro hz2 hl2)
    clear hz2 hl2
    have q1 := cell_of_heap SP.out.1.blk 1
    have z1 := frozen_of_heap SP.out.1.blk 1
    simp at q1
    have HWr := hid SP.out.wrap
    have hn3 := SP.out.next Z2.out.2
    obtain ⟨s3, hs3⟩ : ∃ x, s.next = x := ⟨_, rfl⟩
    have hc3 : s3.at_ = s.at_ + 1 := by rw [← hs3]; rfl
    rw [hs3] at hn3
    have GR3 := hid (grew_set (d := d) X1 1 (.int .i64 ((s.at_ + 1 : Nat) : Int)))
    obtain ⟨X3, hX3⟩ : ∃ Y, X1.setCell ⟨d.B, 1, none⟩ (.int .i64 ((s.at_ + 1 : Nat) : Int)) = Y := ⟨_, rfl⟩
    rw [hX3] at hn3 GR3
    have HX3 := hid hX3
    have G := hid (show s.at_ + 1 ≤ s3.at_ ∧ s3.at_ ≤ ws.length by have h1 := G.out; have h2 := Z2.out.2; omega)
    have SPn := hid hn3
    have Q3 := hid hs3
    clear hn3 hs3 hc3 hX3 GR3
    go_wp2_with fail
    rw [HWr.out, HX3.out]
    have SP := SPn
    clear SPn HWr q1 z1 HX3
    have G1 := G
    refine (HC.out.atom s3 X3 SP.out.1 (by have h1 := G.out; have h2 := HM.out; simp only [ms, lvN] at h2 ⊢; omega)).mono ?_
    rintro e X4 ⟨v4, rfl, hn4, hp4⟩
    have hg4 := goes_at (ws := ws) BW.out f .atom trivial SP.out.1.lt
    obtain ⟨l4, s4, ht4⟩ : ∃ a b, spz ws f .atom s3 = (a, b) := ⟨_, _, rfl⟩
    rw [ht4] at hp4 hg4 hn4
    dsimp only at hp4 hn4
    obtain ⟨va4, vc4, rfl⟩ := hn4.is
    have SP := hid (SP.out.step hp4)
    have N4 := hid hn4
    have G := hid (show s.at_ + 1 ≤ s4.at_ ∧ s4.at_ ≤ ws.length by have h1 := G.out; have h2 := hg4.on; have h3 := hg4.lt; dsimp only at h2 h3; omega)
    have L4 := hid (show l4.length ≤ 20000 by have h2 := hg4.len; have h3 := hg4.lt; have h4 := SP.out.1.few; dsimp only [accN] at h2 h3; omega)
    have T4 := hid (show s3.at_ ≤ s4.at_ ∧ l4.length ≤ 3 * (s4.at_ - s3.at_) by have h1 := hg4.on; have h2 := hg4.len; dsimp only [accN] at h1 h2; omega)
    have Q4 := hid ht4
    clear hp4 hg4 ht4 hn4
    go_wp2_with fail
    refine (put1_calls SP.out.1 17 0 0 ⟨#[]⟩ ⟨#[]⟩ ⟨#[]⟩ N4.out ⟨brief_e, brief_e, brief_e⟩ (by have h1 := L4.out; omega)).mono ?_
    rintro e X5 ⟨v5, rfl, hn5, hb5⟩
    have SP := hid (SP.out.below hb5)
    have N5 := hid hn5
    clear hb5 hn5
    go_wp2_with fail
    have HH := hid (show headS ws (spz ws f) s = (putN ⟨17, 0, ⟨#[]⟩, ⟨#[]⟩, ⟨#[]⟩, 0⟩ [l4], s4) by
      refine (or_t Z2.out.1 Q3.out).trans ?_
      refine (bind_eq Q4.out).trans ?_
      rfl)
    have NH := N5
    have LH := hid (show s.at_ ≤ s4.at_ ∧ (putN ⟨17, 0, ⟨#[]⟩, ⟨#[]⟩, ⟨#[]⟩, 0⟩ [l4]).length ≤ 3 * (s4.at_ - s.at_) by have h1 := G1.out; have h2 := T4.out; rw [put_len1]; omega)
    obtain ⟨lh, hlh⟩ : ∃ x, putN ⟨17, 0, ⟨#[]⟩, ⟨#[]⟩, ⟨#[]⟩, 0⟩ [l4] = x := ⟨_, rfl⟩
    rw [hlh] at HH NH LH
    have HV := hid hlh
    clear hlh
    obtain ⟨F, hF⟩ : ∃ x, spz ws f (Nt.callL lh) s4 = x := ⟨_, rfl⟩
    have HF := hid hF
    clear hF
    go_loopw [3] (fun v wr => Hid (LoopI d ws ad cp f Nt.callL F s W v wr)) (fun _ wr => ws.length - posOf d wr)
    case atStart =>
      exact hid ⟨lh, f, s4, NH.out, SP.out, HF.out, (by have h1 := HM.out; have h2 := LH.out.1; simp only [ms, lvN] at h1 ⊢; omega), Nat.le_refl _, LH.out.1, LH.out.2⟩
    case round =>
      obtain ⟨acc, g, sr, hN, hSP, hFr, hmr, hgr, hon, hlen⟩ := hrel.out
      clear hrel
      obtain ⟨va, vc, rfl⟩ := hN.is
      obtain ⟨g, rfl⟩ : ∃ k, g = k + 1 := ⟨g - 1, by simp only [ms, lvN] at hmr; omega⟩
      have SP := hid hSP
      have SP0 := hid hSP
      have NA := hid hN
      have HFr := hid hFr
      have HM := hid hmr
      have HG := hid hgr
      have HC := hid (HA.out g (by omega))
      have ON := hid (And.intro hon hlen)
      have G := hid (show sr.at_ + 0 ≤ sr.at_ ∧ sr.at_ ≤ ws.length from ⟨Nat.le_refl _, hSP.1.lt⟩)
      have LA := hid (show acc.length ≤ 20000 by have h1 := hSP.1.few; have h2 := hSP.1.lt; omega)
      clear hN hSP hFr hmr hgr hon hlen
      go_wp2_with fail
      refine (starts_calls sr wr SP.out.1).mono ?_
      rintro e X40 ⟨rfl, hb40⟩
      have SP := hid (SP.out.below hb40)
      have NA := hid (NA.out.grew (Grew.of_below hb40))
      clear hb40
      by_cases hst : startsS ws sr = true
      · rw [hst]
        have HST := hid hst
        clear hst
        go_wp2_with fail
        refine (HC.out.atom sr X40 SP.out.1 (by have h1 := G.out; have h2 := HM.out; simp only [ms, lvN] at h2 ⊢; omega)).mono ?_
        rintro e X41 ⟨v41, rfl, hn41, hp41⟩
        have hg41 := goes_at (ws := ws) BW.out g .atom trivial SP.out.1.lt
        obtain ⟨l41, s41, ht41⟩ : ∃ a b, spz ws g .atom sr = (a, b) := ⟨_, _, rfl⟩
        rw [ht41] at hp41 hg41 hn41
        dsimp only at hp41 hn41
        obtain ⟨va41, vc41, rfl⟩ := hn41.is
        have SP := hid (SP.out.step hp41)
        have NA := hid (NA.out.grew hp41.2)
        have N41 := hid hn41
        have G := hid (show sr.at_ + 0 ≤ s41.at_ ∧ s41.at_ ≤ ws.length by have h1 := G.out; have h2 := hg41.on; have h3 := hg41.lt; dsimp only at h2 h3; omega)
        have L41 := hid (show l41.length ≤ 20000 by have h2 := hg41.len; have h3 := hg41.lt; have h4 := SP.out.1.few; dsimp only [accN] at h2 h3; omega)
        have T41 := hid (show sr.at_ + 1 ≤ s41.at_ ∧ l41.length + 1 ≤ 3 * (s41.at_ - sr.at_) by have h1 := atom_goes (ws := ws) BW.out (f := g) (by have h2 := HM.out; simp only [ms, lvN] at h2; omega) SP0.out.1.lt HST.out; rw [ht41] at h1; exact h1)
        have G1 := T41
        have Q41 := hid ht41
        clear hp41 hg41 ht41 hn41
        have G := hid (show sr.at_ + 1 ≤ s41.at_ ∧ s41.at_ ≤ ws.length from ⟨T41.out.1, G.out.2⟩)
        go_wp2_with fail
        refine (put2_calls SP.out.1 7 0 0 ⟨#[]⟩ ⟨#[]⟩ ⟨#[]⟩ NA.out N41.out ⟨brief_e, brief_e, brief_e⟩ ⟨LA.out, L41.out⟩).mono ?_
        rintro e X42 ⟨v42, rfl, hn42, hb42⟩
        have SP := hid (SP.out.below hb42)
        have N42 := hid hn42
        clear hb42 hn42
        go_wp2_with fail
        go_roundw
        case rel =>
          exact hid ⟨putN ⟨7, 0, ⟨#[]⟩, ⟨#[]⟩, ⟨#[]⟩, 0⟩ [acc, l41], g, s41, N42.out, SP.out, by
            refine Eq.trans (Eq.symm ?_) HFr.out
            show callLS ws (spz ws g) acc sr = _
            refine (callL_t HST.out).trans ?_
            refine (bind_eq Q41.out).trans ?_
            rfl, (by have h1 := HM.out; have h2 := G.out; simp only [ms, lvN] at h1 ⊢; omega), (by have := HG.out; omega), (by have h1 := ON.out; have h2 := G.out; omega), (by have h1 := ON.out; have h2 := G1.out; have h3 := T41.out; rw [put_len2]; omega)⟩
        case measure =>
          show ws.length - posOf d _ < ws.length - posOf d _
          rw [pos_at SP.out.1, pos_at SP0.out.1]
          have h1 := G.out
          omega
      have HSF := hid (show startsS ws sr = false by simpa using hst)
      rw [HSF.out]
      clear hst
      go_wp2_with fail
      go_ret
      have hE : spz ws (f + 1) .call s = (acc, sr) := by
        show callS ws (spz ws f) s = _
        refine (bind_eq HH.out).trans ?_
        refine HF.out.trans ?_
        refine HFr.out.symm.trans ?_
        show callLS ws (spz ws g) acc sr = _
        refine (callL_f HSF.out).trans ?_
        rfl
      rw [hE]
      exact ⟨_, rfl, NA.out, SP.out⟩
  have hx1kFst : (u1.toList == ([102, 115, 116] : List UInt8)) = false := by simpa using hkFst1
  clear hkFst1
  have hkFst1 := hx1kFst
  clear hx1kFst
  have hz6 : seesS ws s kFst = false := by unfold seesS; rw [HU1.out]; exact hkFst1
  have Z6 := hid hz6
  clear hz6
  by_cases hkSnd1 : (u1.toList == ([115, 110, 100] : List UInt8)) = true
  · have hz7 : seesS ws s kSnd = true := by unfold seesS; rw [HU1.out]; exact hkSnd1
    have hl7 := sees_lt (by decide) hz7
    have Z7 := hid (And.intro hz7 hl7)
    clear hz7 hl7
    have q1 := cell_of_heap SP.out.1.blk 1
    have z1 := frozen_of_heap SP.out.1.blk 1
    simp at q1
    have HWr := hid SP.out.wrap
    have hn8 := SP.out.next Z7.out.2
    obtain ⟨s8, hs8⟩ : ∃ x, s.next = x := ⟨_, rfl⟩
    have hc8 : s8.at_ = s.at_ + 1 := by rw [← hs8]; rfl
    rw [hs8] at hn8
    have GR8 := hid (grew_set (d := d) X1 1 (.int .i64 ((s.at_ + 1 : Nat) : Int)))
    obtain ⟨X8, hX8⟩ : ∃ Y, X1.setCell ⟨d.B, 1, none⟩ (.int .i64 ((s.at_ + 1 : Nat) : Int)) = Y := ⟨_, rfl⟩
    rw [hX8] at hn8 GR8
    have HX8 := hid hX8
    have G := hid (show s.at_ + 1 ≤ s8.at_ ∧ s8.at_ ≤ ws.length by have h1 := G.out; have h2 := Z7.out.2; omega)
    have SPn := hid hn8
    have Q8 := hid hs8
    clear hn8 hs8 hc8 hX8 GR8
    go_wp2_with fail
    rw [HWr.out, HX8.out]
    have SP := SPn
    clear SPn HWr q1 z1 HX8
    have G1 := G
    refine (HC.out.atom s8 X8 SP.out.1 (by have h1 := G.out; have h2 := HM.out; simp only [ms, lvN] at h2 ⊢; omega)).mono ?_
    rintro e X9 ⟨v9, rfl, hn9, hp9⟩
    have hg9 := goes_at (ws := ws) BW.out f .atom trivial SP.out.1.lt
    obtain ⟨l9, s9, ht9⟩ : ∃ a b, spz ws f .atom s8 = (a, b) := ⟨_, _, rfl⟩
    rw [ht9] at hp9 hg9 hn9
    dsimp only at hp9 hn9
    obtain ⟨va9, vc9, rfl⟩ := hn9.is
    have SP := hid (SP.out.step hp9)
    have N9 := hid hn9
    have G := hid (show s.at_ + 1 ≤ s9.at_ ∧ s9.at_ ≤ ws.length by have h1 := G.out; have h2 := hg9.on; have h3 := hg9.lt; dsimp only at h2 h3; omega)
    have L9 := hid (show l9.length ≤ 20000 by have h2 := hg9.len; have h3 := hg9.lt; have h4 := SP.out.1.few; dsimp only [accN] at h2 h3; omega)
    have T9 := hid (show s8.at_ ≤ s9.at_ ∧ l9.length ≤ 3 * (s9.at_ - s8.at_) by have h1 := hg9.on; have h2 := hg9.len; dsimp only [accN] at h1 h2; omega)
    have Q9 := hid ht9
    clear hp9 hg9 ht9 hn9
    go_wp2_with fail
    refine (put1_calls SP.out.1 18 0 0 ⟨#[]⟩ ⟨#[]⟩ ⟨#[]⟩ N9.out ⟨brief_e, brief_e, brief_e⟩ (by have h1 := L9.out; omega)).mono ?_
    rintro e X10 ⟨v10, rfl, hn10, hb10⟩
    have SP := hid (SP.out.below hb10)
    have N10 := hid hn10
    clear hb10 hn10
    go_wp2_with fail
    have HH := hid (show headS ws (spz ws f) s = (putN ⟨18, 0, ⟨#[]⟩, ⟨#[]⟩, ⟨#[]⟩, 0⟩ [l9], s9) by
      refine (or_f Z6.out).trans ?_
      refine (or_t Z7.out.1 Q8.out).trans ?_
      refine (bind_eq Q9.out).trans ?_
      rfl)
    have NH := N10
    have LH := hid (show s.at_ ≤ s9.at_ ∧ (putN ⟨18, 0, ⟨#[]⟩, ⟨#[]⟩, ⟨#[]⟩, 0⟩ [l9]).length ≤ 3 * (s9.at_ - s.at_) by have h1 := G1.out; have h2 := T9.out; rw [put_len1]; omega)
    obtain ⟨lh, hlh⟩ : ∃ x, putN ⟨18, 0, ⟨#[]⟩, ⟨#[]⟩, ⟨#[]⟩, 0⟩ [l9] = x := ⟨_, rfl⟩
    rw [hlh] at HH NH LH
    have HV := hid hlh
    clear hlh
    obtain ⟨F, hF⟩ : ∃ x, spz ws f (Nt.callL lh) s9 = x := ⟨_, rfl⟩
    have HF := hid hF
    clear hF
    go_loopw [3] (fun v wr => Hid (LoopI d ws ad cp f Nt.callL F s W v wr)) (fun _ wr => ws.length - posOf d wr)
    case atStart =>
      exact hid ⟨lh, f, s9, NH.out, SP.out, HF.out, (by have h1 := HM.out; have h2 := LH.out.1; simp only [ms, lvN] at h1 ⊢; omega), Nat.le_refl _, LH.out.1, LH.out.2⟩
    case round =>
      obtain ⟨acc, g, sr, hN, hSP, hFr, hmr, hgr, hon, hlen⟩ := hrel.out
      clear hrel
      obtain ⟨va, vc, rfl⟩ := hN.is
      obtain ⟨g, rfl⟩ : ∃ k, g = k + 1 := ⟨g - 1, by simp only [ms, lvN] at hmr; omega⟩
      have SP := hid hSP
      have SP0 := hid hSP
      have NA := hid hN
      have HFr := hid hFr
      have HM := hid hmr
      have HG := hid hgr
      have HC := hid (HA.out g (by omega))
      have ON := hid (And.intro hon hlen)
      have G := hid (show sr.at_ + 0 ≤ sr.at_ ∧ sr.at_ ≤ ws.length from ⟨Nat.le_refl _, hSP.1.lt⟩)
      have LA := hid (show acc.length ≤ 20000 by have h1 := hSP.1.few; have h2 := hSP.1.lt; omega)
      clear hN hSP hFr hmr hgr hon hlen
      go_wp2_with fail
      refine (starts_calls sr wr SP.out.1).mono ?_
      rintro e X40 ⟨rfl, hb40⟩
      have SP := hid (SP.out.below hb40)
      have NA := hid (NA.out.grew (Grew.of_below hb40))
      clear hb40
      by_cases hst : startsS ws sr = true
      · rw [hst]
        have HST := hid hst
        clear hst
        go_wp2_with fail
        refine (HC.out.atom sr X40 SP.out.1 (by have h1 := G.out; have h2 := HM.out; simp only [ms, lvN] at h2 ⊢; omega)).mono ?_
        rintro e X41 ⟨v41, rfl, hn41, hp41⟩
        have hg41 := goes_at (ws := ws) BW.out g .atom trivial SP.out.1.lt
        obtain ⟨l41, s41, ht41⟩ : ∃ a b, spz ws g .atom sr = (a, b) := ⟨_, _, rfl⟩
        rw [ht41] at hp41 hg41 hn41
        dsimp only at hp41 hn41
        obtain ⟨va41, vc41, rfl⟩ := hn41.is
        have SP := hid (SP.out.step hp41)
        have NA := hid (NA.out.grew hp41.2)
        have N41 := hid hn41
        have G := hid (show sr.at_ + 0 ≤ s41.at_ ∧ s41.at_ ≤ ws.length by have h1 := G.out; have h2 := hg41.on; have h3 := hg41.lt; dsimp only at h2 h3; omega)
        have L41 := hid (show l41.length ≤ 20000 by have h2 := hg41.len; have h3 := hg41.lt; have h4 := SP.out.1.few; dsimp only [accN] at h2 h3; omega)
        have T41 := hid (show sr.at_ + 1 ≤ s41.at_ ∧ l41.length + 1 ≤ 3 * (s41.at_ - sr.at_) by have h1 := atom_goes (ws := ws) BW.out (f := g) (by have h2 := HM.out; simp only [ms, lvN] at h2; omega) SP0.out.1.lt HST.out; rw [ht41] at h1; exact h1)
        have G1 := T41
        have Q41 := hid ht41
        clear hp41 hg41 ht41 hn41
        have G := hid (show sr.at_ + 1 ≤ s41.at_ ∧ s41.at_ ≤ ws.length from ⟨T41.out.1, G.out.2⟩)
        go_wp2_with fail
        refine (put2_calls SP.out.1 7 0 0 ⟨#[]⟩ ⟨#[]⟩ ⟨#[]⟩ NA.out N41.out ⟨brief_e, brief_e, brief_e⟩ ⟨LA.out, L41.out⟩).mono ?_
        rintro e X42 ⟨v42, rfl, hn42, hb42⟩
        have SP := hid (SP.out.below hb42)
        have N42 := hid hn42
        clear hb42 hn42
        go_wp2_with fail
        go_roundw
        case rel =>
          exact hid ⟨putN ⟨7, 0, ⟨#[]⟩, ⟨#[]⟩, ⟨#[]⟩, 0⟩ [acc, l41], g, s41, N42.out, SP.out, by
            refine Eq.trans (Eq.symm ?_) HFr.out
            show callLS ws (spz ws g) acc sr = _
            refine (callL_t HST.out).trans ?_
            refine (bind_eq Q41.out).trans ?_
            rfl, (by have h1 := HM.out; have h2 := G.out; simp only [ms, lvN] at h1 ⊢; omega), (by have := HG.out; omega), (by have h1 := ON.out; have h2 := G.out; omega), (by have h1 := ON.out; have h2 := G1.out; have h3 := T41.out; rw [put_len2]; omega)⟩
        case measure =>
          show ws.length - posOf d _ < ws.length - posOf d _
          rw [pos_at SP.out.1, pos_at SP0.out.1]
          have h1 := G.out
          omega
      have HSF := hid (show startsS ws sr = false by simpa using hst)
      rw [HSF.out]
      clear hst
      go_wp2_with fail
      go_ret
      have hE : spz ws (f + 1) .call s = (acc, sr) := by
        show callS ws (spz ws f) s = _
        refine (bind_eq HH.out).trans ?_
        refine HF.out.trans ?_
        refine HFr.out.symm.trans ?_
        show callLS ws (spz ws g) acc sr = _
        refine (callL_f HSF.out).trans ?_
        rfl
      rw [hE]
      exact ⟨_, rfl, NA.out, SP.out⟩
  have hx1kSnd : (u1.toList == ([115, 110, 100] : List UInt8)) = false := by simpa using hkSnd1
  clear hkSnd1
  have hkSnd1 := hx1kSnd
  clear hx1kSnd
  have hz11 : seesS ws s kSnd = false := by unfold seesS; rw [HU1.out]; exact hkSnd1
  have Z11 := hid hz11
  clear hz11
  by_cases hkPrint1 : (u1.toList == ([112, 114, 105, 110, 116] : List UInt8)) = true
  · have hz12 : seesS ws s kPrint = true := by unfold seesS; rw [HU1.out]; exact hkPrint1
    have hl12 := sees_lt (by decide) hz12
    have Z12 := hid (And.intro hz12 hl12)
    clear hz12 hl12
    have q1 := cell_of_heap SP.out.1.blk 1
    have z1 := frozen_of_heap SP.out.1.blk 1
    simp at q1
    have HWr := hid SP.out.wrap
    have hn13 := SP.out.next Z12.out.2
    obtain ⟨s13, hs13⟩ : ∃ x, s.next = x := ⟨_, rfl⟩
    have hc13 : s13.at_ = s.at_ + 1 := by rw [← hs13]; rfl
    rw [hs13] at hn13
    have GR13 := hid (grew_set (d := d) X1 1 (.int .i64 ((s.at_ + 1 : Nat) : Int)))
    obtain ⟨X13, hX13⟩ : ∃ Y, X1.setCell ⟨d.B, 1, none⟩ (.int .i64 ((s.at_ + 1 : Nat) : Int)) = Y := ⟨_, rfl⟩
    rw [hX13] at hn13 GR13
    have HX13 := hid hX13
    have G := hid (show s.at_ + 1 ≤ s13.at_ ∧ s13.at_ ≤ ws.length by have h1 := G.out; have h2 := Z12.out.2; omega)
    have SPn := hid hn13
    have Q13 := hid hs13
    clear hn13 hs13 hc13 hX13 GR13
    go_wp2_with fail
    rw [HWr.out, HX13.out]
    have SP := SPn
    clear SPn HWr q1 z1 HX13
    have G1 := G
    refine (HC.out.atom s13 X13 SP.out.1 (by have h1 := G.out; have h2 := HM.out; simp only [ms, lvN] at h2 ⊢; omega)).mono ?_
    rintro e X14 ⟨v14, rfl, hn14, hp14⟩
    have hg14 := goes_at (ws := ws) BW.out f .atom trivial SP.out.1.lt
    obtain ⟨l14, s14, ht14⟩ : ∃ a b, spz ws f .atom s13 = (a, b) := ⟨_, _, rfl⟩
    rw [ht14] at hp14 hg14 hn14
    dsimp only at hp14 hn14
    obtain ⟨va14, vc14, rfl⟩ := hn14.is
    have SP := hid (SP.out.step hp14)
    have N14 := hid hn14
    have G := hid (show s.at_ + 1 ≤ s14.at_ ∧ s14.at_ ≤ ws.length by have h1 := G.out; have h2 := hg14.on; have h3 := hg14.lt; dsimp only at h2 h3; omega)
    have L14 := hid (show l14.length ≤ 20000 by have h2 := hg14.len; have h3 := hg14.lt; have h4 := SP.out.1.few; dsimp only [accN] at h2 h3; omega)
    have T14 := hid (show s13.at_ ≤ s14.at_ ∧ l14.length ≤ 3 * (s14.at_ - s13.at_) by have h1 := hg14.on; have h2 := hg14.len; dsimp only [accN] at h1 h2; omega)
    have Q14 := hid ht14
    clear hp14 hg14 ht14 hn14
    go_wp2_with fail
    refine (put1_calls SP.out.1 21 0 0 ⟨#[]⟩ ⟨#[]⟩ ⟨#[]⟩ N14.out ⟨brief_e, brief_e, brief_e⟩ (by have h1 := L14.out; omega)).mono ?_
    rintro e X15 ⟨v15, rfl, hn15, hb15⟩
    have SP := hid (SP.out.below hb15)
    have N15 := hid hn15
    clear hb15 hn15
    go_wp2_with fail
    have HH := hid (show headS ws (spz ws f) s = (putN ⟨21, 0, ⟨#[]⟩, ⟨#[]⟩, ⟨#[]⟩, 0⟩ [l14], s14) by
      refine (or_f Z6.out).trans ?_
      refine (or_f Z11.out).trans ?_
      refine (or_t Z12.out.1 Q13.out).trans ?_
      refine (bind_eq Q14.out).trans ?_
      rfl)
    have NH := N15
    have LH := hid (show s.at_ ≤ s14.at_ ∧ (putN ⟨21, 0, ⟨#[]⟩, ⟨#[]⟩, ⟨#[]⟩, 0⟩ [l14]).length ≤ 3 * (s14.at_ - s.at_) by have h1 := G1.out; have h2 := T14.out; rw [put_len1]; omega)
    obtain ⟨lh, hlh⟩ : ∃ x, putN ⟨21, 0, ⟨#[]⟩, ⟨#[]⟩, ⟨#[]⟩, 0⟩ [l14] = x := ⟨_, rfl⟩
    rw [hlh] at HH NH LH
    have HV := hid hlh
    clear hlh
    obtain ⟨F, hF⟩ : ∃ x, spz ws f (Nt.callL lh) s14 = x := ⟨_, rfl⟩
    have HF := hid hF
    clear hF
    go_loopw [3] (fun v wr => Hid (LoopI d ws ad cp f Nt.callL F s W v wr)) (fun _ wr => ws.length - posOf d wr)
    case atStart =>
      exact hid ⟨lh, f, s14, NH.out, SP.out, HF.out, (by have h1 := HM.out; have h2 := LH.out.1; simp only [ms, lvN] at h1 ⊢; omega), Nat.le_refl _, LH.out.1, LH.out.2⟩
    case round =>
      obtain ⟨acc, g, sr, hN, hSP, hFr, hmr, hgr, hon, hlen⟩ := hrel.out
      clear hrel
      obtain ⟨va, vc, rfl⟩ := hN.is
      obtain ⟨g, rfl⟩ : ∃ k, g = k + 1 := ⟨g - 1, by simp only [ms, lvN] at hmr; omega⟩
      have SP := hid hSP
      have SP0 := hid hSP
      have NA := hid hN
      have HFr := hid hFr
      have HM := hid hmr
      have HG := hid hgr
      have HC := hid (HA.out g (by omega))
      have ON := hid (And.intro hon hlen)
      have G := hid (show sr.at_ + 0 ≤ sr.at_ ∧ sr.at_ ≤ ws.length from ⟨Nat.le_refl _, hSP.1.lt⟩)
      have LA := hid (show acc.length ≤ 20000 by have h1 := hSP.1.few; have h2 := hSP.1.lt; omega)
      clear hN hSP hFr hmr hgr hon hlen
      go_wp2_with fail
      refine (starts_calls sr wr SP.out.1).mono ?_
      rintro e X40 ⟨rfl, hb40⟩
      have SP := hid (SP.out.below hb40)
      have NA := hid (NA.out.grew (Grew.of_below hb40))
      clear hb40
      by_cases hst : startsS ws sr = true
      · rw [hst]
        have HST := hid hst
        clear hst
        go_wp2_with fail
        refine (HC.out.atom sr X40 SP.out.1 (by have h1 := G.out; have h2 := HM.out; simp only [ms, lvN] at h2 ⊢; omega)).mono ?_
        rintro e X41 ⟨v41, rfl, hn41, hp41⟩
        have hg41 := goes_at (ws := ws) BW.out g .atom trivial SP.out.1.lt
        obtain ⟨l41, s41, ht41⟩ : ∃ a b, spz ws g .atom sr = (a, b) := ⟨_, _, rfl⟩
        rw [ht41] at hp41 hg41 hn41
        dsimp only at hp41 hn41
        obtain ⟨va41, vc41, rfl⟩ := hn41.is
        have SP := hid (SP.out.step hp41)
        have NA := hid (NA.out.grew hp41.2)
        have N41 := hid hn41
        have G := hid (show sr.at_ + 0 ≤ s41.at_ ∧ s41.at_ ≤ ws.length by have h1 := G.out; have h2 := hg41.on; have h3 := hg41.lt; dsimp only at h2 h3; omega)
        have L41 := hid (show l41.length ≤ 20000 by have h2 := hg41.len; have h3 := hg41.lt; have h4 := SP.out.1.few; dsimp only [accN] at h2 h3; omega)
        have T41 := hid (show sr.at_ + 1 ≤ s41.at_ ∧ l41.length + 1 ≤ 3 * (s41.at_ - sr.at_) by have h1 := atom_goes (ws := ws) BW.out (f := g) (by have h2 := HM.out; simp only [ms, lvN] at h2; omega) SP0.out.1.lt HST.out; rw [ht41] at h1; exact h1)
        have G1 := T41
        have Q41 := hid ht41
        clear hp41 hg41 ht41 hn41
        have G := hid (show sr.at_ + 1 ≤ s41.at_ ∧ s41.at_ ≤ ws.length from ⟨T41.out.1, G.out.2⟩)
        go_wp2_with fail
        refine (put2_calls SP.out.1 7 0 0 ⟨#[]⟩ ⟨#[]⟩ ⟨#[]⟩ NA.out N41.out ⟨brief_e, brief_e, brief_e⟩ ⟨LA.out, L41.out⟩).mono ?_
        rintro e X42 ⟨v42, rfl, hn42, hb42⟩
        have SP := hid (SP.out.below hb42)
        have N42 := hid hn42
        clear hb42 hn42
        go_wp2_with fail
        go_roundw
        case rel =>
          exact hid ⟨putN ⟨7, 0, ⟨#[]⟩, ⟨#[]⟩, ⟨#[]⟩, 0⟩ [acc, l41], g, s41, N42.out, SP.out, by
            refine Eq.trans (Eq.symm ?_) HFr.out
            show callLS ws (spz ws g) acc sr = _
            refine (callL_t HST.out).trans ?_
            refine (bind_eq Q41.out).trans ?_
            rfl, (by have h1 := HM.out; have h2 := G.out; simp only [ms, lvN] at h1 ⊢; omega), (by have := HG.out; omega), (by have h1 := ON.out; have h2 := G.out; omega), (by have h1 := ON.out; have h2 := G1.out; have h3 := T41.out; rw [put_len2]; omega)⟩
        case measure =>
          show ws.length - posOf d _ < ws.length - posOf d _
          rw [pos_at SP.out.1, pos_at SP0.out.1]
          have h1 := G.out
          omega
      have HSF := hid (show startsS ws sr = false by simpa using hst)
      rw [HSF.out]
      clear hst
      go_wp2_with fail
      go_ret
      have hE : spz ws (f + 1) .call s = (acc, sr) := by
        show callS ws (spz ws f) s = _
        refine (bind_eq HH.out).trans ?_
        refine HF.out.trans ?_
        refine HFr.out.symm.trans ?_
        show callLS ws (spz ws g) acc sr = _
        refine (callL_f HSF.out).trans ?_
        rfl
      rw [hE]
      exact ⟨_, rfl, NA.out, SP.out⟩
  have hx1kPrint : (u1.toList == ([112, 114, 105, 110, 116] : List UInt8)) = false := by simpa using hkPrint1
  clear hkPrint1
  have hkPrint1 := hx1kPrint
  clear hx1kPrint
  have hz16 : seesS ws s kPrint = false := by unfold seesS; rw [HU1.out]; exact hkPrint1
  have Z16 := hid hz16
  clear hz16
  by_cases hkDo1 : (u1.toList == ([100, 111] : List UInt8)) = true
  · have hz17 : seesS ws s kDo = true := by unfold seesS; rw [HU1.out]; exact hkDo1
    have hl17 := sees_lt (by decide) hz17
    have Z17 := hid (And.intro hz17 hl17)
    clear hz17 hl17
    have q1 := cell_of_heap SP.out.1.blk 1
    have z1 := frozen_of_heap SP.out.1.blk 1
    simp at q1
    have HWr := hid SP.out.wrap
    have hn18 := SP.out.next Z17.out.2
    obtain ⟨s18, hs18⟩ : ∃ x, s.next = x := ⟨_, rfl⟩
    have hc18 : s18.at_ = s.at_ + 1 := by rw [← hs18]; rfl
    rw [hs18] at hn18
    have GR18 := hid (grew_set (d := d) X1 1 (.int .i64 ((s.at_ + 1 : Nat) : Int)))
    obtain ⟨X18, hX18⟩ : ∃ Y, X1.setCell ⟨d.B, 1, none⟩ (.int .i64 ((s.at_ + 1 : Nat) : Int)) = Y := ⟨_, rfl⟩
    rw [hX18] at hn18 GR18
    have HX18 := hid hX18
    have G := hid (show s.at_ + 1 ≤ s18.at_ ∧ s18.at_ ≤ ws.length by have h1 := G.out; have h2 := Z17.out.2; omega)
    have SPn := hid hn18
    have Q18 := hid hs18
    clear hn18 hs18 hc18 hX18 GR18
    go_wp2_with fail
    rw [HWr.out, HX18.out]
    have SP := SPn
    clear SPn HWr q1 z1 HX18
    refine (pname_calls s18 X18 SP.out.1).mono ?_
    rintro e X19 ⟨rfl, hp19⟩
    have hg19 := name_goes (ws := ws) BW.out SP.out.1.lt
    obtain ⟨n19, s19, ht19⟩ : ∃ a b, nameS ws s18 = (a, b) := ⟨_, _, rfl⟩
    rw [ht19] at hp19 hg19 ⊢
    have SP := hid (SP.out.step hp19)
    have G := hid (show s.at_ + 1 ≤ s19.at_ ∧ s19.at_ ≤ ws.length by have h1 := G.out; have h2 := hg19.1; have h3 := hg19.2.1; dsimp only at h2 h3; omega)
    have B19 := hid hg19.2.2
    have Q19 := hid ht19
    clear hp19 hg19 ht19
    dsimp only
    go_wp2_with fail
    have G1 := G
    refine (HC.out.atom s19 X19 SP.out.1 (by have h1 := G.out; have h2 := HM.out; simp only [ms, lvN] at h2 ⊢; omega)).mono ?_
    rintro e X20 ⟨v20, rfl, hn20, hp20⟩
    have hg20 := goes_at (ws := ws) BW.out f .atom trivial SP.out.1.lt
    obtain ⟨l20, s20, ht20⟩ : ∃ a b, spz ws f .atom s19 = (a, b) := ⟨_, _, rfl⟩
    rw [ht20] at hp20 hg20 hn20
    dsimp only at hp20 hn20
    obtain ⟨va20, vc20, rfl⟩ := hn20.is
    have SP := hid (SP.out.step hp20)
    have N20 := hid hn20
    have G := hid (show s.at_ + 1 ≤ s20.at_ ∧ s20.at_ ≤ ws.length by have h1 := G.out; have h2 := hg20.on; have h3 := hg20.lt; dsimp only at h2 h3; omega)
    have L20 := hid (show l20.length ≤ 20000 by have h2 := hg20.len; have h3 := hg20.lt; have h4 := SP.out.1.few; dsimp only [accN] at h2 h3; omega)
    have T20 := hid (show s19.at_ ≤ s20.at_ ∧ l20.length ≤ 3 * (s20.at_ - s19.at_) by have h1 := hg20.on; have h2 := hg20.len; dsimp only [accN] at h1 h2; omega)
    have Q20 := hid ht20
    clear hp20 hg20 ht20 hn20
    go_wp2_with fail
    refine (put1_calls SP.out.1 22 0 0 n19 ⟨#[]⟩ ⟨#[]⟩ N20.out ⟨B19.out, brief_e, brief_e⟩ (by have h1 := L20.out; omega)).mono ?_
    rintro e X21 ⟨v21, rfl, hn21, hb21⟩
    have SP := hid (SP.out.below hb21)
    have N21 := hid hn21
    clear hb21 hn21
    go_wp2_with fail
    have HH := hid (show headS ws (spz ws f) s = (putN ⟨22, 0, n19, ⟨#[]⟩, ⟨#[]⟩, 0⟩ [l20], s20) by
      refine (or_f Z6.out).trans ?_
      refine (or_f Z11.out).trans ?_
      refine (or_f Z16.out).trans ?_
      refine (or_t Z17.out.1 Q18.out).trans ?_
      refine (bind_eq Q19.out).trans ?_
      refine (bind_eq Q20.out).trans ?_
      rfl)
    have NH := N21
    have LH := hid (show s.at_ ≤ s20.at_ ∧ (putN ⟨22, 0, n19, ⟨#[]⟩, ⟨#[]⟩, 0⟩ [l20]).length ≤ 3 * (s20.at_ - s.at_) by have h1 := G1.out; have h2 := T20.out; rw [put_len1]; omega)
    obtain ⟨lh, hlh⟩ : ∃ x, putN ⟨22, 0, n19, ⟨#[]⟩, ⟨#[]⟩, 0⟩ [l20] = x := ⟨_, rfl⟩
    rw [hlh] at HH NH LH
    have HV := hid hlh
    clear hlh
    obtain ⟨F, hF⟩ : ∃ x, spz ws f (Nt.callL lh) s20 = x := ⟨_, rfl⟩
    have HF := hid hF
    clear hF
    go_loopw [3] (fun v wr => Hid (LoopI d ws ad cp f Nt.callL F s W v wr)) (fun _ wr => ws.length - posOf d wr)
    case atStart =>
      exact hid ⟨lh, f, s20, NH.out, SP.out, HF.out, (by have h1 := HM.out; have h2 := LH.out.1; simp only [ms, lvN] at h1 ⊢; omega), Nat.le_refl _, LH.out.1, LH.out.2⟩
    case round =>
      obtain ⟨acc, g, sr, hN, hSP, hFr, hmr, hgr, hon, hlen⟩ := hrel.out
      clear hrel
      obtain ⟨va, vc, rfl⟩ := hN.is
      obtain ⟨g, rfl⟩ : ∃ k, g = k + 1 := ⟨g - 1, by simp only [ms, lvN] at hmr; omega⟩
      have SP := hid hSP
      have SP0 := hid hSP
      have NA := hid hN
      have HFr := hid hFr
      have HM := hid hmr
      have HG := hid hgr
      have HC := hid (HA.out g (by omega))
      have ON := hid (And.intro hon hlen)
      have G := hid (show sr.at_ + 0 ≤ sr.at_ ∧ sr.at_ ≤ ws.length from ⟨Nat.le_refl _, hSP.1.lt⟩)
      have LA := hid (show acc.length ≤ 20000 by have h1 := hSP.1.few; have h2 := hSP.1.lt; omega)
      clear hN hSP hFr hmr hgr hon hlen
      go_wp2_with fail
      refine (starts_calls sr wr SP.out.1).mono ?_
      rintro e X40 ⟨rfl, hb40⟩
      have SP := hid (SP.out.below hb40)
      have NA := hid (NA.out.grew (Grew.of_below hb40))
      clear hb40
      by_cases hst : startsS ws sr = true
      · rw [hst]
        have HST := hid hst
        clear hst
        go_wp2_with fail
        refine (HC.out.atom sr X40 SP.out.1 (by have h1 := G.out; have h2 := HM.out; simp only [ms, lvN] at h2 ⊢; omega)).mono ?_
        rintro e X41 ⟨v41, rfl, hn41, hp41⟩
        have hg41 := goes_at (ws := ws) BW.out g .atom trivial SP.out.1.lt
        obtain ⟨l41, s41, ht41⟩ : ∃ a b, spz ws g .atom sr = (a, b) := ⟨_, _, rfl⟩
        rw [ht41] at hp41 hg41 hn41
        dsimp only at hp41 hn41
        obtain ⟨va41, vc41, rfl⟩ := hn41.is
        have SP := hid (SP.out.step hp41)
        have NA := hid (NA.out.grew hp41.2)
        have N41 := hid hn41
        have G := hid (show sr.at_ + 0 ≤ s41.at_ ∧ s41.at_ ≤ ws.length by have h1 := G.out; have h2 := hg41.on; have h3 := hg41.lt; dsimp only at h2 h3; omega)
        have L41 := hid (show l41.length ≤ 20000 by have h2 := hg41.len; have h3 := hg41.lt; have h4 := SP.out.1.few; dsimp only [accN] at h2 h3; omega)
        have T41 := hid (show sr.at_ + 1 ≤ s41.at_ ∧ l41.length + 1 ≤ 3 * (s41.at_ - sr.at_) by have h1 := atom_goes (ws := ws) BW.out (f := g) (by have h2 := HM.out; simp only [ms, lvN] at h2; omega) SP0.out.1.lt HST.out; rw [ht41] at h1; exact h1)
        have G1 := T41
        have Q41 := hid ht41
        clear hp41 hg41 ht41 hn41
        have G := hid (show sr.at_ + 1 ≤ s41.at_ ∧ s41.at_ ≤ ws.length from ⟨T41.out.1, G.out.2⟩)
        go_wp2_with fail
        refine (put2_calls SP.out.1 7 0 0 ⟨#[]⟩ ⟨#[]⟩ ⟨#[]⟩ NA.out N41.out ⟨brief_e, brief_e, brief_e⟩ ⟨LA.out, L41.out⟩).mono ?_
        rintro e X42 ⟨v42, rfl, hn42, hb42⟩
        have SP := hid (SP.out.below hb42)
        have N42 := hid hn42
        clear hb42 hn42
        go_wp2_with fail
        go_roundw
        case rel =>
          exact hid ⟨putN ⟨7, 0, ⟨#[]⟩, ⟨#[]⟩, ⟨#[]⟩, 0⟩ [acc, l41], g, s41, N42.out, SP.out, by
            refine Eq.trans (Eq.symm ?_) HFr.out
            show callLS ws (spz ws g) acc sr = _
            refine (callL_t HST.out).trans ?_
            refine (bind_eq Q41.out).trans ?_
            rfl, (by have h1 := HM.out; have h2 := G.out; simp only [ms, lvN] at h1 ⊢; omega), (by have := HG.out; omega), (by have h1 := ON.out; have h2 := G.out; omega), (by have h1 := ON.out; have h2 := G1.out; have h3 := T41.out; rw [put_len2]; omega)⟩
        case measure =>
          show ws.length - posOf d _ < ws.length - posOf d _
          rw [pos_at SP.out.1, pos_at SP0.out.1]
          have h1 := G.out
          omega
      have HSF := hid (show startsS ws sr = false by simpa using hst)
      rw [HSF.out]
      clear hst
      go_wp2_with fail
      go_ret
      have hE : spz ws (f + 1) .call s = (acc, sr) := by
        show callS ws (spz ws f) s = _
        refine (bind_eq HH.out).trans ?_
        refine HF.out.trans ?_
        refine HFr.out.symm.trans ?_
        show callLS ws (spz ws g) acc sr = _
        refine (callL_f HSF.out).trans ?_
        rfl
      rw [hE]
      exact ⟨_, rfl, NA.out, SP.out⟩
  have hx1kDo : (u1.toList == ([100, 111] : List UInt8)) = false := by simpa using hkDo1
  clear hkDo1
  have hkDo1 := hx1kDo
  clear hx1kDo
  have hz22 : seesS ws s kDo = false := by unfold seesS; rw [HU1.out]; exact hkDo1
  have Z22 := hid hz22
  clear hz22
  go_wp2_with fail
  refine (HC.out.atom s X1 SP.out.1 (by have h1 := G.out; have h2 := HM.out; simp only [ms, lvN] at h2 ⊢; omega)).mono ?_
  rintro e X23 ⟨v23, rfl, hn23, hp23⟩
  have hg23 := goes_at (ws := ws) BW.out f .atom trivial SP.out.1.lt
  obtain ⟨l23, s23, ht23⟩ : ∃ a b, spz ws f .atom s = (a, b) := ⟨_, _, rfl⟩
  rw [ht23] at hp23 hg23 hn23
  dsimp only at hp23 hn23
  obtain ⟨va23, vc23, rfl⟩ := hn23.is
  have SP := hid (SP.out.step hp23)
  have N23 := hid hn23
  have G := hid (show s.at_ + 0 ≤ s23.at_ ∧ s23.at_ ≤ ws.length by have h1 := G.out; have h2 := hg23.on; have h3 := hg23.lt; dsimp only at h2 h3; omega)
  have L23 := hid (show l23.length ≤ 20000 by have h2 := hg23.len; have h3 := hg23.lt; have h4 := SP.out.1.few; dsimp only [accN] at h2 h3; omega)
  have T23 := hid (show s.at_ ≤ s23.at_ ∧ l23.length ≤ 3 * (s23.at_ - s.at_) by have h1 := hg23.on; have h2 := hg23.len; dsimp only [accN] at h1 h2; omega)
  have Q23 := hid ht23
  clear hp23 hg23 ht23 hn23
  go_wp2_with fail
  have HH := hid (show headS ws (spz ws f) s = (l23, s23) by
    refine (or_f Z6.out).trans ?_
    refine (or_f Z11.out).trans ?_
    refine (or_f Z16.out).trans ?_
    refine (or_f Z22.out).trans ?_
    exact Q23.out)
  have NH := N23
  have LH := hid (show s.at_ ≤ s23.at_ ∧ (l23).length ≤ 3 * (s23.at_ - s.at_) by have h2 := T23.out; omega)
  obtain ⟨F, hF⟩ : ∃ x, spz ws f (Nt.callL l23) s23 = x := ⟨_, rfl⟩
  have HF := hid hF
  clear hF
  go_loopw [3] (fun v wr => Hid (LoopI d ws ad cp f Nt.callL F s W v wr)) (fun _ wr => ws.length - posOf d wr)
  case atStart =>
    exact hid ⟨l23, f, s23, NH.out, SP.out, HF.out, (by have h1 := HM.out; have h2 := LH.out.1; simp only [ms, lvN] at h1 ⊢; omega), Nat.le_refl _, LH.out.1, LH.out.2⟩
  case round =>
    obtain ⟨acc, g, sr, hN, hSP, hFr, hmr, hgr, hon, hlen⟩ := hrel.out
    clear hrel
    obtain ⟨va, vc, rfl⟩ := hN.is
    obtain ⟨g, rfl⟩ : ∃ k, g = k + 1 := ⟨g - 1, by simp only [ms, lvN] at hmr; omega⟩
    have SP := hid hSP
    have SP0 := hid hSP
    have NA := hid hN
    have HFr := hid hFr
    have HM := hid hmr
    have HG := hid hgr
    have HC := hid (HA.out g (by omega))
    have ON := hid (And.intro hon hlen)
    have G := hid (show sr.at_ + 0 ≤ sr.at_ ∧ sr.at_ ≤ ws.length from ⟨Nat.le_refl _, hSP.1.lt⟩)
    have LA := hid (show acc.length ≤ 20000 by have h1 := hSP.1.few; have h2 := hSP.1.lt; omega)
    clear hN hSP hFr hmr hgr hon hlen
    go_wp2_with fail
    refine (starts_calls sr wr SP.out.1).mono ?_
    rintro e X40 ⟨rfl, hb40⟩
    have SP := hid (SP.out.below hb40)
    have NA := hid (NA.out.grew (Grew.of_below hb40))
    clear hb40
    by_cases hst : startsS ws sr = true
    · rw [hst]
      have HST := hid hst
      clear hst
      go_wp2_with fail
      refine (HC.out.atom sr X40 SP.out.1 (by have h1 := G.out; have h2 := HM.out; simp only [ms, lvN] at h2 ⊢; omega)).mono ?_
      rintro e X41 ⟨v41, rfl, hn41, hp41⟩
      have hg41 := goes_at (ws := ws) BW.out g .atom trivial SP.out.1.lt
      obtain ⟨l41, s41, ht41⟩ : ∃ a b, spz ws g .atom sr = (a, b) := ⟨_, _, rfl⟩
      rw [ht41] at hp41 hg41 hn41
      dsimp only at hp41 hn41
      obtain ⟨va41, vc41, rfl⟩ := hn41.is
      have SP := hid (SP.out.step hp41)
      have NA := hid (NA.out.grew hp41.2)
      have N41 := hid hn41
      have G := hid (show sr.at_ + 0 ≤ s41.at_ ∧ s41.at_ ≤ ws.length by have h1 := G.out; have h2 := hg41.on; have h3 := hg41.lt; dsimp only at h2 h3; omega)
      have L41 := hid (show l41.length ≤ 20000 by have h2 := hg41.len; have h3 := hg41.lt; have h4 := SP.out.1.few; dsimp only [accN] at h2 h3; omega)
      have T41 := hid (show sr.at_ + 1 ≤ s41.at_ ∧ l41.length + 1 ≤ 3 * (s41.at_ - sr.at_) by have h1 := atom_goes (ws := ws) BW.out (f := g) (by have h2 := HM.out; simp only [ms, lvN] at h2; omega) SP0.out.1.lt HST.out; rw [ht41] at h1; exact h1)
      have G1 := T41
      have Q41 := hid ht41
      clear hp41 hg41 ht41 hn41
      have G := hid (show sr.at_ + 1 ≤ s41.at_ ∧ s41.at_ ≤ ws.length from ⟨T41.out.1, G.out.2⟩)
      go_wp2_with fail
      refine (put2_calls SP.out.1 7 0 0 ⟨#[]⟩ ⟨#[]⟩ ⟨#[]⟩ NA.out N41.out ⟨brief_e, brief_e, brief_e⟩ ⟨LA.out, L41.out⟩).mono ?_
      rintro e X42 ⟨v42, rfl, hn42, hb42⟩
      have SP := hid (SP.out.below hb42)
      have N42 := hid hn42
      clear hb42 hn42
      go_wp2_with fail
      go_roundw
      case rel =>
        exact hid ⟨putN ⟨7, 0, ⟨#[]⟩, ⟨#[]⟩, ⟨#[]⟩, 0⟩ [acc, l41], g, s41, N42.out, SP.out, by
          refine Eq.trans (Eq.symm ?_) HFr.out
          show callLS ws (spz ws g) acc sr = _
          refine (callL_t HST.out).trans ?_
          refine (bind_eq Q41.out).trans ?_
          rfl, (by have h1 := HM.out; have h2 := G.out; simp only [ms, lvN] at h1 ⊢; omega), (by have := HG.out; omega), (by have h1 := ON.out; have h2 := G.out; omega), (by have h1 := ON.out; have h2 := G1.out; have h3 := T41.out; rw [put_len2]; omega)⟩
      case measure =>
        show ws.length - posOf d _ < ws.length - posOf d _
        rw [pos_at SP.out.1, pos_at SP0.out.1]
        have h1 := G.out
        omega
    have HSF := hid (show startsS ws sr = false by simpa using hst)
    rw [HSF.out]
    clear hst
    go_wp2_with fail
    go_ret
    have hE : spz ws (f + 1) .call s = (acc, sr) := by
      show callS ws (spz ws f) s = _
      refine (bind_eq HH.out).trans ?_
      refine HF.out.trans ?_
      refine HFr.out.symm.trans ?_
      show callLS ws (spz ws g) acc sr = _
      refine (callL_f HSF.out).trans ?_
      rfl
    rw [hE]
    exact ⟨_, rfl, NA.out, SP.out⟩

end
end Go.Proofs.YtkdipppeljpgmaaGreatDoor
