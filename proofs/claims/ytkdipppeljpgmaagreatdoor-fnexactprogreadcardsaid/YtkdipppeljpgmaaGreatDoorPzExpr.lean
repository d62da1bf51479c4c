/- The specification's parser: expressions, lists, comparisons. -/
import Derived.Test.YtkdipppeljpgmaaGreatDoorPzKit
namespace Go.Proofs.YtkdipppeljpgmaaGreatDoor
open Go.RowKit Go.Deep
section
variable {d : Dr} {ws : List Wd} {ad : Option Addr} {cp : Nat}

theorem or_t {s s1 : Ps} {l : List UInt8} {p q : PS (List Nd)} (h : seesS ws s l = true) (h1 : s.next = s1) : orS ws l p q s = p s1 := by
  unfold orS
  rw [h, h1]
  rfl

theorem or_f {s : Ps} {l : List UInt8} {p q : PS (List Nd)} (h : seesS ws s l = false) : orS ws l p q s = q s := by
  unfold orS
  rw [h]
  rfl

theorem bind_eq {α : Type} {p : PS α} {k : α → PS (List Nd)} {s s1 : Ps} {a : α} (h : p s = (a, s1)) : bindS p k s = k a s1 := by
  unfold bindS
  rw [h]

theorem bind_take {l : List UInt8} {k : Unit → PS (List Nd)} {s s1 : Ps} (h : (takeS ws l s).2 = s1) : bindS (takeS ws l) k s = k () s1 := by
  unfold bindS
  rw [h]

theorem takeK_calls (s : Ps) (t : ByteArray) (l : List UInt8) (ht : t.toList = l) (hl : l ≠ []) (W : World) (h : PsAt d ws ad cp s W) :
    Calls Tryz.prog 29 #[.pointer (some ⟨d.B, 0, none⟩), .string t] W fun e W' => (∃ x, e = .returned x) ∧ StepP d ws ad cp (takeS ws l s).2 W W' := by
  subst ht
  exact take_calls s t hl W h

set_option maxHeartbeats 8000000 in
set_option maxRecDepth 100000 in
theorem pcons_calls (hw : BriefW ws) {f : Nat} (hc : PcAll d ws ad cp f) (s : Ps) (W : World) (h : PsAt d ws ad cp s W) (hm : ms ws .cons s ≤ f + 1) :
    Calls Tryz.prog 33 #[.pointer (some ⟨d.B, 0, none⟩)] W (PostN d ws ad cp (spz ws (f + 1) .cons s) W) := by
  have SP := hid (StepP.start h)
  have HC := hid hc
  have HM := hid hm
  have BW := hid hw
  have G := hid (show s.at_ + 0 ≤ s.at_ ∧ s.at_ ≤ ws.length from ⟨Nat.le_refl _, h.lt⟩)
  clear h hc hm hw
  go_enter Tryz.func33, Tryz.ntmps33
  go_wp2_with fail
  refine (HC.out.comp s W SP.out.1 (by have h1 := G.out; have h2 := HM.out; simp only [ms, lvN] at h2 ⊢; omega)).mono ?_
  rintro e X1 ⟨v1, rfl, hn1, hp1⟩
  have hg1 := goes_at (ws := ws) BW.out f .comp trivial SP.out.1.lt
  obtain ⟨l1, s1, ht1⟩ : ∃ a b, spz ws f .comp s = (a, b) := ⟨_, _, rfl⟩
  rw [ht1] at hp1 hg1 hn1
  dsimp only at hp1 hn1
  obtain ⟨va1, vc1, rfl⟩ := hn1.is
  have SP := hid (SP.out.step hp1)
  have N1 := hid hn1
  have G := hid (show s.at_ + 0 ≤ s1.at_ ∧ s1.at_ ≤ ws.length by have h1 := G.out; have h2 := hg1.on; have h3 := hg1.lt; dsimp only at h2 h3; omega)
  have L1 := hid (show l1.length ≤ 20000 by have h2 := hg1.len; have h3 := hg1.lt; have h4 := SP.out.1.few; dsimp only [accN] at h2 h3; omega)
  have Q1 := hid ht1
  clear hp1 hg1 ht1 hn1
  go_wp2_with fail
  refine (text_calls s1 X1 SP.out.1).mono ?_
  rintro e X2 ⟨rfl, hb2⟩
  have SP := hid (SP.out.below hb2)
  have N1 := hid (N1.out.grew (Grew.of_below hb2))
  obtain ⟨u2, hu2⟩ : ∃ u, txt ws s1 = u := ⟨_, rfl⟩
  rw [hu2]
  have HU2 := hid hu2
  clear hb2 hu2
  by_cases hgCons2 : (u2.toList == ([58, 58] : List UInt8)) = true
  · have hz3 : seesS ws s1 gCons = true := by unfold seesS; rw [HU2.out]; exact hgCons2
    have hl3 := sees_lt (by decide) hz3
    have Z3 := hid (And.intro hz3 hl3)
    clear hz3 hl3
    have q1 := cell_of_heap SP.out.1.blk 1
    have z1 := frozen_of_heap SP.out.1.blk 1
    simp at q1
    have HWr := hid SP.out.wrap
    have hn4 := SP.out.next Z3.out.2
    obtain ⟨s4, hs4⟩ : ∃ x, s1.next = x := ⟨_, rfl⟩
    have hc4 : s4.at_ = s1.at_ + 1 := by rw [← hs4]; rfl
    rw [hs4] at hn4
    have GR4 := hid (grew_set (d := d) X2 1 (.int .i64 ((s1.at_ + 1 : Nat) : Int)))
    obtain ⟨X4, hX4⟩ : ∃ Y, X2.setCell ⟨d.B, 1, none⟩ (.int .i64 ((s1.at_ + 1 : Nat) : Int)) = Y := ⟨_, rfl⟩
    rw [hX4] at hn4 GR4
    have HX4 := hid hX4
    have N1 := hid (N1.out.grew GR4.out)
    have G := hid (show s.at_ + 1 ≤ s4.at_ ∧ s4.at_ ≤ ws.length by have h1 := G.out; have h2 := Z3.out.2; omega)
    have SPn := hid hn4
    have Q4 := hid hs4
    clear hn4 hs4 hc4 hX4 GR4
    go_wp2_with fail
    rw [HWr.out, HX4.out]
    have SP := SPn
    clear SPn HWr q1 z1 HX4
    refine (HC.out.cons s4 X4 SP.out.1 (by have h1 := G.out; have h2 := HM.out; simp only [ms, lvN] at h2 ⊢; omega)).mono ?_
    rintro e X5 ⟨v5, rfl, hn5, hp5⟩
    have hg5 := goes_at (ws := ws) BW.out f .cons trivial SP.out.1.lt
    obtain ⟨l5, s5, ht5⟩ : ∃ a b, spz ws f .cons s4 = (a, b) := ⟨_, _, rfl⟩
    rw [ht5] at hp5 hg5 hn5
    dsimp only at hp5 hn5
    obtain ⟨va5, vc5, rfl⟩ := hn5.is
    have SP := hid (SP.out.step hp5)
    have N1 := hid (N1.out.grew hp5.2)
    have N5 := hid hn5
    have G := hid (show s.at_ + 1 ≤ s5.at_ ∧ s5.at_ ≤ ws.length by have h1 := G.out; have h2 := hg5.on; have h3 := hg5.lt; dsimp only at h2 h3; omega)
    have L5 := hid (show l5.length ≤ 20000 by have h2 := hg5.len; have h3 := hg5.lt; have h4 := SP.out.1.few; dsimp only [accN] at h2 h3; omega)
    have Q5 := hid ht5
    clear hp5 hg5 ht5 hn5
    go_wp2_with fail
    refine (put2_calls SP.out.1 19 0 0 ⟨#[]⟩ ⟨#[]⟩ ⟨#[]⟩ N1.out N5.out ⟨brief_e, brief_e, brief_e⟩ ⟨L1.out, L5.out⟩).mono ?_
    rintro e X6 ⟨v6, rfl, hn6, hb6⟩
    have SP := hid (SP.out.below hb6)
    have N6 := hid hn6
    clear hb6 hn6
    go_wp2_with fail
    go_ret
    have hE : spz ws (f + 1) .cons s = (putN ⟨19, 0, ⟨#[]⟩, ⟨#[]⟩, ⟨#[]⟩, 0⟩ [l1, l5], s5) := by
      show consS ws (spz ws f) s = _
      refine (bind_eq Q1.out).trans ?_
      refine (or_t Z3.out.1 Q4.out).trans ?_
      refine (bind_eq Q5.out).trans ?_
      rfl
    rw [hE]
    exact ⟨v6, rfl, N6.out, SP.out⟩
  have hx2gCons : (u2.toList == ([58, 58] : List UInt8)) = false := by simpa using hgCons2
  clear hgCons2
  have hgCons2 := hx2gCons
  clear hx2gCons
  have hz7 : seesS ws s1 gCons = false := by unfold seesS; rw [HU2.out]; exact hgCons2
  have Z7 := hid hz7
  clear hz7
  go_wp2_with fail
  go_ret
  have hE : spz ws (f + 1) .cons s = (l1, s1) := by
    show consS ws (spz ws f) s = _
    refine (bind_eq Q1.out).trans ?_
    refine (or_f Z7.out).trans ?_
    rfl
  rw [hE]
  exact ⟨_, rfl, N1.out, SP.out⟩

set_option maxHeartbeats 8000000 in
set_option maxRecDepth 100000 in
theorem pcomp_calls (hw : BriefW ws) {f : Nat} (hc : PcAll d ws ad cp f) (s : Ps) (W : World) (h : PsAt d ws ad cp s W) (hm : ms ws .comp s ≤ f + 1) :
    Calls Tryz.prog 57 #[.pointer (some ⟨d.B, 0, none⟩)] W (PostN d ws ad cp (spz ws (f + 1) .comp s) W) := by
  have SP := hid (StepP.start h)
  have HC := hid hc
  have HM := hid hm
  have BW := hid hw
  have G := hid (show s.at_ + 0 ≤ s.at_ ∧ s.at_ ≤ ws.length from ⟨Nat.le_refl _, h.lt⟩)
  clear h hc hm hw
  go_enter Tryz.func57, Tryz.ntmps57
  go_wp2_with fail
  refine (HC.out.sum s W SP.out.1 (by have h1 := G.out; have h2 := HM.out; simp only [ms, lvN] at h2 ⊢; omega)).mono ?_
  rintro e X1 ⟨v1, rfl, hn1, hp1⟩
  have hg1 := goes_at (ws := ws) BW.out f .sum trivial SP.out.1.lt
  obtain ⟨l1, s1, ht1⟩ : ∃ a b, spz ws f .sum s = (a, b) := ⟨_, _, rfl⟩
  rw [ht1] at hp1 hg1 hn1
  dsimp only at hp1 hn1
  obtain ⟨va1, vc1, rfl⟩ := hn1.is
  have SP := hid (SP.out.step hp1)
  have N1 := hid hn1
  have G := hid (show s.at_ + 0 ≤ s1.at_ ∧ s1.at_ ≤ ws.length by have h1 := G.out; have h2 := hg1.on; have h3 := hg1.lt; dsimp only at h2 h3; omega)
  have L1 := hid (show l1.length ≤ 20000 by have h2 := hg1.len; have h3 := hg1.lt; have h4 := SP.out.1.few; dsimp only [accN] at h2 h3; omega)
  have Q1 := hid ht1
  clear hp1 hg1 ht1 hn1
  go_wp2_with fail
  refine (text_calls s1 X1 SP.out.1).mono ?_
  rintro e X2 ⟨rfl, hb2⟩
  have SP := hid (SP.out.below hb2)
  have N1 := hid (N1.out.grew (Grew.of_below hb2))
  obtain ⟨u2, hu2⟩ : ∃ u, txt ws s1 = u := ⟨_, rfl⟩
  rw [hu2]
  have HU2 := hid hu2
  clear hb2 hu2
  by_cases hgEq2 : (u2.toList == ([61] : List UInt8)) = true
  · have hz3 : seesS ws s1 gEq = true := by unfold seesS; rw [HU2.out]; exact hgEq2
    have hl3 := sees_lt (by decide) hz3
    have Z3 := hid (And.intro hz3 hl3)
    clear hz3 hl3
    have q1 := cell_of_heap SP.out.1.blk 1
    have z1 := frozen_of_heap SP.out.1.blk 1
    simp at q1
    have HWr := hid SP.out.wrap
    have hn4 := SP.out.next Z3.out.2
    obtain ⟨s4, hs4⟩ : ∃ x, s1.next = x := ⟨_, rfl⟩
    have hc4 : s4.at_ = s1.at_ + 1 := by rw [← hs4]; rfl
    rw [hs4] at hn4
    have GR4 := hid (grew_set (d := d) X2 1 (.int .i64 ((s1.at_ + 1 : Nat) : Int)))
    obtain ⟨X4, hX4⟩ : ∃ Y, X2.setCell ⟨d.B, 1, none⟩ (.int .i64 ((s1.at_ + 1 : Nat) : Int)) = Y := ⟨_, rfl⟩
    rw [hX4] at hn4 GR4
    have HX4 := hid hX4
    have N1 := hid (N1.out.grew GR4.out)
    have G := hid (show s.at_ + 1 ≤ s4.at_ ∧ s4.at_ ≤ ws.length by have h1 := G.out; have h2 := Z3.out.2; omega)
    have SPn := hid hn4
    have Q4 := hid hs4
    clear hn4 hs4 hc4 hX4 GR4
    go_wp2_with fail
    rw [HWr.out, HX4.out]
    have SP := SPn
    clear SPn HWr q1 z1 HX4
    refine (HC.out.sum s4 X4 SP.out.1 (by have h1 := G.out; have h2 := HM.out; simp only [ms, lvN] at h2 ⊢; omega)).mono ?_
    rintro e X5 ⟨v5, rfl, hn5, hp5⟩
    have hg5 := goes_at (ws := ws) BW.out f .sum trivial SP.out.1.lt
    obtain ⟨l5, s5, ht5⟩ : ∃ a b, spz ws f .sum s4 = (a, b) := ⟨_, _, rfl⟩
    rw [ht5] at hp5 hg5 hn5
    dsimp only at hp5 hn5
    obtain ⟨va5, vc5, rfl⟩ := hn5.is
    have SP := hid (SP.out.step hp5)
    have N1 := hid (N1.out.grew hp5.2)
    have N5 := hid hn5
    have G := hid (show s.at_ + 1 ≤ s5.at_ ∧ s5.at_ ≤ ws.length by have h1 := G.out; have h2 := hg5.on; have h3 := hg5.lt; dsimp only at h2 h3; omega)
    have L5 := hid (show l5.length ≤ 20000 by have h2 := hg5.len; have h3 := hg5.lt; have h4 := SP.out.1.few; dsimp only [accN] at h2 h3; omega)
    have Q5 := hid ht5
    clear hp5 hg5 ht5 hn5
    go_wp2_with fail
    refine (put2_calls SP.out.1 14 0 0 ⟨#[]⟩ ⟨#[]⟩ ⟨#[]⟩ N1.out N5.out ⟨brief_e, brief_e, brief_e⟩ ⟨L1.out, L5.out⟩).mono ?_
    rintro e X6 ⟨v6, rfl, hn6, hb6⟩
    have SP := hid (SP.out.below hb6)
    have N6 := hid hn6
    clear hb6 hn6
    go_wp2_with fail
    go_ret
    have hE : spz ws (f + 1) .comp s = (putN ⟨14, 0, ⟨#[]⟩, ⟨#[]⟩, ⟨#[]⟩, 0⟩ [l1, l5], s5) := by
      show compS ws (spz ws f) s = _
      refine (bind_eq Q1.out).trans ?_
      refine (or_t Z3.out.1 Q4.out).trans ?_
      refine (bind_eq Q5.out).trans ?_
      rfl
    rw [hE]
    exact ⟨v6, rfl, N6.out, SP.out⟩
  have hx2gEq : (u2.toList == ([61] : List UInt8)) = false := by simpa using hgEq2
  clear hgEq2
  have hgEq2 := hx2gEq
  clear hx2gEq
  have hz7 : seesS ws s1 gEq = false := by unfold seesS; rw [HU2.out]; exact hgEq2
  have Z7 := hid hz7
  clear hz7
  by_cases hgLt2 : (u2.toList == ([60] : List UInt8)) = true
  · have hz8 : seesS ws s1 gLt = true := by unfold seesS; rw [HU2.out]; exact hgLt2
    have hl8 := sees_lt (by decide) hz8
    have Z8 := hid (And.intro hz8 hl8)
    clear hz8 hl8
    have q1 := cell_of_heap SP.out.1.blk 1
    have z1 := frozen_of_heap SP.out.1.blk 1
    simp at q1
    have HWr := hid SP.out.wrap
    have hn9 := SP.out.next Z8.out.2
    obtain ⟨s9, hs9⟩ : ∃ x, s1.next = x := ⟨_, rfl⟩
    have hc9 : s9.at_ = s1.at_ + 1 := by rw [← hs9]; rfl
    rw [hs9] at hn9
    have GR9 := hid (grew_set (d := d) X2 1 (.int .i64 ((s1.at_ + 1 : Nat) : Int)))
    obtain ⟨X9, hX9⟩ : ∃ Y, X2.setCell ⟨d.B, 1, none⟩ (.int .i64 ((s1.at_ + 1 : Nat) : Int)) = Y := ⟨_, rfl⟩
    rw [hX9] at hn9 GR9
    have HX9 := hid hX9
    have N1 := hid (N1.out.grew GR9.out)
    have G := hid (show s.at_ + 1 ≤ s9.at_ ∧ s9.at_ ≤ ws.length by have h1 := G.out; have h2 := Z8.out.2; omega)
    have SPn := hid hn9
    have Q9 := hid hs9
    clear hn9 hs9 hc9 hX9 GR9
    go_wp2_with fail
    rw [HWr.out, HX9.out]
    have SP := SPn
    clear SPn HWr q1 z1 HX9
    refine (HC.out.sum s9 X9 SP.out.1 (by have h1 := G.out; have h2 := HM.out; simp only [ms, lvN] at h2 ⊢; omega)).mono ?_
    rintro e X10 ⟨v10, rfl, hn10, hp10⟩
    have hg10 := goes_at (ws := ws) BW.out f .sum trivial SP.out.1.lt
    obtain ⟨l10, s10, ht10⟩ : ∃ a b, spz ws f .sum s9 = (a, b) := ⟨_, _, rfl⟩
    rw [ht10] at hp10 hg10 hn10
    dsimp only at hp10 hn10
    obtain ⟨va10, vc10, rfl⟩ := hn10.is
    have SP := hid (SP.out.step hp10)
    have N1 := hid (N1.out.grew hp10.2)
    have N10 := hid hn10
    have G := hid (show s.at_ + 1 ≤ s10.at_ ∧ s10.at_ ≤ ws.length by have h1 := G.out; have h2 := hg10.on; have h3 := hg10.lt; dsimp only at h2 h3; omega)
    have L10 := hid (show l10.length ≤ 20000 by have h2 := hg10.len; have h3 := hg10.lt; have h4 := SP.out.1.few; dsimp only [accN] at h2 h3; omega)
    have Q10 := hid ht10
    clear hp10 hg10 ht10 hn10
    go_wp2_with fail
    refine (put2_calls SP.out.1 15 0 0 ⟨#[]⟩ ⟨#[]⟩ ⟨#[]⟩ N1.out N10.out ⟨brief_e, brief_e, brief_e⟩ ⟨L1.out, L10.out⟩).mono ?_
    rintro e X11 ⟨v11, rfl, hn11, hb11⟩
    have SP := hid (SP.out.below hb11)
    have N11 := hid hn11
    clear hb11 hn11
    go_wp2_with fail
    go_ret
    have hE : spz ws (f + 1) .comp s = (putN ⟨15, 0, ⟨#[]⟩, ⟨#[]⟩, ⟨#[]⟩, 0⟩ [l1, l10], s10) := by
      show compS ws (spz ws f) s = _
      refine (bind_eq Q1.out).trans ?_
      refine (or_f Z7.out).trans ?_
      refine (or_t Z8.out.1 Q9.out).trans ?_
      refine (bind_eq Q10.out).trans ?_
      rfl
    rw [hE]
    exact ⟨v11, rfl, N11.out, SP.out⟩
  have hx2gLt : (u2.toList == ([60] : List UInt8)) = false := by simpa using hgLt2
  clear hgLt2
  have hgLt2 := hx2gLt
  clear hx2gLt
  have hz12 : seesS ws s1 gLt = false := by unfold seesS; rw [HU2.out]; exact hgLt2
  have Z12 := hid hz12
  clear hz12
  go_wp2_with fail
  go_ret
  have hE : spz ws (f + 1) .comp s = (l1, s1) := by
    show compS ws (spz ws f) s = _
    refine (bind_eq Q1.out).trans ?_
    refine (or_f Z7.out).trans ?_
    refine (or_f Z12.out).trans ?_
    rfl
  rw [hE]
  exact ⟨_, rfl, N1.out, SP.out⟩

set_option maxHeartbeats 8000000 in
set_option maxRecDepth 100000 in
theorem plet_calls (hw : BriefW ws) {f : Nat} (hc : PcAll d ws ad cp f) (s : Ps) (W : World) (h : PsAt d ws ad cp s W) (hlt : s.at_ < ws.length) (hm : ms ws .expr s ≤ f + 1) :
    Calls Tryz.prog 31 #[.pointer (some ⟨d.B, 0, none⟩)] W (PostN d ws ad cp (orS ws kRec (recS' ws (spz ws f)) (letS' ws (spz ws f)) s.next) W) := by
  have SP := hid (StepP.start h)
  have HC := hid hc
  have HM := hid hm
  have BW := hid hw
  have G := hid (show s.at_ + 0 ≤ s.at_ ∧ s.at_ ≤ ws.length from ⟨Nat.le_refl _, h.lt⟩)
  have LT := hid hlt
  clear h hc hm hw hlt
  go_enter Tryz.func31, Tryz.ntmps31
  have q1 := cell_of_heap SP.out.1.blk 1
  have z1 := frozen_of_heap SP.out.1.blk 1
  simp at q1
  have HWr := hid SP.out.wrap
  have hn1 := SP.out.next LT.out
  obtain ⟨s1, hs1⟩ : ∃ x, s.next = x := ⟨_, rfl⟩
  have hc1 : s1.at_ = s.at_ + 1 := by rw [← hs1]; rfl
  rw [hs1] at hn1
  have GR1 := hid (grew_set (d := d) W 1 (.int .i64 ((s.at_ + 1 : Nat) : Int)))
  obtain ⟨X1, hX1⟩ : ∃ Y, W.setCell ⟨d.B, 1, none⟩ (.int .i64 ((s.at_ + 1 : Nat) : Int)) = Y := ⟨_, rfl⟩
  rw [hX1] at hn1 GR1
  have HX1 := hid hX1
  have G := hid (show s.at_ + 1 ≤ s1.at_ ∧ s1.at_ ≤ ws.length by have h1 := G.out; have h2 := LT.out; omega)
  have SPn := hid hn1
  have Q1 := hid hs1
  clear hn1 hs1 hc1 hX1 GR1
  go_wp2_with fail
  rw [HWr.out, HX1.out]
  have SP := SPn
  clear SPn HWr q1 z1 HX1
  go_wp2_with fail
  refine (text_calls s1 X1 SP.out.1).mono ?_
  rintro e X2 ⟨rfl, hb2⟩
  have SP := hid (SP.out.below hb2)
  obtain ⟨u2, hu2⟩ : ∃ u, txt ws s1 = u := ⟨_, rfl⟩
  rw [hu2]
  have HU2 := hid hu2
  clear hb2 hu2
  by_cases hkRec2 : (u2.toList == ([114, 101, 99] : List UInt8)) = true
  · have hz3 : seesS ws s1 kRec = true := by unfold seesS; rw [HU2.out]; exact hkRec2
    have hl3 := sees_lt (by decide) hz3
    have Z3 := hid (And.intro hz3 hl3)
    clear hz3 hl3
    have q1 := cell_of_heap SP.out.1.blk 1
    have z1 := frozen_of_heap SP.out.1.blk 1
    simp at q1
    have HWr := hid SP.out.wrap
    have hn4 := SP.out.next Z3.out.2
    obtain ⟨s4, hs4⟩ : ∃ x, s1.next = x := ⟨_, rfl⟩
    have hc4 : s4.at_ = s1.at_ + 1 := by rw [← hs4]; rfl
    rw [hs4] at hn4
    have GR4 := hid (grew_set (d := d) X2 1 (.int .i64 ((s1.at_ + 1 : Nat) : Int)))
    obtain ⟨X4, hX4⟩ : ∃ Y, X2.setCell ⟨d.B, 1, none⟩ (.int .i64 ((s1.at_ + 1 : Nat) : Int)) = Y := ⟨_, rfl⟩
    rw [hX4] at hn4 GR4
    have HX4 := hid hX4
    have G := hid (show s.at_ + 2 ≤ s4.at_ ∧ s4.at_ ≤ ws.length by have h1 := G.out; have h2 := Z3.out.2; omega)
    have SPn := hid hn4
    have Q4 := hid hs4
    clear hn4 hs4 hc4 hX4 GR4
    go_wp2_with fail
    rw [HWr.out, HX4.out]
    have SP := SPn
    clear SPn HWr q1 z1 HX4
    refine (pname_calls s4 X4 SP.out.1).mono ?_
    rintro e X5 ⟨rfl, hp5⟩
    have hg5 := name_goes (ws := ws) BW.out SP.out.1.lt
    obtain ⟨n5, s5, ht5⟩ : ∃ a b, nameS ws s4 = (a, b) := ⟨_, _, rfl⟩
    rw [ht5] at hp5 hg5 ⊢
    have SP := hid (SP.out.step hp5)
    have G := hid (show s.at_ + 2 ≤ s5.at_ ∧ s5.at_ ≤ ws.length by have h1 := G.out; have h2 := hg5.1; have h3 := hg5.2.1; dsimp only at h2 h3; omega)
    have B5 := hid hg5.2.2
    have Q5 := hid ht5
    clear hp5 hg5 ht5
    dsimp only
    go_wp2_with fail
    refine (pname_calls s5 X5 SP.out.1).mono ?_
    rintro e X6 ⟨rfl, hp6⟩
    have hg6 := name_goes (ws := ws) BW.out SP.out.1.lt
    obtain ⟨n6, s6, ht6⟩ : ∃ a b, nameS ws s5 = (a, b) := ⟨_, _, rfl⟩
    rw [ht6] at hp6 hg6 ⊢
    have SP := hid (SP.out.step hp6)
    have G := hid (show s.at_ + 2 ≤ s6.at_ ∧ s6.at_ ≤ ws.length by have h1 := G.out; have h2 := hg6.1; have h3 := hg6.2.1; dsimp only at h2 h3; omega)
    have B6 := hid hg6.2.2
    have Q6 := hid ht6
    clear hp6 hg6 ht6
    dsimp only
    go_wp2_with fail
    refine (takeK_calls s6 ⟨#[61]⟩ gEq (by kernel_rfl) (by decide) X6 SP.out.1).mono ?_
    rintro e X7 ⟨⟨x7, rfl⟩, hp7⟩
    have hg7 := take_goes (ws := ws) (l := gEq) (by decide) SP.out.1.lt
    obtain ⟨s7, ht7⟩ : ∃ x, (takeS ws gEq s6).2 = x := ⟨_, rfl⟩
    rw [ht7] at hp7 hg7
    have SP := hid (SP.out.step hp7)
    have G := hid (show s.at_ + 2 ≤ s7.at_ ∧ s7.at_ ≤ ws.length by have h1 := G.out; omega)
    have Q7 := hid ht7
    clear hp7 hg7 ht7
    go_wp2_with fail
    refine (HC.out.expr s7 X7 SP.out.1 (by have h1 := G.out; have h2 := HM.out; simp only [ms, lvN] at h2 ⊢; omega)).mono ?_
    rintro e X8 ⟨v8, rfl, hn8, hp8⟩
    have hg8 := goes_at (ws := ws) BW.out f .expr trivial SP.out.1.lt
    obtain ⟨l8, s8, ht8⟩ : ∃ a b, spz ws f .expr s7 = (a, b) := ⟨_, _, rfl⟩
    rw [ht8] at hp8 hg8 hn8
    dsimp only at hp8 hn8
    obtain ⟨va8, vc8, rfl⟩ := hn8.is
    have SP := hid (SP.out.step hp8)
    have N8 := hid hn8
    have G := hid (show s.at_ + 2 ≤ s8.at_ ∧ s8.at_ ≤ ws.length by have h1 := G.out; have h2 := hg8.on; have h3 := hg8.lt; dsimp only at h2 h3; omega)
    have L8 := hid (show l8.length ≤ 20000 by have h2 := hg8.len; have h3 := hg8.lt; have h4 := SP.out.1.few; dsimp only [accN] at h2 h3; omega)
    have Q8 := hid ht8
    clear hp8 hg8 ht8 hn8
    go_wp2_with fail
    refine (takeK_calls s8 ⟨#[105, 110]⟩ kIn (by kernel_rfl) (by decide) X8 SP.out.1).mono ?_
    rintro e X9 ⟨⟨x9, rfl⟩, hp9⟩
    have hg9 := take_goes (ws := ws) (l := kIn) (by decide) SP.out.1.lt
    obtain ⟨s9, ht9⟩ : ∃ x, (takeS ws kIn s8).2 = x := ⟨_, rfl⟩
    rw [ht9] at hp9 hg9
    have SP := hid (SP.out.step hp9)
    have N8 := hid (N8.out.grew hp9.2)
    have G := hid (show s.at_ + 2 ≤ s9.at_ ∧ s9.at_ ≤ ws.length by have h1 := G.out; omega)
    have Q9 := hid ht9
    clear hp9 hg9 ht9
    go_wp2_with fail
    refine (HC.out.expr s9 X9 SP.out.1 (by have h1 := G.out; have h2 := HM.out; simp only [ms, lvN] at h2 ⊢; omega)).mono ?_
    rintro e X10 ⟨v10, rfl, hn10, hp10⟩
    have hg10 := goes_at (ws := ws) BW.out f .expr trivial SP.out.1.lt
    obtain ⟨l10, s10, ht10⟩ : ∃ a b, spz ws f .expr s9 = (a, b) := ⟨_, _, rfl⟩
    rw [ht10] at hp10 hg10 hn10
    dsimp only at hp10 hn10
    obtain ⟨va10, vc10, rfl⟩ := hn10.is
    have SP := hid (SP.out.step hp10)
    have N8 := hid (N8.out.grew hp10.2)
    have N10 := hid hn10
    have G := hid (show s.at_ + 2 ≤ s10.at_ ∧ s10.at_ ≤ ws.length by have h1 := G.out; have h2 := hg10.on; have h3 := hg10.lt; dsimp only at h2 h3; omega)
    have L10 := hid (show l10.length ≤ 20000 by have h2 := hg10.len; have h3 := hg10.lt; have h4 := SP.out.1.few; dsimp only [accN] at h2 h3; omega)
    have Q10 := hid ht10
    clear hp10 hg10 ht10 hn10
    go_wp2_with fail
    refine (put2_calls SP.out.1 9 0 0 n5 n6 ⟨#[]⟩ N8.out N10.out ⟨B5.out, B6.out, brief_e⟩ ⟨L8.out, L10.out⟩).mono ?_
    rintro e X11 ⟨v11, rfl, hn11, hb11⟩
    have SP := hid (SP.out.below hb11)
    have N11 := hid hn11
    clear hb11 hn11
    go_wp2_with fail
    go_ret
    have hE : orS ws kRec (recS' ws (spz ws f)) (letS' ws (spz ws f)) s.next = (putN ⟨9, 0, n5, n6, ⟨#[]⟩, 0⟩ [l8, l10], s10) := by
      rw [Q1.out]
      refine (or_t Z3.out.1 Q4.out).trans ?_
      refine (bind_eq Q5.out).trans ?_
      refine (bind_eq Q6.out).trans ?_
      refine (bind_take Q7.out).trans ?_
      refine (bind_eq Q8.out).trans ?_
      refine (bind_take Q9.out).trans ?_
      refine (bind_eq Q10.out).trans ?_
      rfl
    rw [hE]
    exact ⟨v11, rfl, N11.out, SP.out⟩
  have hx2kRec : (u2.toList == ([114, 101, 99] : List UInt8)) = false := by simpa using hkRec2
  clear hkRec2
  have hkRec2 := hx2kRec
  clear hx2kRec
  have hz12 : seesS ws s1 kRec = false := by unfold seesS; rw [HU2.out]; exact hkRec2
  have Z12 := hid hz12
  clear hz12
  go_wp2_with fail
  refine (pname_calls s1 X2 SP.out.1).mono ?_
  rintro e X13 ⟨rfl, hp13⟩
  have hg13 := name_goes (ws := ws) BW.out SP.out.1.lt
  obtain ⟨n13, s13, ht13⟩ : ∃ a b, nameS ws s1 = (a, b) := ⟨_, _, rfl⟩
  rw [ht13] at hp13 hg13 ⊢
  have SP := hid (SP.out.step hp13)
  have G := hid (show s.at_ + 1 ≤ s13.at_ ∧ s13.at_ ≤ ws.length by have h1 := G.out; have h2 := hg13.1; have h3 := hg13.2.1; dsimp only at h2 h3; omega)
  have B13 := hid hg13.2.2
  have Q13 := hid ht13
  clear hp13 hg13 ht13
  dsimp only
  go_wp2_with fail
  refine (takeK_calls s13 ⟨#[61]⟩ gEq (by kernel_rfl) (by decide) X13 SP.out.1).mono ?_
  rintro e X14 ⟨⟨x14, rfl⟩, hp14⟩
  have hg14 := take_goes (ws := ws) (l := gEq) (by decide) SP.out.1.lt
  obtain ⟨s14, ht14⟩ : ∃ x, (takeS ws gEq s13).2 = x := ⟨_, rfl⟩
  rw [ht14] at hp14 hg14
  have SP := hid (SP.out.step hp14)
  have G := hid (show s.at_ + 1 ≤ s14.at_ ∧ s14.at_ ≤ ws.length by have h1 := G.out; omega)
  have Q14 := hid ht14
  clear hp14 hg14 ht14
  go_wp2_with fail
  refine (HC.out.expr s14 X14 SP.out.1 (by have h1 := G.out; have h2 := HM.out; simp only [ms, lvN] at h2 ⊢; omega)).mono ?_
  rintro e X15 ⟨v15, rfl, hn15, hp15⟩
  have hg15 := goes_at (ws := ws) BW.out f .expr trivial SP.out.1.lt
  obtain ⟨l15, s15, ht15⟩ : ∃ a b, spz ws f .expr s14 = (a, b) := ⟨_, _, rfl⟩
  rw [ht15] at hp15 hg15 hn15
  dsimp only at hp15 hn15
  obtain ⟨va15, vc15, rfl⟩ := hn15.is
  have SP := hid (SP.out.step hp15)
  have N15 := hid hn15
  have G := hid (show s.at_ + 1 ≤ s15.at_ ∧ s15.at_ ≤ ws.length by have h1 := G.out; have h2 := hg15.on; have h3 := hg15.lt; dsimp only at h2 h3; omega)
  have L15 := hid (show l15.length ≤ 20000 by have h2 := hg15.len; have h3 := hg15.lt; have h4 := SP.out.1.few; dsimp only [accN] at h2 h3; omega)
  have Q15 := hid ht15
  clear hp15 hg15 ht15 hn15
  go_wp2_with fail
  refine (takeK_calls s15 ⟨#[105, 110]⟩ kIn (by kernel_rfl) (by decide) X15 SP.out.1).mono ?_
  rintro e X16 ⟨⟨x16, rfl⟩, hp16⟩
  have hg16 := take_goes (ws := ws) (l := kIn) (by decide) SP.out.1.lt
  obtain ⟨s16, ht16⟩ : ∃ x, (takeS ws kIn s15).2 = x := ⟨_, rfl⟩
  rw [ht16] at hp16 hg16
  have SP := hid (SP.out.step hp16)
  have N15 := hid (N15.out.grew hp16.2)
  have G := hid (show s.at_ + 1 ≤ s16.at_ ∧ s16.at_ ≤ ws.length by have h1 := G.out; omega)
  have Q16 := hid ht16
  clear hp16 hg16 ht16
  go_wp2_with fail
  refine (HC.out.expr s16 X16 SP.out.1 (by have h1 := G.out; have h2 := HM.out; simp only [ms, lvN] at h2 ⊢; omega)).mono ?_
  rintro e X17 ⟨v17, rfl, hn17, hp17⟩
  have hg17 := goes_at (ws := ws) BW.out f .expr trivial SP.out.1.lt
  obtain ⟨l17, s17, ht17⟩ : ∃ a b, spz ws f .expr s16 = (a, b) := ⟨_, _, rfl⟩
  rw [ht17] at hp17 hg17 hn17
  dsimp only at hp17 hn17
  obtain ⟨va17, vc17, rfl⟩ := hn17.is
  have SP := hid (SP.out.step hp17)
  have N15 := hid (N15.out.grew hp17.2)
  have N17 := hid hn17
  have G := hid (show s.at_ + 1 ≤ s17.at_ ∧ s17.at_ ≤ ws.length by have h1 := G.out; have h2 := hg17.on; have h3 := hg17.lt; dsimp only at h2 h3; omega)
  have L17 := hid (show l17.length ≤ 20000 by have h2 := hg17.len; have h3 := hg17.lt; have h4 := SP.out.1.few; dsimp only [accN] at h2 h3; omega)
  have Q17 := hid ht17
  clear hp17 hg17 ht17 hn17
  go_wp2_with fail
  refine (put2_calls SP.out.1 8 0 0 n13 ⟨#[]⟩ ⟨#[]⟩ N15.out N17.out ⟨B13.out, brief_e, brief_e⟩ ⟨L15.out, L17.out⟩).mono ?_
  rintro e X18 ⟨v18, rfl, hn18, hb18⟩
  have SP := hid (SP.out.below hb18)
  have N18 := hid hn18
  clear hb18 hn18
  go_wp2_with fail
  go_ret
  have hE : orS ws kRec (recS' ws (spz ws f)) (letS' ws (spz ws f)) s.next = (putN ⟨8, 0, n13, ⟨#[]⟩, ⟨#[]⟩, 0⟩ [l15, l17], s17) := by
    rw [Q1.out]
    refine (or_f Z12.out).trans ?_
    refine (bind_eq Q13.out).trans ?_
    refine (bind_take Q14.out).trans ?_
    refine (bind_eq Q15.out).trans ?_
    refine (bind_take Q16.out).trans ?_
    refine (bind_eq Q17.out).trans ?_
    rfl
  rw [hE]
  exact ⟨v18, rfl, N18.out, SP.out⟩

set_option maxHeartbeats 8000000 in
set_option maxRecDepth 100000 in
theorem pexpr_calls (hw : BriefW ws) {f : Nat} (hc : PcAll d ws ad cp f) (s : Ps) (W : World) (h : PsAt d ws ad cp s W) (hm : ms ws .expr s ≤ f + 1) :
    Calls Tryz.prog 12 #[.pointer (some ⟨d.B, 0, none⟩)] W (PostN d ws ad cp (spz ws (f + 1) .expr s) W) := by
  have SP := hid (StepP.start h)
  have HC := hid hc
  have HM := hid hm
  have BW := hid hw
  have G := hid (show s.at_ + 0 ≤ s.at_ ∧ s.at_ ≤ ws.length from ⟨Nat.le_refl _, h.lt⟩)
  clear h hc hm hw
  go_enter Tryz.func12, Tryz.ntmps12
  go_wp2_with fail
  refine (text_calls s W SP.out.1).mono ?_
  rintro e X1 ⟨rfl, hb1⟩
  have SP := hid (SP.out.below hb1)
  obtain ⟨u1, hu1⟩ : ∃ u, txt ws s = u := ⟨_, rfl⟩
  rw [hu1]
  have HU1 := hid hu1
  clear hb1 hu1
  by_cases hkLet1 : (u1.toList == ([108, 101, 116] : List UInt8)) = true
  · have hz2 : seesS ws s kLet = true := by unfold seesS; rw [HU1.out]; exact hkLet1
    have hl2 := sees_lt (by decide) hz2
    have Z2 := hid (And.intro hz2 hl2)
    clear hz2 hl2
    go_wp2_with fail
    refine (plet_calls BW.out HC.out s X1 SP.out.1 Z2.out.2 (by have h2 := HM.out; exact h2)).mono ?_
    rintro e X3 ⟨v3, rfl, hn3, hp3⟩
    obtain ⟨l3, s3, ht3⟩ : ∃ a b, orS ws kRec (recS' ws (spz ws f)) (letS' ws (spz ws f)) s.next = (a, b) := ⟨_, _, rfl⟩
    rw [ht3] at hn3 hp3
    have SP := hid (SP.out.step hp3)
    have N3 := hid hn3
    have Q3 := hid ht3
    clear hn3 hp3 ht3
    go_wp2_with fail
    go_ret
    have hE : spz ws (f + 1) .expr s = (l3, s3) := by
      show exprS ws (spz ws f) s = _
      refine (or_t Z2.out.1 rfl).trans ?_
      exact Q3.out
    rw [hE]
    exact ⟨v3, rfl, N3.out, SP.out⟩
  have hx1kLet : (u1.toList == ([108, 101, 116] : List UInt8)) = false := by simpa using hkLet1
  clear hkLet1
  have hkLet1 := hx1kLet
  clear hx1kLet
  have hz4 : seesS ws s kLet = false := by unfold seesS; rw [HU1.out]; exact hkLet1
  have Z4 := hid hz4
  clear hz4
  by_cases hkIf1 : (u1.toList == ([105, 102] : List UInt8)) = true
  · have hz5 : seesS ws s kIf = true := by unfold seesS; rw [HU1.out]; exact hkIf1
    have hl5 := sees_lt (by decide) hz5
    have Z5 := hid (And.intro hz5 hl5)
    clear hz5 hl5
    have q1 := cell_of_heap SP.out.1.blk 1
    have z1 := frozen_of_heap SP.out.1.blk 1
    simp at q1
    have HWr := hid SP.out.wrap
    have hn6 := SP.out.next Z5.out.2
    obtain ⟨s6, hs6⟩ : ∃ x, s.next = x := ⟨_, rfl⟩
    have hc6 : s6.at_ = s.at_ + 1 := by rw [← hs6]; rfl
    rw [hs6] at hn6
    have GR6 := hid (grew_set (d := d) X1 1 (.int .i64 ((s.at_ + 1 : Nat) : Int)))
    obtain ⟨X6, hX6⟩ : ∃ Y, X1.setCell ⟨d.B, 1, none⟩ (.int .i64 ((s.at_ + 1 : Nat) : Int)) = Y := ⟨_, rfl⟩
    rw [hX6] at hn6 GR6
    have HX6 := hid hX6
    have G := hid (show s.at_ + 1 ≤ s6.at_ ∧ s6.at_ ≤ ws.length by have h1 := G.out; have h2 := Z5.out.2; omega)
    have SPn := hid hn6
    have Q6 := hid hs6
    clear hn6 hs6 hc6 hX6 GR6
    go_wp2_with fail
    rw [HWr.out, HX6.out]
    have SP := SPn
    clear SPn HWr q1 z1 HX6
    refine (HC.out.expr s6 X6 SP.out.1 (by have h1 := G.out; have h2 := HM.out; simp only [ms, lvN] at h2 ⊢; omega)).mono ?_
    rintro e X7 ⟨v7, rfl, hn7, hp7⟩
    have hg7 := goes_at (ws := ws) BW.out f .expr trivial SP.out.1.lt
    obtain ⟨l7, s7, ht7⟩ : ∃ a b, spz ws f .expr s6 = (a, b) := ⟨_, _, rfl⟩
    rw [ht7] at hp7 hg7 hn7
    dsimp only at hp7 hn7
    obtain ⟨va7, vc7, rfl⟩ := hn7.is
    have SP := hid (SP.out.step hp7)
    have N7 := hid hn7
    have G := hid (show s.at_ + 1 ≤ s7.at_ ∧ s7.at_ ≤ ws.length by have h1 := G.out; have h2 := hg7.on; have h3 := hg7.lt; dsimp only at h2 h3; omega)
    have L7 := hid (show l7.length ≤ 20000 by have h2 := hg7.len; have h3 := hg7.lt; have h4 := SP.out.1.few; dsimp only [accN] at h2 h3; omega)
    have Q7 := hid ht7
    clear hp7 hg7 ht7 hn7
    go_wp2_with fail
    refine (takeK_calls s7 ⟨#[116, 104, 101, 110]⟩ kThen (by kernel_rfl) (by decide) X7 SP.out.1).mono ?_
    rintro e X8 ⟨⟨x8, rfl⟩, hp8⟩
    have hg8 := take_goes (ws := ws) (l := kThen) (by decide) SP.out.1.lt
    obtain ⟨s8, ht8⟩ : ∃ x, (takeS ws kThen s7).2 = x := ⟨_, rfl⟩
    rw [ht8] at hp8 hg8
    have SP := hid (SP.out.step hp8)
    have N7 := hid (N7.out.grew hp8.2)
    have G := hid (show s.at_ + 1 ≤ s8.at_ ∧ s8.at_ ≤ ws.length by have h1 := G.out; omega)
    have Q8 := hid ht8
    clear hp8 hg8 ht8
    go_wp2_with fail
    refine (HC.out.expr s8 X8 SP.out.1 (by have h1 := G.out; have h2 := HM.out; simp only [ms, lvN] at h2 ⊢; omega)).mono ?_
    rintro e X9 ⟨v9, rfl, hn9, hp9⟩
    have hg9 := goes_at (ws := ws) BW.out f .expr trivial SP.out.1.lt
    obtain ⟨l9, s9, ht9⟩ : ∃ a b, spz ws f .expr s8 = (a, b) := ⟨_, _, rfl⟩
    rw [ht9] at hp9 hg9 hn9
    dsimp only at hp9 hn9
    obtain ⟨va9, vc9, rfl⟩ := hn9.is
    have SP := hid (SP.out.step hp9)
    have N7 := hid (N7.out.grew hp9.2)
    have N9 := hid hn9
    have G := hid (show s.at_ + 1 ≤ s9.at_ ∧ s9.at_ ≤ ws.length by have h1 := G.out; have h2 := hg9.on; have h3 := hg9.lt; dsimp only at h2 h3; omega)
    have L9 := hid (show l9.length ≤ 20000 by have h2 := hg9.len; have h3 := hg9.lt; have h4 := SP.out.1.few; dsimp only [accN] at h2 h3; omega)
    have Q9 := hid ht9
    clear hp9 hg9 ht9 hn9
    go_wp2_with fail
    refine (takeK_calls s9 ⟨#[101, 108, 115, 101]⟩ kElse (by kernel_rfl) (by decide) X9 SP.out.1).mono ?_
    rintro e X10 ⟨⟨x10, rfl⟩, hp10⟩
    have hg10 := take_goes (ws := ws) (l := kElse) (by decide) SP.out.1.lt
    obtain ⟨s10, ht10⟩ : ∃ x, (takeS ws kElse s9).2 = x := ⟨_, rfl⟩
    rw [ht10] at hp10 hg10
    have SP := hid (SP.out.step hp10)
    have N7 := hid (N7.out.grew hp10.2)
    have N9 := hid (N9.out.grew hp10.2)
    have G := hid (show s.at_ + 1 ≤ s10.at_ ∧ s10.at_ ≤ ws.length by have h1 := G.out; omega)
    have Q10 := hid ht10
    clear hp10 hg10 ht10
    go_wp2_with fail
    refine (HC.out.expr s10 X10 SP.out.1 (by have h1 := G.out; have h2 := HM.out; simp only [ms, lvN] at h2 ⊢; omega)).mono ?_
    rintro e X11 ⟨v11, rfl, hn11, hp11⟩
    have hg11 := goes_at (ws := ws) BW.out f .expr trivial SP.out.1.lt
    obtain ⟨l11, s11, ht11⟩ : ∃ a b, spz ws f .expr s10 = (a, b) := ⟨_, _, rfl⟩
    rw [ht11] at hp11 hg11 hn11
    dsimp only at hp11 hn11
    obtain ⟨va11, vc11, rfl⟩ := hn11.is
    have SP := hid (SP.out.step hp11)
    have N7 := hid (N7.out.grew hp11.2)
    have N9 := hid (N9.out.grew hp11.2)
    have N11 := hid hn11
    have G := hid (show s.at_ + 1 ≤ s11.at_ ∧ s11.at_ ≤ ws.length by have h1 := G.out; have h2 := hg11.on; have h3 := hg11.lt; dsimp only at h2 h3; omega)
    have L11 := hid (show l11.length ≤ 20000 by have h2 := hg11.len; have h3 := hg11.lt; have h4 := SP.out.1.few; dsimp only [accN] at h2 h3; omega)
    have Q11 := hid ht11
    clear hp11 hg11 ht11 hn11
    go_wp2_with fail
    refine (put3_calls SP.out.1 10 0 0 ⟨#[]⟩ ⟨#[]⟩ ⟨#[]⟩ N7.out N9.out N11.out ⟨brief_e, brief_e, brief_e⟩ ⟨L7.out, L9.out, L11.out⟩).mono ?_
    rintro e X12 ⟨v12, rfl, hn12, hb12⟩
    have SP := hid (SP.out.below hb12)
    have N12 := hid hn12
    clear hb12 hn12
    go_wp2_with fail
    go_ret
    have hE : spz ws (f + 1) .expr s = (putN ⟨10, 0, ⟨#[]⟩, ⟨#[]⟩, ⟨#[]⟩, 0⟩ [l7, l9, l11], s11) := by
      show exprS ws (spz ws f) s = _
      refine (or_f Z4.out).trans ?_
      refine (or_t Z5.out.1 Q6.out).trans ?_
      refine (bind_eq Q7.out).trans ?_
      refine (bind_take Q8.out).trans ?_
      refine (bind_eq Q9.out).trans ?_
      refine (bind_take Q10.out).trans ?_
      refine (bind_eq Q11.out).trans ?_
      rfl
    rw [hE]
    exact ⟨v12, rfl, N12.out, SP.out⟩
  have hx1kIf : (u1.toList == ([105, 102] : List UInt8)) = false := by simpa using hkIf1
  clear hkIf1
  have hkIf1 := hx1kIf
  clear hx1kIf
  have hz13 : seesS ws s kIf = false := by unfold seesS; rw [HU1.out]; exact hkIf1
  have Z13 := hid hz13
  clear hz13
  by_cases hkFn1 : (u1.toList == ([102, 110] : List UInt8)) = true
  · have hz14 : seesS ws s kFn = true := by unfold seesS; rw [HU1.out]; exact hkFn1
    have hl14 := sees_lt (by decide) hz14
    have Z14 := hid (And.intro hz14 hl14)
    clear hz14 hl14
    have q1 := cell_of_heap SP.out.1.blk 1
    have z1 := frozen_of_heap SP.out.1.blk 1
    simp at q1
    have HWr := hid SP.out.wrap
    have hn15 := SP.out.next Z14.out.2
    obtain ⟨s15, hs15⟩ : ∃ x, s.next = x := ⟨_, rfl⟩
    have hc15 : s15.at_ = s.at_ + 1 := by rw [← hs15]; rfl
    rw [hs15] at hn15
    have GR15 := hid (grew_set (d := d) X1 1 (.int .i64 ((s.at_ + 1 : Nat) : Int)))
    obtain ⟨X15, hX15⟩ : ∃ Y, X1.setCell ⟨d.B, 1, none⟩ (.int .i64 ((s.at_ + 1 : Nat) : Int)) = Y := ⟨_, rfl⟩
    rw [hX15] at hn15 GR15
    have HX15 := hid hX15
    have G := hid (show s.at_ + 1 ≤ s15.at_ ∧ s15.at_ ≤ ws.length by have h1 := G.out; have h2 := Z14.out.2; omega)
    have SPn := hid hn15
    have Q15 := hid hs15
    clear hn15 hs15 hc15 hX15 GR15
    go_wp2_with fail
    rw [HWr.out, HX15.out]
    have SP := SPn
    clear SPn HWr q1 z1 HX15
    refine (pname_calls s15 X15 SP.out.1).mono ?_
    rintro e X16 ⟨rfl, hp16⟩
    have hg16 := name_goes (ws := ws) BW.out SP.out.1.lt
    obtain ⟨n16, s16, ht16⟩ : ∃ a b, nameS ws s15 = (a, b) := ⟨_, _, rfl⟩
    rw [ht16] at hp16 hg16 ⊢
    have SP := hid (SP.out.step hp16)
    have G := hid (show s.at_ + 1 ≤ s16.at_ ∧ s16.at_ ≤ ws.length by have h1 := G.out; have h2 := hg16.1; have h3 := hg16.2.1; dsimp only at h2 h3; omega)
    have B16 := hid hg16.2.2
    have Q16 := hid ht16
    clear hp16 hg16 ht16
    dsimp only
    go_wp2_with fail
    refine (takeK_calls s16 ⟨#[45, 62]⟩ gTo (by kernel_rfl) (by decide) X16 SP.out.1).mono ?_
    rintro e X17 ⟨⟨x17, rfl⟩, hp17⟩
    have hg17 := take_goes (ws := ws) (l := gTo) (by decide) SP.out.1.lt
    obtain ⟨s17, ht17⟩ : ∃ x, (takeS ws gTo s16).2 = x := ⟨_, rfl⟩
    rw [ht17] at hp17 hg17
    have SP := hid (SP.out.step hp17)
    have G := hid (show s.at_ + 1 ≤ s17.at_ ∧ s17.at_ ≤ ws.length by have h1 := G.out; omega)
    have Q17 := hid ht17
    clear hp17 hg17 ht17
    go_wp2_with fail
    refine (HC.out.expr s17 X17 SP.out.1 (by have h1 := G.out; have h2 := HM.out; simp only [ms, lvN] at h2 ⊢; omega)).mono ?_
    rintro e X18 ⟨v18, rfl, hn18, hp18⟩
    have hg18 := goes_at (ws := ws) BW.out f .expr trivial SP.out.1.lt
    obtain ⟨l18, s18, ht18⟩ : ∃ a b, spz ws f .expr s17 = (a, b) := ⟨_, _, rfl⟩
    rw [ht18] at hp18 hg18 hn18
    dsimp only at hp18 hn18
    obtain ⟨va18, vc18, rfl⟩ := hn18.is
    have SP := hid (SP.out.step hp18)
    have N18 := hid hn18
    have G := hid (show s.at_ + 1 ≤ s18.at_ ∧ s18.at_ ≤ ws.length by have h1 := G.out; have h2 := hg18.on; have h3 := hg18.lt; dsimp only at h2 h3; omega)
    have L18 := hid (show l18.length ≤ 20000 by have h2 := hg18.len; have h3 := hg18.lt; have h4 := SP.out.1.few; dsimp only [accN] at h2 h3; omega)
    have Q18 := hid ht18
    clear hp18 hg18 ht18 hn18
    go_wp2_with fail
    refine (put1_calls SP.out.1 6 0 0 n16 ⟨#[]⟩ ⟨#[]⟩ N18.out ⟨B16.out, brief_e, brief_e⟩ (by have h1 := L18.out; omega)).mono ?_
    rintro e X19 ⟨v19, rfl, hn19, hb19⟩
    have SP := hid (SP.out.below hb19)
    have N19 := hid hn19
    clear hb19 hn19
    go_wp2_with fail
    go_ret
    have hE : spz ws (f + 1) .expr s = (putN ⟨6, 0, n16, ⟨#[]⟩, ⟨#[]⟩, 0⟩ [l18], s18) := by
      show exprS ws (spz ws f) s = _
      refine (or_f Z4.out).trans ?_
      refine (or_f Z13.out).trans ?_
      refine (or_t Z14.out.1 Q15.out).trans ?_
      refine (bind_eq Q16.out).trans ?_
      refine (bind_take Q17.out).trans ?_
      refine (bind_eq Q18.out).trans ?_
      rfl
    rw [hE]
    exact ⟨v19, rfl, N19.out, SP.out⟩
  have hx1kFn : (u1.toList == ([102, 110] : List UInt8)) = false := by simpa using hkFn1
  clear hkFn1
  have hkFn1 := hx1kFn
  clear hx1kFn
  have hz20 : seesS ws s kFn = false := by unfold seesS; rw [HU1.out]; exact hkFn1
  have Z20 := hid hz20
  clear hz20
  by_cases hkCase1 : (u1.toList == ([99, 97, 115, 101] : List UInt8)) = true
  · have hz21 : seesS ws s kCase = true := by unfold seesS; rw [HU1.out]; exact hkCase1
    have hl21 := sees_lt (by decide) hz21
    have Z21 := hid (And.intro hz21 hl21)
    clear hz21 hl21
    have q1 := cell_of_heap SP.out.1.blk 1
    have z1 := frozen_of_heap SP.out.1.blk 1
    simp at q1
    have HWr := hid SP.out.wrap
    have hn22 := SP.out.next Z21.out.2
    obtain ⟨s22, hs22⟩ : ∃ x, s.next = x := ⟨_, rfl⟩
    have hc22 : s22.at_ = s.at_ + 1 := by rw [← hs22]; rfl
    rw [hs22] at hn22
    have GR22 := hid (grew_set (d := d) X1 1 (.int .i64 ((s.at_ + 1 : Nat) : Int)))
    obtain ⟨X22, hX22⟩ : ∃ Y, X1.setCell ⟨d.B, 1, none⟩ (.int .i64 ((s.at_ + 1 : Nat) : Int)) = Y := ⟨_, rfl⟩
    rw [hX22] at hn22 GR22
    have HX22 := hid hX22
    have G := hid (show s.at_ + 1 ≤ s22.at_ ∧ s22.at_ ≤ ws.length by have h1 := G.out; have h2 := Z21.out.2; omega)
    have SPn := hid hn22
    have Q22 := hid hs22
    clear hn22 hs22 hc22 hX22 GR22
    go_wp2_with fail
    rw [HWr.out, HX22.out]
    have SP := SPn
    clear SPn HWr q1 z1 HX22
    refine (HC.out.expr s22 X22 SP.out.1 (by have h1 := G.out; have h2 := HM.out; simp only [ms, lvN] at h2 ⊢; omega)).mono ?_
    rintro e X23 ⟨v23, rfl, hn23, hp23⟩
    have hg23 := goes_at (ws := ws) BW.out f .expr trivial SP.out.1.lt
    obtain ⟨l23, s23, ht23⟩ : ∃ a b, spz ws f .expr s22 = (a, b) := ⟨_, _, rfl⟩
    rw [ht23] at hp23 hg23 hn23
    dsimp only at hp23 hn23
    obtain ⟨va23, vc23, rfl⟩ := hn23.is
    have SP := hid (SP.out.step hp23)
    have N23 := hid hn23
    have G := hid (show s.at_ + 1 ≤ s23.at_ ∧ s23.at_ ≤ ws.length by have h1 := G.out; have h2 := hg23.on; have h3 := hg23.lt; dsimp only at h2 h3; omega)
    have L23 := hid (show l23.length ≤ 20000 by have h2 := hg23.len; have h3 := hg23.lt; have h4 := SP.out.1.few; dsimp only [accN] at h2 h3; omega)
    have Q23 := hid ht23
    clear hp23 hg23 ht23 hn23
    go_wp2_with fail
    refine (takeK_calls s23 ⟨#[111, 102]⟩ kOf (by kernel_rfl) (by decide) X23 SP.out.1).mono ?_
    rintro e X24 ⟨⟨x24, rfl⟩, hp24⟩
    have hg24 := take_goes (ws := ws) (l := kOf) (by decide) SP.out.1.lt
    obtain ⟨s24, ht24⟩ : ∃ x, (takeS ws kOf s23).2 = x := ⟨_, rfl⟩
    rw [ht24] at hp24 hg24
    have SP := hid (SP.out.step hp24)
    have N23 := hid (N23.out.grew hp24.2)
    have G := hid (show s.at_ + 1 ≤ s24.at_ ∧ s24.at_ ≤ ws.length by have h1 := G.out; omega)
    have Q24 := hid ht24
    clear hp24 hg24 ht24
    go_wp2_with fail
    refine (takeK_calls s24 ⟨#[110, 105, 108]⟩ kNil (by kernel_rfl) (by decide) X24 SP.out.1).mono ?_
    rintro e X25 ⟨⟨x25, rfl⟩, hp25⟩
    have hg25 := take_goes (ws := ws) (l := kNil) (by decide) SP.out.1.lt
    obtain ⟨s25, ht25⟩ : ∃ x, (takeS ws kNil s24).2 = x := ⟨_, rfl⟩
    rw [ht25] at hp25 hg25
    have SP := hid (SP.out.step hp25)
    have N23 := hid (N23.out.grew hp25.2)
    have G := hid (show s.at_ + 1 ≤ s25.at_ ∧ s25.at_ ≤ ws.length by have h1 := G.out; omega)
    have Q25 := hid ht25
    clear hp25 hg25 ht25
    go_wp2_with fail
    refine (takeK_calls s25 ⟨#[45, 62]⟩ gTo (by kernel_rfl) (by decide) X25 SP.out.1).mono ?_
    rintro e X26 ⟨⟨x26, rfl⟩, hp26⟩
    have hg26 := take_goes (ws := ws) (l := gTo) (by decide) SP.out.1.lt
    obtain ⟨s26, ht26⟩ : ∃ x, (takeS ws gTo s25).2 = x := ⟨_, rfl⟩
    rw [ht26] at hp26 hg26
    have SP := hid (SP.out.step hp26)
    have N23 := hid (N23.out.grew hp26.2)
    have G := hid (show s.at_ + 1 ≤ s26.at_ ∧ s26.at_ ≤ ws.length by have h1 := G.out; omega)
    have Q26 := hid ht26
    clear hp26 hg26 ht26
    go_wp2_with fail
    refine (HC.out.expr s26 X26 SP.out.1 (by have h1 := G.out; have h2 := HM.out; simp only [ms, lvN] at h2 ⊢; omega)).mono ?_
    rintro e X27 ⟨v27, rfl, hn27, hp27⟩
    have hg27 := goes_at (ws := ws) BW.out f .expr trivial SP.out.1.lt
    obtain ⟨l27, s27, ht27⟩ : ∃ a b, spz ws f .expr s26 = (a, b) := ⟨_, _, rfl⟩
    rw [ht27] at hp27 hg27 hn27
    dsimp only at hp27 hn27
    obtain ⟨va27, vc27, rfl⟩ := hn27.is
    have SP := hid (SP.out.step hp27)
    have N23 := hid (N23.out.grew hp27.2)
    have N27 := hid hn27
    have G := hid (show s.at_ + 1 ≤ s27.at_ ∧ s27.at_ ≤ ws.length by have h1 := G.out; have h2 := hg27.on; have h3 := hg27.lt; dsimp only at h2 h3; omega)
    have L27 := hid (show l27.length ≤ 20000 by have h2 := hg27.len; have h3 := hg27.lt; have h4 := SP.out.1.few; dsimp only [accN] at h2 h3; omega)
    have Q27 := hid ht27
    clear hp27 hg27 ht27 hn27
    go_wp2_with fail
    refine (takeK_calls s27 ⟨#[124]⟩ gBar (by kernel_rfl) (by decide) X27 SP.out.1).mono ?_
    rintro e X28 ⟨⟨x28, rfl⟩, hp28⟩
    have hg28 := take_goes (ws := ws) (l := gBar) (by decide) SP.out.1.lt
    obtain ⟨s28, ht28⟩ : ∃ x, (takeS ws gBar s27).2 = x := ⟨_, rfl⟩
    rw [ht28] at hp28 hg28
    have SP := hid (SP.out.step hp28)
    have N23 := hid (N23.out.grew hp28.2)
    have N27 := hid (N27.out.grew hp28.2)
    have G := hid (show s.at_ + 1 ≤ s28.at_ ∧ s28.at_ ≤ ws.length by have h1 := G.out; omega)
    have Q28 := hid ht28
    clear hp28 hg28 ht28
    go_wp2_with fail
    refine (pname_calls s28 X28 SP.out.1).mono ?_
    rintro e X29 ⟨rfl, hp29⟩
    have hg29 := name_goes (ws := ws) BW.out SP.out.1.lt
    obtain ⟨n29, s29, ht29⟩ : ∃ a b, nameS ws s28 = (a, b) := ⟨_, _, rfl⟩
    rw [ht29] at hp29 hg29 ⊢
    have SP := hid (SP.out.step hp29)
    have N23 := hid (N23.out.grew hp29.2)
    have N27 := hid (N27.out.grew hp29.2)
    have G := hid (show s.at_ + 1 ≤ s29.at_ ∧ s29.at_ ≤ ws.length by have h1 := G.out; have h2 := hg29.1; have h3 := hg29.2.1; dsimp only at h2 h3; omega)
    have B29 := hid hg29.2.2
    have Q29 := hid ht29
    clear hp29 hg29 ht29
    dsimp only
    go_wp2_with fail
    refine (takeK_calls s29 ⟨#[58, 58]⟩ gCons (by kernel_rfl) (by decide) X29 SP.out.1).mono ?_
    rintro e X30 ⟨⟨x30, rfl⟩, hp30⟩
    have hg30 := take_goes (ws := ws) (l := gCons) (by decide) SP.out.1.lt
    obtain ⟨s30, ht30⟩ : ∃ x, (takeS ws gCons s29).2 = x := ⟨_, rfl⟩
    rw [ht30] at hp30 hg30
    have SP := hid (SP.out.step hp30)
    have N23 := hid (N23.out.grew hp30.2)
    have N27 := hid (N27.out.grew hp30.2)
    have G := hid (show s.at_ + 1 ≤ s30.at_ ∧ s30.at_ ≤ ws.length by have h1 := G.out; omega)
    have Q30 := hid ht30
    clear hp30 hg30 ht30
    go_wp2_with fail
    refine (pname_calls s30 X30 SP.out.1).mono ?_
    rintro e X31 ⟨rfl, hp31⟩
    have hg31 := name_goes (ws := ws) BW.out SP.out.1.lt
    obtain ⟨n31, s31, ht31⟩ : ∃ a b, nameS ws s30 = (a, b) := ⟨_, _, rfl⟩
    rw [ht31] at hp31 hg31 ⊢
    have SP := hid (SP.out.step hp31)
    have N23 := hid (N23.out.grew hp31.2)
    have N27 := hid (N27.out.grew hp31.2)
    have G := hid (show s.at_ + 1 ≤ s31.at_ ∧ s31.at_ ≤ ws.length by have h1 := G.out; have h2 := hg31.1; have h3 := hg31.2.1; dsimp only at h2 h3; omega)
    have B31 := hid hg31.2.2
    have Q31 := hid ht31
    clear hp31 hg31 ht31
    dsimp only
    go_wp2_with fail
    refine (takeK_calls s31 ⟨#[45, 62]⟩ gTo (by kernel_rfl) (by decide) X31 SP.out.1).mono ?_
    rintro e X32 ⟨⟨x32, rfl⟩, hp32⟩
    have hg32 := take_goes (ws := ws) (l := gTo) (by decide) SP.out.1.lt
    obtain ⟨s32, ht32⟩ : ∃ x, (takeS ws gTo s31).2 = x := ⟨_, rfl⟩
    rw [ht32] at hp32 hg32
    have SP := hid (SP.out.step hp32)
    have N23 := hid (N23.out.grew hp32.2)
    have N27 := hid (N27.out.grew hp32.2)
    have G := hid (show s.at_ + 1 ≤ s32.at_ ∧ s32.at_ ≤ ws.length by have h1 := G.out; omega)
    have Q32 := hid ht32
    clear hp32 hg32 ht32
    go_wp2_with fail
    refine (HC.out.expr s32 X32 SP.out.1 (by have h1 := G.out; have h2 := HM.out; simp only [ms, lvN] at h2 ⊢; omega)).mono ?_
    rintro e X33 ⟨v33, rfl, hn33, hp33⟩
    have hg33 := goes_at (ws := ws) BW.out f .expr trivial SP.out.1.lt
    obtain ⟨l33, s33, ht33⟩ : ∃ a b, spz ws f .expr s32 = (a, b) := ⟨_, _, rfl⟩
    rw [ht33] at hp33 hg33 hn33
    dsimp only at hp33 hn33
    obtain ⟨va33, vc33, rfl⟩ := hn33.is
    have SP := hid (SP.out.step hp33)
    have N23 := hid (N23.out.grew hp33.2)
    have N27 := hid (N27.out.grew hp33.2)
    have N33 := hid hn33
    have G := hid (show s.at_ + 1 ≤ s33.at_ ∧ s33.at_ ≤ ws.length by have h1 := G.out; have h2 := hg33.on; have h3 := hg33.lt; dsimp only at h2 h3; omega)
    have L33 := hid (show l33.length ≤ 20000 by have h2 := hg33.len; have h3 := hg33.lt; have h4 := SP.out.1.few; dsimp only [accN] at h2 h3; omega)
    have Q33 := hid ht33
    clear hp33 hg33 ht33 hn33
    go_wp2_with fail
    refine (put3_calls SP.out.1 20 0 0 n29 n31 ⟨#[]⟩ N23.out N27.out N33.out ⟨B29.out, B31.out, brief_e⟩ ⟨L23.out, L27.out, L33.out⟩).mono ?_
    rintro e X34 ⟨v34, rfl, hn34, hb34⟩
    have SP := hid (SP.out.below hb34)
    have N34 := hid hn34
    clear hb34 hn34
    go_wp2_with fail
    go_ret
    have hE : spz ws (f + 1) .expr s = (putN ⟨20, 0, n29, n31, ⟨#[]⟩, 0⟩ [l23, l27, l33], s33) := by
      show exprS ws (spz ws f) s = _
      refine (or_f Z4.out).trans ?_
      refine (or_f Z13.out).trans ?_
      refine (or_f Z20.out).trans ?_
      refine (or_t Z21.out.1 Q22.out).trans ?_
      refine (bind_eq Q23.out).trans ?_
      refine (bind_take Q24.out).trans ?_
      refine (bind_take Q25.out).trans ?_
      refine (bind_take Q26.out).trans ?_
      refine (bind_eq Q27.out).trans ?_
      refine (bind_take Q28.out).trans ?_
      refine (bind_eq Q29.out).trans ?_
      refine (bind_take Q30.out).trans ?_
      refine (bind_eq Q31.out).trans ?_
      refine (bind_take Q32.out).trans ?_
      refine (bind_eq Q33.out).trans ?_
      rfl
    rw [hE]
    exact ⟨v34, rfl, N34.out, SP.out⟩
  have hx1kCase : (u1.toList == ([99, 97, 115, 101] : List UInt8)) = false := by simpa using hkCase1
  clear hkCase1
  have hkCase1 := hx1kCase
  clear hx1kCase
  have hz35 : seesS ws s kCase = false := by unfold seesS; rw [HU1.out]; exact hkCase1
  have Z35 := hid hz35
  clear hz35
  go_wp2_with fail
  refine (HC.out.cons s X1 SP.out.1 (by have h1 := G.out; have h2 := HM.out; simp only [ms, lvN] at h2 ⊢; omega)).mono ?_
  rintro e X36 ⟨v36, rfl, hn36, hp36⟩
  have hg36 := goes_at (ws := ws) BW.out f .cons trivial SP.out.1.lt
  obtain ⟨l36, s36, ht36⟩ : ∃ a b, spz ws f .cons s = (a, b) := ⟨_, _, rfl⟩
  rw [ht36] at hp36 hg36 hn36
  dsimp only at hp36 hn36
  obtain ⟨va36, vc36, rfl⟩ := hn36.is
  have SP := hid (SP.out.step hp36)
  have N36 := hid hn36
  have G := hid (show s.at_ + 0 ≤ s36.at_ ∧ s36.at_ ≤ ws.length by have h1 := G.out; have h2 := hg36.on; have h3 := hg36.lt; dsimp only at h2 h3; omega)
  have L36 := hid (show l36.length ≤ 20000 by have h2 := hg36.len; have h3 := hg36.lt; have h4 := SP.out.1.few; dsimp only [accN] at h2 h3; omega)
  have Q36 := hid ht36
  clear hp36 hg36 ht36 hn36
  go_wp2_with fail
  go_ret
  have hE : spz ws (f + 1) .expr s = (l36, s36) := by
    show exprS ws (spz ws f) s = _
    refine (or_f Z4.out).trans ?_
    refine (or_f Z13.out).trans ?_
    refine (or_f Z20.out).trans ?_
    refine (or_f Z35.out).trans ?_
    exact Q36.out
  rw [hE]
  exact ⟨_, rfl, N36.out, SP.out⟩

end
end Go.Proofs.YtkdipppeljpgmaaGreatDoor
