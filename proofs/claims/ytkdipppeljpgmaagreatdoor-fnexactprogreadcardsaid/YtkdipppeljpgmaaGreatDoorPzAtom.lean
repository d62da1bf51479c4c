/- The specification's parser: atoms. -/
import Derived.Test.YtkdipppeljpgmaaGreatDoorPzNum
import Derived.Test.YtkdipppeljpgmaaGreatDoorPzLoop
namespace Go.Proofs.YtkdipppeljpgmaaGreatDoor
open Go.RowKit Go.Deep

section
variable {d : Dr} {ws : List Wd} {cp : Nat}

theorem starts_lt {s : Ps} (h : startsS ws s = true) : s.at_ < ws.length := by
  unfold startsS at h
  simp only [Bool.and_eq_true, decide_eq_true_eq] at h
  exact h.2.1

theorem atom_eq {f : Nat} {s s1 : Ps} {w : Wd} (h : startsS ws s = true) (hw : curW ws s.at_ = w) (hs : s.next = s1) : spz ws (f + 1) .atom s = wordS ws (spz ws f) w s1 := by
  show atomS ws (spz ws f) s = _
  unfold atomS
  rw [h, hw, hs]
  rfl

set_option maxHeartbeats 8000000 in
set_option maxRecDepth 100000 in
theorem patom_calls {ad : Option Addr} (hw : BriefW ws) (hnw : NumW ws) {f : Nat} (hc : PcAll d ws ad cp f) (s : Ps) (W : World) (h : PsAt d ws ad cp s W) (hm : ms ws .atom s ≤ f + 1) :
    Calls Tryz.prog 117 #[.pointer (some ⟨d.B, 0, none⟩)] W (PostN d ws ad cp (spz ws (f + 1) .atom s) W) := by
  have SP := hid (StepP.start h)
  have HC := hid hc
  have HM := hid hm
  have BW := hid hw
  have G := hid (show s.at_ + 0 ≤ s.at_ ∧ s.at_ ≤ ws.length from ⟨Nat.le_refl _, h.lt⟩)
  have NW := hid hnw
  clear h hc hm hw hnw
  go_enter Tryz.func117, Tryz.ntmps117
  go_wp2_with fail
  refine (starts_calls s W SP.out.1).mono ?_
  rintro e X1 ⟨rfl, hb1⟩
  have SP := hid (SP.out.below hb1)
  clear hb1
  by_cases hst : startsS ws s = true
  case neg =>
    have hs0 : startsS ws s = false := by simpa using hst
    have q2 := cell_of_heap SP.out.1.blk 2
    have z2 := frozen_of_heap SP.out.1.blk 2
    simp at q2
    rw [hs0]
    have HS := hid hs0
    clear hst hs0
    go_wp2_with fail
    go_ret
    have hE : spz ws (f + 1) .atom s = ([], s.fail) := by
      show atomS ws (spz ws f) s = _
      unfold atomS
      rw [HS.out]
      rfl
    rw [hE]
    exact ⟨_, rfl, ⟨Or.inl ⟨rfl, rfl⟩, fun n hn => by cases hn⟩, ⟨SP.out.1.fails, SP.out.2.trans (grew_set X1 2 _)⟩⟩
  case pos =>
    have hi1 := starts_lt hst
    rw [hst]
    have HST := hid hst
    have LT := hid hi1
    clear hst
    obtain ⟨b, rfl, hwd⟩ := SP.out.1.lies (by omega)
    obtain ⟨w0, w1, w2⟩ := hwd s.at_ hi1
    have p0 := cell_of_heap SP.out.1.blk 0
    have p1 := cell_of_heap SP.out.1.blk 1
    simp at p0 p1
    obtain ⟨c, hcw⟩ : ∃ c, curW ws s.at_ = c := ⟨_, rfl⟩
    have hbw := BW.out _ (cur_mem hi1)
    have hnw := NW.out _ (cur_mem hi1)
    rw [hcw] at w0 w1 w2 hbw hnw
    obtain ⟨kd, tx, wa⟩ := c
    dsimp only at w0 w1 w2 hbw hnw
    have HCW := hid hcw
    have HBW := hid hbw
    have HNW := hid hnw
    clear hwd hcw hbw hnw
    go_upto_region 4 with fail
    have hS : (fun w' : World => w'.cell? ⟨d.B, 0, none⟩ = some (.slice (some ⟨b, 0, none⟩) ws.length cp) ∧ w'.cell? ⟨d.B, 1, none⟩ = some (.int .i64 (s.at_ : Int)) ∧ w'.cell? ⟨b, s.at_ * 3, none⟩ = some (.int .i64 kd) ∧ w'.cell? ⟨b, s.at_ * 3 + 1, none⟩ = some (.string tx) ∧ w'.cell? ⟨b, s.at_ * 3 + 2, none⟩ = some (.int .i64 wa)) X1.drew := ⟨p0, p1, w0, w1, w2⟩
    refine pick_begin (S := (fun w' : World => w'.cell? ⟨d.B, 0, none⟩ = some (.slice (some ⟨b, 0, none⟩) ws.length cp) ∧ w'.cell? ⟨d.B, 1, none⟩ = some (.int .i64 (s.at_ : Int)) ∧ w'.cell? ⟨b, s.at_ * 3, none⟩ = some (.int .i64 kd) ∧ w'.cell? ⟨b, s.at_ * 3 + 1, none⟩ = some (.string tx) ∧ w'.cell? ⟨b, s.at_ * 3 + 2, none⟩ = some (.int .i64 wa))) (by kernel_rfl) rfl rfl ?_
    have hB1 : Below X1.heap.size X1 X1.drew := (Below.refl _ _).drew
    generalize X1.drew = Z at hS hB1 ⊢
    have HZ := hid hB1
    have hsz : d.B < Z.heap.size ∧ b < Z.heap.size := ⟨block_lt_of_cell hS.1, block_lt_of_cell hS.2.2.1⟩
    clear hB1 p0 p1 w0 w1 w2
    refine pick_op (i := 0) (v := .pointer (some ⟨d.B, 0, none⟩)) (by kernel_rfl) rfl (by kernel_rfl) (by kernel_rfl) rfl rfl (fun w' _ => by simp [go_sem]) hS (by simp [go_sem]; exact rfl) ?_
    refine pick_op (i := 1) (v := .pointer (some ⟨d.B, 0, none⟩)) (by kernel_rfl) rfl (by kernel_rfl) (by kernel_rfl) rfl rfl (fun w' _ => by simp [go_sem]) hS (by simp [go_sem]; exact rfl) ?_
    refine pick_op (i := 2) (v := .pointer (some ⟨d.B, 0, none⟩)) (by kernel_rfl) rfl (by kernel_rfl) (by kernel_rfl) rfl rfl (fun w' _ => by simp [go_sem]) hS (by simp [go_sem]; exact rfl) ?_
    refine pick_op (i := 3) (v := .slice (some ⟨b, 0, none⟩) ws.length cp) (by kernel_rfl) rfl (by kernel_rfl) (by kernel_rfl) rfl rfl (fun w' h => by simp [go_sem, h.1]) hS (by simp [go_sem]; exact rfl) ?_
    refine pick_op (i := 4) (v := .pointer (some ⟨d.B, 0, none⟩)) (by kernel_rfl) rfl (by kernel_rfl) (by kernel_rfl) rfl rfl (fun w' _ => by simp [go_sem]) hS (by simp [go_sem]; exact rfl) ?_
    refine pick_op (i := 5) (v := .pointer (some ⟨d.B, 0, none⟩)) (by kernel_rfl) rfl (by kernel_rfl) (by kernel_rfl) rfl rfl (fun w' _ => by simp [go_sem]) hS (by simp [go_sem]; exact rfl) ?_
    refine pick_op (i := 6) (v := .pointer (some ⟨d.B, 1, none⟩)) (by kernel_rfl) rfl (by kernel_rfl) (by kernel_rfl) rfl rfl (fun w' _ => by simp [go_sem]) hS (by simp [go_sem]; exact rfl) ?_
    refine pick_op (i := 7) (v := .int .i64 (s.at_ : Int)) (by kernel_rfl) rfl (by kernel_rfl) (by kernel_rfl) rfl rfl (fun w' h => by simp [go_sem, h.2.1]) hS (by simp [go_sem]; exact rfl) ?_
    refine pick_op (i := 8) (v := .pointer (some ⟨b, s.at_ * 3, none⟩)) (by kernel_rfl) rfl (by kernel_rfl) (by kernel_rfl) rfl rfl (fun w' _ => by simp [go_sem, hi1]) hS (by simp [go_sem]; exact rfl) ?_
    refine pick_op (i := 9) (v := .agg #[.int .i64 kd, .string tx, .int .i64 wa]) (by kernel_rfl) rfl (by kernel_rfl) (by kernel_rfl) rfl rfl (fun w' h => by simp [go_sem, h.2.2.1, h.2.2.2.1, h.2.2.2.2]) hS (by simp [go_sem]; exact rfl) ?_
    have hbA := (Below.refl Z.heap.size Z).alloc (Nat.le_refl _) (.cells #[.int .i64 0, .string ⟨#[]⟩, .int .i64 0] 43)
    have hSA : (fun w' : World => w'.cell? ⟨d.B, 0, none⟩ = some (.slice (some ⟨b, 0, none⟩) ws.length cp) ∧ w'.cell? ⟨d.B, 1, none⟩ = some (.int .i64 (s.at_ : Int)) ∧ w'.cell? ⟨b, s.at_ * 3, none⟩ = some (.int .i64 kd) ∧ w'.cell? ⟨b, s.at_ * 3 + 1, none⟩ = some (.string tx) ∧ w'.cell? ⟨b, s.at_ * 3 + 2, none⟩ = some (.int .i64 wa)) (Z.alloc (.cells #[.int .i64 0, .string ⟨#[]⟩, .int .i64 0] 43)) :=
      ⟨(hbA.cell hsz.1).trans hS.1, (hbA.cell hsz.1).trans hS.2.1, (hbA.cell hsz.2).trans hS.2.2.1, (hbA.cell hsz.2).trans hS.2.2.2.1, (hbA.cell hsz.2).trans hS.2.2.2.2⟩
    refine pick_make (i := 10) (v := .pointer (some ⟨Z.heap.size, 0, none⟩)) (w1 := Z.alloc (.cells #[.int .i64 0, .string ⟨#[]⟩, .int .i64 0] 43)) rfl (by kernel_rfl) rfl rfl (by simp [go_sem]) hSA (by simp [go_sem]; exact rfl) ?_
    have hkA := (MapKept.heap_alloc Z (.cells #[.int .i64 0, .string ⟨#[]⟩, .int .i64 0] 43)).1
    obtain ⟨hl1, hl2⟩ := lay3_is (.int .i64 kd) (.string tx) (.int .i64 wa) hkA
    have hbz := hbA.trans (hl2 Z.heap.size (Nat.le_refl _))
    have hb3 : Below X1.heap.size X1 (lay3 (Z.alloc (.cells #[.int .i64 0, .string ⟨#[]⟩, .int .i64 0] 43)) Z.heap.size (.int .i64 kd) (.string tx) (.int .i64 wa)) := HZ.out.trans (hbz.mono HZ.out.size)
    have hS3 : (fun w' : World => w'.cell? ⟨d.B, 0, none⟩ = some (.slice (some ⟨b, 0, none⟩) ws.length cp) ∧ w'.cell? ⟨d.B, 1, none⟩ = some (.int .i64 (s.at_ : Int)) ∧ w'.cell? ⟨b, s.at_ * 3, none⟩ = some (.int .i64 kd) ∧ w'.cell? ⟨b, s.at_ * 3 + 1, none⟩ = some (.string tx) ∧ w'.cell? ⟨b, s.at_ * 3 + 2, none⟩ = some (.int .i64 wa)) (lay3 (Z.alloc (.cells #[.int .i64 0, .string ⟨#[]⟩, .int .i64 0] 43)) Z.heap.size (.int .i64 kd) (.string tx) (.int .i64 wa)) := ⟨(hbz.cell hsz.1).trans hS.1, (hbz.cell hsz.1).trans hS.2.1, (hbz.cell hsz.2).trans hS.2.2.1, (hbz.cell hsz.2).trans hS.2.2.2.1, (hbz.cell hsz.2).trans hS.2.2.2.2⟩
    refine pick_skip (i := 11) rfl (w1 := lay3 (Z.alloc (.cells #[.int .i64 0, .string ⟨#[]⟩, .int .i64 0] 43)) Z.heap.size (.int .i64 kd) (.string tx) (.int .i64 wa)) rfl (by kernel_rfl) rfl rfl (by simp [go_sem, lay3]) hS3 ?_
    refine pick_end (by kernel_rfl) ?_
    have hq := hsz.1
    have hsg : d.G = d.B := SP.out.1.eq
    generalize lay3 (Z.alloc (.cells #[.int .i64 0, .string ⟨#[]⟩, .int .i64 0] 43)) Z.heap.size (.int .i64 kd) (.string tx) (.int .i64 wa) = X at hl1 hb3 ⊢
    have NQ := hid (show Z.heap.size ≠ d.B ∧ Z.heap.size ≠ d.G by omega)
    generalize Z.heap.size = g at hl1 NQ ⊢
    have SP := hid (SP.out.below hb3)
    have NB := hid hl1
    clear hl1 hl2 hb3 hS3 hSA hS hsz hbA hkA hbz hq hsg hi1
    have q1 := cell_of_heap SP.out.1.blk 1
    have z1 := frozen_of_heap SP.out.1.blk 1
    simp at q1
    have HWr := hid SP.out.wrap
    have hn11 := SP.out.next LT.out
    obtain ⟨s11, hs11⟩ : ∃ x, s.next = x := ⟨_, rfl⟩
    have hc11 : s11.at_ = s.at_ + 1 := by rw [← hs11]; rfl
    rw [hs11] at hn11
    have GR11 := hid (grew_set (d := d) X 1 (.int .i64 ((s.at_ + 1 : Nat) : Int)))
    obtain ⟨X11, hX11⟩ : ∃ Y, X.setCell ⟨d.B, 1, none⟩ (.int .i64 ((s.at_ + 1 : Nat) : Int)) = Y := ⟨_, rfl⟩
    rw [hX11] at hn11 GR11
    have HX11 := hid hX11
    have NB := hid ((GR11.out.block _ ⟨heap_lt NB.out, NQ.out.1, NQ.out.2⟩).trans NB.out)
    have G := hid (show s.at_ + 1 ≤ s11.at_ ∧ s11.at_ ≤ ws.length by have h1 := G.out; have h2 := LT.out; omega)
    have SPn := hid hn11
    have Q11 := hid hs11
    clear hn11 hs11 hc11 hX11 GR11
    go_upto_region 6 with fail
    rw [HWr.out, HX11.out]
    have SP := SPn
    clear SPn HWr q1 z1 HX11
    have c0 := cell_of_heap NB.out 0
    have c1 := cell_of_heap NB.out 1
    simp at c0 c1
    by_cases k1 : kd = 1
    · subst k1
      have hnb := HNW.out rfl
      have HNB := hid hnb
      clear hnb
      go_wp2_with fail
      refine (num_calls tx HNB.out X11).mono ?_
      rintro e Xn ⟨rfl, rfl⟩
      go_wp2_with fail
      refine (put0_calls SP.out.1 1 (numZ tx.toList : Int) 0 ⟨#[]⟩ ⟨#[]⟩ ⟨#[]⟩ ⟨brief_e, brief_e, brief_e⟩).mono ?_
      rintro e X12 ⟨v12, rfl, hn12, hb12⟩
      have SP := hid (SP.out.below hb12)
      have N12 := hid hn12
      clear hb12 hn12
      go_wp2_with fail
      have hW := hid (show wordS ws (spz ws f) ⟨1, tx, wa⟩ = pureS (putN (ndN 1 (numZ tx.toList)) []) by
        unfold wordS
        dsimp only
        rw [if_pos rfl])
      go_ret
      have hE : spz ws (f + 1) .atom s = (putN (ndN 1 (numZ tx.toList)) [], s11) := by
        refine (atom_eq HST.out HCW.out Q11.out).trans ?_
        refine (congrFun hW.out s11).trans ?_
        rfl
      rw [hE]
      exact ⟨v12, rfl, N12.out, SP.out⟩
    by_cases k2 : kd = 2
    · subst k2
      clear k1
      go_wp2_with fail
      refine (put0_calls SP.out.1 5 0 0 tx ⟨#[]⟩ ⟨#[]⟩ ⟨HBW.out, brief_e, brief_e⟩).mono ?_
      rintro e X13 ⟨v13, rfl, hn13, hb13⟩
      have SP := hid (SP.out.below hb13)
      have N13 := hid hn13
      clear hb13 hn13
      go_wp2_with fail
      have hW := hid (show wordS ws (spz ws f) ⟨2, tx, wa⟩ = pureS (putN (nd1 5 tx) []) by
        unfold wordS
        dsimp only
        rw [if_neg (show ¬ (2 : Int) = 1 by decide), if_pos rfl])
      go_ret
      have hE : spz ws (f + 1) .atom s = (putN (nd1 5 tx) [], s11) := by
        refine (atom_eq HST.out HCW.out Q11.out).trans ?_
        refine (congrFun hW.out s11).trans ?_
        rfl
      rw [hE]
      exact ⟨v13, rfl, N13.out, SP.out⟩
    have K1 := hid k1
    have K2 := hid k2
    have hd1 : (kd == 1) = false := by simpa using k1
    have hd2 : (kd == 2) = false := by simpa using k2
    clear k1 k2
    by_cases g0 : (tx.toList == ([116, 114, 117, 101] : List UInt8)) = true
    · have P0 := hid (show (tx.toList == kTrue) = true from g0)
      go_wp2_with fail
      refine (put0_calls SP.out.1 2 1 0 ⟨#[]⟩ ⟨#[]⟩ ⟨#[]⟩ ⟨brief_e, brief_e, brief_e⟩).mono ?_
      rintro e X14 ⟨v14, rfl, hn14, hb14⟩
      have SP := hid (SP.out.below hb14)
      have N14 := hid hn14
      clear hb14 hn14
      go_wp2_with fail
      have hW := hid (show wordS ws (spz ws f) ⟨kd, tx, wa⟩ = pureS (putN (ndN 2 1) []) by
        unfold wordS
        dsimp only
        rw [if_neg K1.out, if_neg K2.out, if_pos P0.out])
      go_ret
      have hE : spz ws (f + 1) .atom s = (putN (ndN 2 1) [], s11) := by
        refine (atom_eq HST.out HCW.out Q11.out).trans ?_
        refine (congrFun hW.out s11).trans ?_
        rfl
      rw [hE]
      exact ⟨v14, rfl, N14.out, SP.out⟩
    have g0f : (tx.toList == ([116, 114, 117, 101] : List UInt8)) = false := by simpa using g0
    have M0 := hid (show ¬ (tx.toList == kTrue) = true by intro hx; exact g0 hx)
    clear g0
    by_cases g1 : (tx.toList == ([102, 97, 108, 115, 101] : List UInt8)) = true
    · have P1 := hid (show (tx.toList == kFalse) = true from g1)
      go_wp2_with fail
      refine (put0_calls SP.out.1 2 0 0 ⟨#[]⟩ ⟨#[]⟩ ⟨#[]⟩ ⟨brief_e, brief_e, brief_e⟩).mono ?_
      rintro e X15 ⟨v15, rfl, hn15, hb15⟩
      have SP := hid (SP.out.below hb15)
      have N15 := hid hn15
      clear hb15 hn15
      go_wp2_with fail
      have hW := hid (show wordS ws (spz ws f) ⟨kd, tx, wa⟩ = pureS (putN (nd0 2) []) by
        unfold wordS
        dsimp only
        rw [if_neg K1.out, if_neg K2.out, if_neg M0.out, if_pos P1.out])
      go_ret
      have hE : spz ws (f + 1) .atom s = (putN (nd0 2) [], s11) := by
        refine (atom_eq HST.out HCW.out Q11.out).trans ?_
        refine (congrFun hW.out s11).trans ?_
        rfl
      rw [hE]
      exact ⟨v15, rfl, N15.out, SP.out⟩
    have g1f : (tx.toList == ([102, 97, 108, 115, 101] : List UInt8)) = false := by simpa using g1
    have M1 := hid (show ¬ (tx.toList == kFalse) = true by intro hx; exact g1 hx)
    clear g1
    by_cases g2 : (tx.toList == ([110, 105, 108] : List UInt8)) = true
    · have P2 := hid (show (tx.toList == kNil) = true from g2)
      go_wp2_with fail
      refine (put0_calls SP.out.1 4 0 0 ⟨#[]⟩ ⟨#[]⟩ ⟨#[]⟩ ⟨brief_e, brief_e, brief_e⟩).mono ?_
      rintro e X16 ⟨v16, rfl, hn16, hb16⟩
      have SP := hid (SP.out.below hb16)
      have N16 := hid hn16
      clear hb16 hn16
      go_wp2_with fail
      have hW := hid (show wordS ws (spz ws f) ⟨kd, tx, wa⟩ = pureS (putN (nd0 4) []) by
        unfold wordS
        dsimp only
        rw [if_neg K1.out, if_neg K2.out, if_neg M0.out, if_neg M1.out, if_pos P2.out])
      go_ret
      have hE : spz ws (f + 1) .atom s = (putN (nd0 4) [], s11) := by
        refine (atom_eq HST.out HCW.out Q11.out).trans ?_
        refine (congrFun hW.out s11).trans ?_
        rfl
      rw [hE]
      exact ⟨v16, rfl, N16.out, SP.out⟩
    have g2f : (tx.toList == ([110, 105, 108] : List UInt8)) = false := by simpa using g2
    have M2 := hid (show ¬ (tx.toList == kNil) = true by intro hx; exact g2 hx)
    clear g2
    by_cases g3 : (tx.toList == ([104, 97, 110, 100, 108, 101] : List UInt8)) = true
    · have P3 := hid (show (tx.toList == kHandle) = true from g3)
      go_wp2_with fail
      have hW := hid (show wordS ws (spz ws f) ⟨kd, tx, wa⟩ = spz ws f (.hand 23) by
        unfold wordS
        dsimp only
        rw [if_neg K1.out, if_neg K2.out, if_neg M0.out, if_neg M1.out, if_neg M2.out, if_pos P3.out])
      refine (HC.out.hand 23 s11 X11 SP.out.1 (by have h1 := G.out; have h2 := HM.out; simp only [ms, lvN] at h2 ⊢; omega)).mono ?_
      rintro e X17 ⟨v17, rfl, hn17, hp17⟩
      have hg17 := goes_at (ws := ws) BW.out f (.hand 23) trivial SP.out.1.lt
      obtain ⟨l17, s17, ht17⟩ : ∃ a b, spz ws f (.hand 23) s11 = (a, b) := ⟨_, _, rfl⟩
      rw [ht17] at hp17 hg17 hn17
      dsimp only at hp17 hn17
      obtain ⟨va17, vc17, rfl⟩ := hn17.is
      have SP := hid (SP.out.step hp17)
      have N17 := hid hn17
      have G := hid (show s.at_ + 1 ≤ s17.at_ ∧ s17.at_ ≤ ws.length by have h1 := G.out; have h2 := hg17.on; have h3 := hg17.lt; dsimp only at h2 h3; omega)
      have L17 := hid (show l17.length ≤ 20000 by have h2 := hg17.len; have h3 := hg17.lt; have h4 := SP.out.1.few; dsimp only [accN] at h2 h3; omega)
      have Q17 := hid ht17
      clear hp17 hg17 ht17 hn17
      go_wp2_with fail
      go_ret
      have hE : spz ws (f + 1) .atom s = (l17, s17) := by
        refine (atom_eq HST.out HCW.out Q11.out).trans ?_
        refine (congrFun hW.out s11).trans ?_
        exact Q17.out
      rw [hE]
      exact ⟨_, rfl, N17.out, SP.out⟩
    have g3f : (tx.toList == ([104, 97, 110, 100, 108, 101] : List UInt8)) = false := by simpa using g3
    have M3 := hid (show ¬ (tx.toList == kHandle) = true by intro hx; exact g3 hx)
    clear g3
    by_cases g4 : (tx.toList == ([115, 104, 97, 108, 108, 111, 119] : List UInt8)) = true
    · have P4 := hid (show (tx.toList == kShallow) = true from g4)
      go_wp2_with fail
      have hW := hid (show wordS ws (spz ws f) ⟨kd, tx, wa⟩ = spz ws f (.hand 24) by
        unfold wordS
        dsimp only
        rw [if_neg K1.out, if_neg K2.out, if_neg M0.out, if_neg M1.out, if_neg M2.out, if_neg M3.out, if_pos P4.out])
      refine (HC.out.hand 24 s11 X11 SP.out.1 (by have h1 := G.out; have h2 := HM.out; simp only [ms, lvN] at h2 ⊢; omega)).mono ?_
      rintro e X18 ⟨v18, rfl, hn18, hp18⟩
      have hg18 := goes_at (ws := ws) BW.out f (.hand 24) trivial SP.out.1.lt
      obtain ⟨l18, s18, ht18⟩ : ∃ a b, spz ws f (.hand 24) s11 = (a, b) := ⟨_, _, rfl⟩
      rw [ht18] at hp18 hg18 hn18
      dsimp only at hp18 hn18
      obtain ⟨va18, vc18, rfl⟩ := hn18.is
      have SP := hid (SP.out.step hp18)
      have N18 := hid hn18
      have G := hid (show s.at_ + 1 ≤ s18.at_ ∧ s18.at_ ≤ ws.length by have h1 := G.out; have h2 := hg18.on; have h3 := hg18.lt; dsimp only at h2 h3; omega)
      have L18 := hid (show l18.length ≤ 20000 by have h2 := hg18.len; have h3 := hg18.lt; have h4 := SP.out.1.few; dsimp only [accN] at h2 h3; omega)
      have Q18 := hid ht18
      clear hp18 hg18 ht18 hn18
      go_wp2_with fail
      go_ret
      have hE : spz ws (f + 1) .atom s = (l18, s18) := by
        refine (atom_eq HST.out HCW.out Q11.out).trans ?_
        refine (congrFun hW.out s11).trans ?_
        exact Q18.out
      rw [hE]
      exact ⟨_, rfl, N18.out, SP.out⟩
    have g4f : (tx.toList == ([115, 104, 97, 108, 108, 111, 119] : List UInt8)) = false := by simpa using g4
    have M4 := hid (show ¬ (tx.toList == kShallow) = true by intro hx; exact g4 hx)
    clear g4
    have hW := hid (show wordS ws (spz ws f) ⟨kd, tx, wa⟩ = brackS ws (spz ws f) by
      unfold wordS
      dsimp only
      rw [if_neg K1.out, if_neg K2.out, if_neg M0.out, if_neg M1.out, if_neg M2.out, if_neg M3.out, if_neg M4.out])
    go_wp2_with fail
    refine (text_calls s11 X11 SP.out.1).mono ?_
    rintro e X19 ⟨rfl, hb19⟩
    have SP := hid (SP.out.below hb19)
    obtain ⟨u19, hu19⟩ : ∃ u, txt ws s11 = u := ⟨_, rfl⟩
    rw [hu19]
    have HU19 := hid hu19
    clear hb19 hu19
    by_cases hgShut19 : (u19.toList == ([41] : List UInt8)) = true
    · have hz20 : seesS ws s11 gShut = true := by unfold seesS; rw [HU19.out]; exact hgShut19
      have hl20 := sees_lt (by decide) hz20
      have Z20 := hid (And.intro hz20 hl20)
      clear hz20 hl20
      have q1 := cell_of_heap SP.out.1.blk 1
      have z1 := frozen_of_heap SP.out.1.blk 1
      simp at q1
      have HWr := hid SP.out.wrap
      have hn21 := SP.out.next Z20.out.2
      obtain ⟨s21, hs21⟩ : ∃ x, s11.next = x := ⟨_, rfl⟩
      have hc21 : s21.at_ = s11.at_ + 1 := by rw [← hs21]; rfl
      rw [hs21] at hn21
      have GR21 := hid (grew_set (d := d) X19 1 (.int .i64 ((s11.at_ + 1 : Nat) : Int)))
      obtain ⟨X21, hX21⟩ : ∃ Y, X19.setCell ⟨d.B, 1, none⟩ (.int .i64 ((s11.at_ + 1 : Nat) : Int)) = Y := ⟨_, rfl⟩
      rw [hX21] at hn21 GR21
      have HX21 := hid hX21
      have G := hid (show s.at_ + 2 ≤ s21.at_ ∧ s21.at_ ≤ ws.length by have h1 := G.out; have h2 := Z20.out.2; omega)
      have SPn := hid hn21
      have Q21 := hid hs21
      clear hn21 hs21 hc21 hX21 GR21
      go_wp2_with fail
      rw [HWr.out, HX21.out]
      have SP := SPn
      clear SPn HWr q1 z1 HX21
      refine (put0_calls SP.out.1 3 0 0 ⟨#[]⟩ ⟨#[]⟩ ⟨#[]⟩ ⟨brief_e, brief_e, brief_e⟩).mono ?_
      rintro e X22 ⟨v22, rfl, hn22, hb22⟩
      have SP := hid (SP.out.below hb22)
      have N22 := hid hn22
      clear hb22 hn22
      go_wp2_with fail
      go_ret
      have hE : spz ws (f + 1) .atom s = (putN (nd0 3) [], s21) := by
        refine (atom_eq HST.out HCW.out Q11.out).trans ?_
        refine (congrFun hW.out s11).trans ?_
        refine (or_t Z20.out.1 Q21.out).trans ?_
        rfl
      rw [hE]
      exact ⟨v22, rfl, N22.out, SP.out⟩
    have hx19gShut : (u19.toList == ([41] : List UInt8)) = false := by simpa using hgShut19
    clear hgShut19
    have hgShut19 := hx19gShut
    clear hx19gShut
    have hz23 : seesS ws s11 gShut = false := by unfold seesS; rw [HU19.out]; exact hgShut19
    have Z23 := hid hz23
    clear hz23
    go_wp2_with fail
    refine (HC.out.expr s11 X19 SP.out.1 (by have h1 := G.out; have h2 := HM.out; simp only [ms, lvN] at h2 ⊢; omega)).mono ?_
    rintro e X24 ⟨v24, rfl, hn24, hp24⟩
    have hg24 := goes_at (ws := ws) BW.out f .expr trivial SP.out.1.lt
    obtain ⟨l24, s24, ht24⟩ : ∃ a b, spz ws f .expr s11 = (a, b) := ⟨_, _, rfl⟩
    rw [ht24] at hp24 hg24 hn24
    dsimp only at hp24 hn24
    obtain ⟨va24, vc24, rfl⟩ := hn24.is
    have SP := hid (SP.out.step hp24)
    have N24 := hid hn24
    have G := hid (show s.at_ + 1 ≤ s24.at_ ∧ s24.at_ ≤ ws.length by have h1 := G.out; have h2 := hg24.on; have h3 := hg24.lt; dsimp only at h2 h3; omega)
    have L24 := hid (show l24.length ≤ 20000 by have h2 := hg24.len; have h3 := hg24.lt; have h4 := SP.out.1.few; dsimp only [accN] at h2 h3; omega)
    have T24 := hid (show s11.at_ ≤ s24.at_ ∧ l24.length ≤ 3 * (s24.at_ - s11.at_) by have h1 := hg24.on; have h2 := hg24.len; dsimp only [accN] at h1 h2; omega)
    have Q24 := hid ht24
    clear hp24 hg24 ht24 hn24
    go_wp2_with fail
    refine (text_calls s24 X24 SP.out.1).mono ?_
    rintro e X25 ⟨rfl, hb25⟩
    have SP := hid (SP.out.below hb25)
    have N24 := hid (N24.out.grew (Grew.of_below hb25))
    obtain ⟨u25, hu25⟩ : ∃ u, txt ws s24 = u := ⟨_, rfl⟩
    rw [hu25]
    have HU25 := hid hu25
    clear hb25 hu25
    by_cases hgComma25 : (u25.toList == ([44] : List UInt8)) = true
    · have hz26 : seesS ws s24 gComma = true := by unfold seesS; rw [HU25.out]; exact hgComma25
      have hl26 := sees_lt (by decide) hz26
      have Z26 := hid (And.intro hz26 hl26)
      clear hz26 hl26
      have q1 := cell_of_heap SP.out.1.blk 1
      have z1 := frozen_of_heap SP.out.1.blk 1
      simp at q1
      have HWr := hid SP.out.wrap
      have hn27 := SP.out.next Z26.out.2
      obtain ⟨s27, hs27⟩ : ∃ x, s24.next = x := ⟨_, rfl⟩
      have hc27 : s27.at_ = s24.at_ + 1 := by rw [← hs27]; rfl
      rw [hs27] at hn27
      have GR27 := hid (grew_set (d := d) X25 1 (.int .i64 ((s24.at_ + 1 : Nat) : Int)))
      obtain ⟨X27, hX27⟩ : ∃ Y, X25.setCell ⟨d.B, 1, none⟩ (.int .i64 ((s24.at_ + 1 : Nat) : Int)) = Y := ⟨_, rfl⟩
      rw [hX27] at hn27 GR27
      have HX27 := hid hX27
      have N24 := hid (N24.out.grew GR27.out)
      have G := hid (show s.at_ + 2 ≤ s27.at_ ∧ s27.at_ ≤ ws.length by have h1 := G.out; have h2 := Z26.out.2; omega)
      have SPn := hid hn27
      have Q27 := hid hs27
      clear hn27 hs27 hc27 hX27 GR27
      go_wp2_with fail
      rw [HWr.out, HX27.out]
      have SP := SPn
      clear SPn HWr q1 z1 HX27
      refine (HC.out.expr s27 X27 SP.out.1 (by have h1 := G.out; have h2 := HM.out; simp only [ms, lvN] at h2 ⊢; omega)).mono ?_
      rintro e X28 ⟨v28, rfl, hn28, hp28⟩
      have hg28 := goes_at (ws := ws) BW.out f .expr trivial SP.out.1.lt
      obtain ⟨l28, s28, ht28⟩ : ∃ a b, spz ws f .expr s27 = (a, b) := ⟨_, _, rfl⟩
      rw [ht28] at hp28 hg28 hn28
      dsimp only at hp28 hn28
      obtain ⟨va28, vc28, rfl⟩ := hn28.is
      have SP := hid (SP.out.step hp28)
      have N24 := hid (N24.out.grew hp28.2)
      have N28 := hid hn28
      have G := hid (show s.at_ + 2 ≤ s28.at_ ∧ s28.at_ ≤ ws.length by have h1 := G.out; have h2 := hg28.on; have h3 := hg28.lt; dsimp only at h2 h3; omega)
      have L28 := hid (show l28.length ≤ 20000 by have h2 := hg28.len; have h3 := hg28.lt; have h4 := SP.out.1.few; dsimp only [accN] at h2 h3; omega)
      have T28 := hid (show s27.at_ ≤ s28.at_ ∧ l28.length ≤ 3 * (s28.at_ - s27.at_) by have h1 := hg28.on; have h2 := hg28.len; dsimp only [accN] at h1 h2; omega)
      have Q28 := hid ht28
      clear hp28 hg28 ht28 hn28
      go_wp2_with fail
      refine (put2_calls SP.out.1 16 0 0 ⟨#[]⟩ ⟨#[]⟩ ⟨#[]⟩ N24.out N28.out ⟨brief_e, brief_e, brief_e⟩ ⟨L24.out, L28.out⟩).mono ?_
      rintro e X29 ⟨v29, rfl, hn29, hb29⟩
      have SP := hid (SP.out.below hb29)
      have N29 := hid hn29
      clear hb29 hn29
      go_wp2_with fail
      refine (takeK_calls s28 ⟨#[41]⟩ gShut (by kernel_rfl) (by decide) X29 SP.out.1).mono ?_
      rintro e X30 ⟨⟨x30, rfl⟩, hp30⟩
      have hg30 := take_goes (ws := ws) (l := gShut) (by decide) SP.out.1.lt
      obtain ⟨s30, ht30⟩ : ∃ x, (takeS ws gShut s28).2 = x := ⟨_, rfl⟩
      rw [ht30] at hp30 hg30
      have SP := hid (SP.out.step hp30)
      have N29 := hid (N29.out.grew hp30.2)
      have G := hid (show s.at_ + 2 ≤ s30.at_ ∧ s30.at_ ≤ ws.length by have h1 := G.out; omega)
      have Q30 := hid ht30
      clear hp30 hg30 ht30
      go_wp2_with fail
      go_ret
      have hE : spz ws (f + 1) .atom s = (putN ⟨16, 0, ⟨#[]⟩, ⟨#[]⟩, ⟨#[]⟩, 0⟩ [l24, l28], s30) := by
        refine (atom_eq HST.out HCW.out Q11.out).trans ?_
        refine (congrFun hW.out s11).trans ?_
        refine (or_f Z23.out).trans ?_
        refine (bind_eq Q24.out).trans ?_
        refine (or_t Z26.out.1 Q27.out).trans ?_
        refine (bind_eq Q28.out).trans ?_
        refine (bind_take Q30.out).trans ?_
        rfl
      rw [hE]
      exact ⟨v29, rfl, N29.out, SP.out⟩
    have hx25gComma : (u25.toList == ([44] : List UInt8)) = false := by simpa using hgComma25
    clear hgComma25
    have hgComma25 := hx25gComma
    clear hx25gComma
    have hz31 : seesS ws s24 gComma = false := by unfold seesS; rw [HU25.out]; exact hgComma25
    have Z31 := hid hz31
    clear hz31
    go_wp2_with fail
    refine (takeK_calls s24 ⟨#[41]⟩ gShut (by kernel_rfl) (by decide) X25 SP.out.1).mono ?_
    rintro e X32 ⟨⟨x32, rfl⟩, hp32⟩
    have hg32 := take_goes (ws := ws) (l := gShut) (by decide) SP.out.1.lt
    obtain ⟨s32, ht32⟩ : ∃ x, (takeS ws gShut s24).2 = x := ⟨_, rfl⟩
    rw [ht32] at hp32 hg32
    have SP := hid (SP.out.step hp32)
    have N24 := hid (N24.out.grew hp32.2)
    have G := hid (show s.at_ + 1 ≤ s32.at_ ∧ s32.at_ ≤ ws.length by have h1 := G.out; omega)
    have Q32 := hid ht32
    clear hp32 hg32 ht32
    go_wp2_with fail
    go_ret
    have hE : spz ws (f + 1) .atom s = (l24, s32) := by
      refine (atom_eq HST.out HCW.out Q11.out).trans ?_
      refine (congrFun hW.out s11).trans ?_
      refine (or_f Z23.out).trans ?_
      refine (bind_eq Q24.out).trans ?_
      refine (or_f Z31.out).trans ?_
      refine (bind_take Q32.out).trans ?_
      rfl
    rw [hE]
    exact ⟨_, rfl, N24.out, SP.out⟩

end
end Go.Proofs.YtkdipppeljpgmaaGreatDoor
