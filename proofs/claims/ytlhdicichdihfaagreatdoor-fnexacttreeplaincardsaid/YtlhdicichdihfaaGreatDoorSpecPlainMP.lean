/- The specification's plainer names a tree anew: the plain walk. -/
import Derived.Test.YtlhdicichdihfaaGreatDoorPlainSet
import Derived.Test.YtlhdicichdihfaaGreatDoorRowsEndP
import Derived.Deep.CutRange
import Derived.Deep.CutBlock
namespace Go.Proofs.YtlhdicichdihfaaGreatDoor
open Go.RowKit Go.Deep

/-- The first of a node's names that is made anew. -/
def firstZ (k : Int) : Nat := if k = 26 ∨ k = 22 then 1 else 0

theorem names_first {k : Int} (h5 : k ≠ 5) : namesZ k = ((firstZ k + makesZ k : Nat) : Int) := by
  obtain ⟨h1, h2, h3, -⟩ := namesZ_makes k
  unfold firstZ
  by_cases e26 : k = 26
  · rw [if_pos (Or.inl e26), (h2 e26).1, (h2 e26).2]; rfl
  by_cases e22 : k = 22
  · rw [if_pos (Or.inr e22), (h3 e22).1, (h3 e22).2]; rfl
  · rw [if_neg (by omega), h1 h5 e22 e26]; simp

/-- The texts of a node, told by place, the first made anew up to so many. -/
def textA (n : Nd) (made c : Nat) (j : Nat) : ByteArray := if firstZ n.kind ≤ j ∧ j < firstZ n.kind + c then freshZ (made + (j - firstZ n.kind)) else if j = 0 then n.a else if j = 1 then n.b else n.c

theorem textA_ren {n : Nd} (sc : Sco) (made : Nat) (h5 : n.kind ≠ 5) : renZ n sc made = { n with a := textA n made (makesZ n.kind) 0, b := textA n made (makesZ n.kind) 1, c := textA n made (makesZ n.kind) 2 } := by
  obtain ⟨kd, num, a, b, c, kids⟩ := n
  dsimp only at *
  unfold renZ textA firstZ makesZ
  dsimp only
  rw [if_neg h5]
  by_cases h6 : kd = 6
  · subst h6; simp
  by_cases h25 : kd = 25
  · subst h25; simp
  by_cases h8 : kd = 8
  · subst h8; simp
  by_cases h9 : kd = 9
  · subst h9; simp
  by_cases h20 : kd = 20
  · subst h20; simp
  by_cases h26 : kd = 26
  · subst h26; simp
  by_cases h22 : kd = 22
  · subst h22; simp
  · simp [h6, h25, h8, h9, h20, h26, h22]

theorem news_take_succ (k : Int) (made c : Nat) (h : c < makesZ k) : (newsZ k made).take (c + 1) = (newsZ k made).take c ++ [freshZ (made + c)] := by
  have h2 := makesZ_le k
  unfold newsZ
  have : makesZ k = 1 ∨ makesZ k = 2 := by omega
  rcases this with e | e
  · rw [e] at h ⊢
    have : c = 0 := by omega
    subst this
    rfl
  · rw [e] at h ⊢
    have : c = 0 ∨ c = 1 := by omega
    rcases this with rfl | rfl <;> rfl

/-- Names were made: the plainer, the new names, the node's texts. -/
def Nmd (W0 : World) (Pb : Nat) (tv : Value) (s : Wst) (vo : Value) (W W3 : World) (ab : Nat) (n : Nd) (sc : Sco) (nw : Value) (X : World) : Prop :=
  Mkg W0 Pb tv s vo W W3 ab (makesZ n.kind) X ∧ X.ownsRow W3.heap.size 9 1 nw (newsZ n.kind s.made).length (strRow (newsZ n.kind s.made)) ∧ ∃ f, Rw X ab 9 3 f 3 ∧ f 0 = .string (renS n sc s.made).a ∧ f 1 = .string (renS n sc s.made).b ∧ f 2 = .string (renS n sc s.made).c

theorem renS_same (n : Nd) (sc : Sco) (made : Nat) : (renS n sc made).kind = n.kind ∧ (renS n sc made).num = n.num ∧ (renS n sc made).kids = n.kids := by
  unfold renS renZ
  repeat' split
  all_goals exact ⟨rfl, rfl, rfl⟩

theorem snoc_get {xs : List Value} {x : Value} {c : Nat} (h : xs.length = c) : (xs ++ [x])[c]? = some x := by
  subst h
  simp

theorem textA_next (n : Nd) (made c : Nat) (j : Nat) (hj : j ≠ firstZ n.kind + c) : textA n made (c + 1) j = textA n made c j := by
  unfold textA
  by_cases h : firstZ n.kind ≤ j ∧ j < firstZ n.kind + c
  · rw [if_pos h, if_pos ⟨h.1, by omega⟩]
  · rw [if_neg h, if_neg (by omega)]

theorem textA_here (n : Nd) (made c : Nat) : textA n made (c + 1) (firstZ n.kind + c) = freshZ (made + c) := by
  unfold textA
  rw [if_pos ⟨by omega, by omega⟩]
  congr 1
  omega

set_option maxHeartbeats 8000000 in
set_option maxRecDepth 100000 in
theorem part_calls {W0 : World} {Pb b off cap : Nat} {ns : List Nd} (hm : ns.length ≤ 300) (hok : ∀ m ∈ ns, m.kind = 9 → m.kids ≤ 2) (hb0 : b < W0.heap.size) (hbP : b ≠ Pb) (hn0 : NodesAt W0 b off ns) :
    ∀ (N : Nat) (n : Nd) (k : Fo) (suf : List Nd) (p : Nat) (sc : Sco) (s : Wst) (vo fv tv : Value) (W : World), ns.drop p = n :: (k.flat ++ suf) → n.kids = k.count → k.wf → k.flat.length < N → Pls W0 Pb (.slice (some ⟨b, off, none⟩) ns.length cap) s vo W → NamesT W fv (fromZ sc) → NamesT W tv (toZ sc) → sc.length + 2 * k.flat.length ≤ 1000 → Room (k.flat.length + 1) s →
    Calls Tryz.prog 19 #[.pointer (some ⟨Pb, 0, none⟩), .int .i64 (p : Int), fv, tv] W fun e W' => (∃ x, e = .returned x) ∧ ∃ vo', Pls W0 Pb (.slice (some ⟨b, off, none⟩) ns.length cap) (walkS n k sc s) vo' W' ∧ Pfr Pb vo W W' ∧ Movd W vo vo' := by
  intro N
  induction N with
  | zero => intro n k suf p sc s vo fv tv W _ _ _ h; omega
  | succ N ih =>
    intro n k suf p sc s vo fv tv W hp hkc hk hN st hfv htv hsl hroom
    obtain ⟨hpl, hpn, hp1⟩ := at_drop hp
    have HNd : Hid (∀ X, (∀ q, q < W0.heap.size → q ≠ Pb → X.heap[q]? = W0.heap[q]?) → NodesAt X b off ns) := fun X hX j hj c hc => (World.cell?_of_block (a := ⟨b, off + j * 6 + c, none⟩) (hX b hb0 hbP)).trans (hn0 j hj c hc)
    have hn := HNd.out W st.kept
    have c0 := hn p hpl 0 (by omega)
    have c1 := hn p hpl 1 (by omega)
    have c2 := hn p hpl 2 (by omega)
    have c3 := hn p hpl 3 (by omega)
    have c4 := hn p hpl 4 (by omega)
    have c5 := hn p hpl 5 (by omega)
    rw [hpn] at c0 c1 c2 c3 c4 c5
    simp only [Nd.cell, Nat.add_zero] at c0 c1 c2 c3 c4 c5
    have d0 := cell_of_heap st.blk 0
    simp at d0
    have HIH := hid ih
    have HM := hid hm
    have HP1 := hid hp1
    have HWf := hid hk
    have HNl := hid hN
    have HSt := hid st
    have HFv := hid hfv
    have HTv := hid htv
    have HSl := hid hsl
    have HRm := hid hroom
    have HK9 := hid (hok n (by rw [← List.take_append_drop p ns, hp]; simp))
    have HPl := hid hpl
    obtain ⟨adf, cpf, hvf⟩ := hfv.slice
    obtain ⟨adt, cpt, hvt⟩ := htv.slice
    obtain ⟨kd, num, a, bb, cc, kids⟩ := n
    dsimp only at *
    obtain ⟨kc, hkc'⟩ : ∃ kc, k.count = kc := ⟨_, rfl⟩
    rw [hkc'] at hkc
    have HKc := hid hkc'
    have HCt : Hid (k.count ≤ 1000) := by
      show _ ≤ _
      have := Fo.count_le k
      omega
    subst hkc
    obtain ⟨len, hlen⟩ : ∃ len, ns.length = len := ⟨_, rfl⟩
    have Hlen := hid hlen
    rw [hlen] at hpl d0 HSt ⊢
    have hpl2 : (p : Int) < (len : Int) := by omega
    have hp0 : (0 : Int) ≤ (p : Int) := by omega
    obtain ⟨TG, hTG⟩ : ∃ TG, walkS ⟨kd, num, a, bb, cc, kc⟩ k sc s = TG := ⟨_, rfl⟩
    have HTG := hid hTG
    rw [hTG]
    rw [from_len] at hvf
    rw [to_len] at hvt
    subst hvf
    subst hvt
    clear ih hn hm hp1 hk hN st hfv htv hp hpn hkc' hlen hsl hroom hTG
    have hA1 := (MapKept.heap_alloc W (.cells #[.int .i64 kd, .int .i64 num, .string a, .string bb, .string cc, .int .i64 (kc : Int)] 42)).1
    have hB1 := (Below.refl W.heap.size W).alloc (Nat.le_refl _) (.cells #[.int .i64 kd, .int .i64 num, .string a, .string bb, .string cc, .int .i64 (kc : Int)] 42)
    obtain ⟨W1, hW1⟩ : ∃ W1, W.alloc (.cells #[.int .i64 kd, .int .i64 num, .string a, .string bb, .string cc, .int .i64 (kc : Int)] 42) = W1 := ⟨_, rfl⟩
    have hz1 : W1.heap.size = W.heap.size + 1 := by rw [← hW1]; simp
    have hA2 := (MapKept.heap_alloc W1 (.cells #[.int .i64 kd, .int .i64 num, .string a, .string bb, .string cc, .int .i64 (kc : Int)] 42)).1
    have hB2 := (Below.refl W1.heap.size W1).alloc (Nat.le_refl _) (.cells #[.int .i64 kd, .int .i64 num, .string a, .string bb, .string cc, .int .i64 (kc : Int)] 42)
    obtain ⟨W2, hW2⟩ : ∃ W2, W1.alloc (.cells #[.int .i64 kd, .int .i64 num, .string a, .string bb, .string cc, .int .i64 (kc : Int)] 42) = W2 := ⟨_, rfl⟩
    have hz2 : W2.heap.size = W.heap.size + 2 := by rw [← hW2]; simp [hz1]
    have hA3 := (MapKept.heap_alloc W2 (.cells #[.string a, .string bb, .string cc] 9)).1
    have hB3 := (Below.refl W2.heap.size W2).alloc (Nat.le_refl _) (.cells #[.string a, .string bb, .string cc] 9)
    obtain ⟨W3, hW3⟩ : ∃ W3, W2.alloc (.cells #[.string a, .string bb, .string cc] 9) = W3 := ⟨_, rfl⟩
    have hz3 : W3.heap.size = W.heap.size + 3 := by rw [← hW3]; simp [hz2]
    have HEq := hid (And.intro hW1 (And.intro hW2 hW3))
    rw [hW1] at hA1 hB1
    rw [hW2] at hA2 hB2
    rw [hW3] at hA3 hB3
    have hBW : Below W.heap.size W W3 := hB1.trans (((hB2.trans (hB3.mono hB2.size)).mono (by omega)))
    have HB3 := hid hBW
    have HX1 := hid ((hB3.block _ (by rw [hz2]; omega)).trans ((hB2.block _ (by rw [hz1]; omega)).trans hA1))
    have HX2 := hid ((hB3.block _ (by rw [hz2, hz1]; omega)).trans hA2)
    have HX3 := hid hA3
    rw [hz1] at HX2
    rw [hz2] at HX3
    have HZ3 := hid hz3
    clear hW1 hW2 hW3 hA1 hA2 hA3 hB1 hB2 hB3 hBW
    go_enter Tryz.func19, Tryz.ntmps19
    have HFz : Hid (firstZ kd ≤ 1) := by show _ ≤ _; unfold firstZ; split <;> omega
    have x1 := cell_of_heap HX1.out 0
    simp at x1
    go_upto_region 4 with fail
    obtain ⟨hq1, hq2, hq3⟩ := HEq.out
    rw [hq1, hq2, hq3]
    clear hq1 hq2 hq3 HEq
    go_cut [39] from 32 to 39 (fun t wx => t = .bool (firstZ kd == 1) ∧ wx = W3)
    case first =>
      by_cases k26 : (kd == 26) = true
      · have HF : Hid (firstZ kd = 1) := by show _ = _; unfold firstZ; rw [if_pos (Or.inl (eq_of_beq k26))]
        go_wp2_with fail
        go_meet
        exact ⟨by rw [HF.out]; rfl, rfl⟩
      · by_cases k22 : (kd == 22) = true
        · have HF : Hid (firstZ kd = 1) := by show _ = _; unfold firstZ; rw [if_pos (Or.inr (eq_of_beq k22))]
          go_wp2_with fail
          go_meet
          exact ⟨by rw [HF.out]; rfl, rfl⟩
        · have HF : Hid (firstZ kd = 0) := by
            show _ = _
            unfold firstZ
            rw [if_neg]
            rintro (h | h)
            · exact k26 (by rw [h]; rfl)
            · exact k22 (by rw [h]; rfl)
          go_wp2_with fail
          go_meet
          exact ⟨by rw [HF.out]; rfl, rfl⟩
    case rest =>
    obtain ⟨rfl, hwc⟩ := hcut
    rw [hwc]
    clear hwc wc x1
    go_upto_if 39 with fail
    go_cut [11] from 32 to 39 (fun f wx => f = .int .i64 (firstZ kd : Int) ∧ wx = W3)
    case first =>
      have hfc : firstZ kd = 0 ∨ firstZ kd = 1 := by have := HFz.out; omega
      rcases hfc with h | h
      · have hb : (firstZ kd == 1) = false := by rw [h]; rfl
        have HF := hid h
        clear h
        rw [hb]
        go_wp2_with fail
        go_meet
        exact ⟨by rw [HF.out]; rfl, rfl⟩
      · have hb : (firstZ kd == 1) = true := by rw [h]; rfl
        have HF := hid h
        clear h
        rw [hb]
        go_wp2_with fail
        go_meet
        exact ⟨by rw [HF.out]; rfl, rfl⟩
    case rest =>
    obtain ⟨rfl, hwc⟩ := hcut
    rw [hwc]
    clear hwc wc
    have HTq : Hid (∀ X, Below W3.heap.size W3 X → NamesT X (.slice adf sc.length cpf) (fromZ sc) ∧ NamesT X (.slice adt sc.length cpt) (toZ sc)) := fun X hX => ⟨(HFv.out.below HB3.out).below hX, (HTv.out.below HB3.out).below hX⟩
    have HVl : Hid (∀ q, vo.ownBlock = some q → q < W.heap.size) := fun q e => (HSt.out.row.lt q e).2
    have HMk0 : Hid (Mkg W0 Pb (.slice (some ⟨b, off, none⟩) len cap) s vo W W3 (W.heap.size + 2) 0 W3) := ⟨HSt.out.below HB3.out, Nfr.of_below HB3.out, Nat.le_refl _, fun _ _ _ _ => rfl, HVl.out, HSt.out.size, by rw [HZ3.out]; omega⟩
    have HRw0 : Hid (∃ f, Rw W3 (W.heap.size + 2) 9 3 f 3 ∧ f 0 = .string a ∧ f 1 = .string bb ∧ f 2 = .string cc) := ⟨fun i => #[Value.string a, .string bb, .string cc].getD i undef, ⟨_, (0, 0), HX3.out, rfl, fun i hi => by
      have : i = 0 ∨ i = 1 ∨ i = 2 := by omega
      rcases this with rfl | rfl | rfl <;> rfl, Or.inl rfl⟩, rfl, rfl, rfl⟩
    go_upto_block 0 with fail
    go_cut [11, 12, 13] from 40 to 74 (fun _ nw _ wx => Hid (Nmd W0 Pb (.slice (some ⟨b, off, none⟩) len cap) s vo W W3 (W.heap.size + 2) ⟨kd, num, a, bb, cc, kc⟩ sc nw wx))
    case first =>
      by_cases k5 : (kd == 5) = true
      · have e5 := hid (show kd = 5 from eq_of_beq k5)
        have hf0 : (firstZ kd : Int) = 0 := by rw [e5.out]; rfl
        have HNm : Hid (∀ X, Calls Tryz.prog 33 #[.int .i64 kd] X fun e w' => e = .returned (.int .i64 1) ∧ X = w') := fun X => by
          have := names_calls kd X
          rwa [show namesZ kd = 1 by rw [e5.out]; rfl] at this
        have HNw := hid (fun (X : World) (hX : Below W3.heap.size W3 X) => now_calls a X (HTq.out X hX).1.names (HTq.out X hX).2.names (by have := HSl.out; omega))
        have x1 := cell_of_heap HX1.out 0
        simp at x1
        have y0 := cell_of_heap HX3.out 0
        have z0 := frozen_of_heap HX3.out 0
        simp at y0
        rw [hf0]
        clear hf0
        go_wp2_with fail
        refine wp_loop_rounds 2 ?_
        rw [rounds_succ]
        go_wp2_with fail
        refine (HNm.out _).mono ?_
        rintro e _ ⟨rfl, rfl⟩
        go_wp2_with fail
        refine (HNw.out _ (Below.refl _ _)).mono ?_
        rintro e _ ⟨rfl, rfl⟩
        go_wp2_with fail
        rw [rounds_succ]
        have x2 := (World.cell?_setCell_far W3 ⟨W.heap.size + 2, 0, none⟩ ⟨W.heap.size, 0, none⟩ (.string ((findS sc a).getD a)) (by simp)).trans x1
        obtain ⟨na, hna⟩ : ∃ na, (findS sc a).getD a = na := ⟨_, rfl⟩
        have HNa := hid hna
        rw [hna] at x2
        rw [hna]
        clear hna
        go_wp2_with fail
        refine (HNm.out _).mono ?_
        rintro e _ ⟨rfl, rfl⟩
        go_wp2_with fail
        go_meet
        have hmk0 : makesZ kd = 0 := by rw [e5.out]; rfl
        have hnw0 : newsZ kd s.made = [] := by unfold newsZ; rw [if_pos hmk0]
        refine ⟨?_, ?_, ?_⟩
        · dsimp only
          rw [hmk0]
          exact HMk0.out.grown (kept_set (kept_refl W3 (some (W.heap.size + 2))) 0 (.string na)) (fun q e => Or.inl (by cases e; rfl))
        · dsimp only
          rw [hnw0]
          exact World.ownsRow_nil _ _ _ _
        · obtain ⟨f, hr, h0, h1, h2⟩ := HRw0.out
          obtain ⟨f', hr', h3, h4⟩ := hr.put 0 (.string na)
          refine ⟨f', hr', ?_⟩
          unfold renS
          dsimp only
          rw [if_pos e5.out, HNa.out]
          exact ⟨h3, (h4 1 (by omega)).trans h1, (h4 2 (by omega)).trans h2⟩
      · have HNm : Hid (∀ X, Calls Tryz.prog 33 #[.int .i64 kd] X fun e w' => e = .returned (.int .i64 ((firstZ kd + makesZ kd : Nat) : Int)) ∧ X = w') := fun X => by
          have := names_calls kd X
          rwa [names_first (fun e => k5 (by rw [e]; rfl))] at this
        have HRen := hid (textA_ren (n := ⟨kd, num, a, bb, cc, kc⟩) sc s.made (fun e => k5 (by rw [show kd = 5 from e]; rfl)))
        have HRs : Hid (renS ⟨kd, num, a, bb, cc, kc⟩ sc s.made = renZ ⟨kd, num, a, bb, cc, kc⟩ sc s.made) := by
          show _ = _
          unfold renS
          rw [if_neg (fun e => k5 (by rw [show kd = 5 from e]; rfl))]
        have HM2 := hid (makesZ_le kd)
        dsimp only at HRen
        have k5b : (kd == 5) = false := by simpa using k5
        clear k5
        obtain ⟨mk, hmk⟩ : ∃ mk, makesZ kd = mk := ⟨_, rfl⟩
        obtain ⟨f0, hf0⟩ : ∃ f0, firstZ kd = f0 := ⟨_, rfl⟩
        have HMk := hid hmk
        have HF0 := hid hf0
        rw [hmk, hf0] at HNm
        rw [hf0]
        rw [hf0] at HFz
        rw [hmk] at HM2
        clear hmk hf0
        go_wp2_with fail
        go_loopw [12, 13] (fun nw i wr => ∃ (i' c : Nat), i = .int .i64 (i' : Int) ∧ Hid (i' = f0 + c ∧ c ≤ mk) ∧ Hid (Mkg W0 Pb (.slice (some ⟨b, off, none⟩) len cap) s vo W W3 (W.heap.size + 2) c wr) ∧ Hid (wr.ownsRow W3.heap.size 9 1 nw ((newsZ kd s.made).take c).length (strRow ((newsZ kd s.made).take c))) ∧ Hid (∃ f, Rw wr (W.heap.size + 2) 9 3 f 3 ∧ ∀ j, j < 3 → f j = .string (textA ⟨kd, num, a, bb, cc, kc⟩ s.made c j))) (fun _ i _ => f0 + mk - (intOf i).toNat)
        case atStart =>
          refine ⟨f0, 0, rfl, ⟨rfl, Nat.zero_le _⟩, HMk0, World.ownsRow_nil _ _ _ _, ?_⟩
          obtain ⟨f, hr, h0, h1, h2⟩ := HRw0.out
          refine ⟨f, hr, fun j hj => ?_⟩
          have hj3 : j = 0 ∨ j = 1 ∨ j = 2 := by omega
          unfold textA
          rw [if_neg (by omega)]
          rcases hj3 with rfl | rfl | rfl
          · exact h0
          · exact h1
          · exact h2
        case round =>
          obtain ⟨i', c, rfl, HI, HK, HO, HR⟩ := hrel
          have x1 := cell_of_heap ((HK.out.blk W.heap.size (Nat.le_refl _) (by rw [HZ3.out]; omega) (by omega)).trans HX1.out) 0
          simp at x1
          by_cases hc : c < mk
          · have hi : (i' : Int) < ((f0 + mk : Nat) : Int) := by have := HI.out.1; omega
            have hi3 : (i' : Int) < 3 := by have := HI.out.1; have := HFz.out; have := HM2.out; omega
            have hi0 : (0 : Int) ≤ (i' : Int) := by omega
            have hc2 : (c : Int) < 2 := by have := HM2.out; omega
            have hlc : ((newsZ kd s.made).take c).length = c := by rw [List.length_take, newsZ_len, HMk.out]; omega
            have ho := HO.out
            rw [hlc] at ho
            have HO1 := hid ho
            have HFr := hid (fresh_spec wr HK.out.st (by have := HRm.out.made; dsimp only; omega))
            dsimp only at HFr
            have HTk := hid (news_take_succ kd s.made c (by rw [HMk.out]; exact hc))
            have HHr := hid (textA_here ⟨kd, num, a, bb, cc, kc⟩ s.made c)
            have HNt := hid (fun j hj => textA_next ⟨kd, num, a, bb, cc, kc⟩ s.made c j hj)
            dsimp only at HHr HNt
            rw [HF0.out] at HHr HNt
            generalize freshZ (s.made + c) = fr at *
            have HLc : Hid ((strRow ((newsZ kd s.made).take c)).length = c) := by show _ = _; rw [strRow_len]; exact hlc
            clear ho hlc HO
            go_wp2_with fail
            refine (HNm.out _).mono ?_
            rintro e _ ⟨rfl, rfl⟩
            go_wp2_with fail
            refine HFr.out.mono ?_
            rintro e X1 ⟨rfl, st1, f1⟩
            have K1 := hid (HK.out.fresh st1 f1)
            have own1 := hid (own_same HO1.out (fun g e => f1.block g (HO1.out.lt g e).2 (HK.out.apart (by have := (HO1.out.lt g e).1; rw [HZ3.out] at this; omega)).1 (HK.out.apart (by have := (HO1.out.lt g e).1; rw [HZ3.out] at this; omega)).2 (by simp [Value.ownBlock])))
            have HR1 : Hid (∃ f, Rw X1 (W.heap.size + 2) 9 3 f 3 ∧ ∀ j, j < 3 → f j = .string (textA ⟨kd, num, a, bb, cc, kc⟩ s.made c j)) := by
              obtain ⟨f, hr, hf⟩ := HR.out
              exact ⟨f, hr.of_block (f1.block _ hr.lt (HK.out.apart (by omega)).1 (HK.out.apart (by omega)).2 (by simp [Value.ownBlock])), hf⟩
            clear st1 f1 HFr HK HO1 HR x1
            obtain ⟨i0, hinf, hz0, hz1, hz2⟩ := info_parts info_str
            go_wp2_with (first
              | (at_builtin; refine wpList_append_own_at _ rfl _ _ 30 rfl W3.heap.size 9 i0 (.string ⟨#[]⟩) 1 16 Tryz.underlying30 hinf hz0 hz1 hz2 rfl (by decide) _ _ _ rfl (own1.out.alloc _) ⟨X1.heap.size, 0, none⟩ 1 1 [.string fr] rfl rfl (cell_one_new _ _ rfl _ _) (fun x hx => by simp at hx; subst hx; rfl) (by unfold maxLen; omega) (by omega) (by have := K1.out.size; simp; omega) ?_
                 intro v5 w5 hown5 hgrow5 hnil5 hat5
                 obtain ⟨g5, cp5, rfl, hc5, hB5, hl5⟩ := own_last hown5
                 have K2 := hid ((K1.out.grown (grown_of_below ((Below.refl X1.heap.size X1).alloc (Nat.le_refl _) (.cells #[.string fr] 9)) none) (fun q e => by cases e)).grown hgrow5 (fun q e => Or.inr ((own1.out.lt q e).1)))
                 have HR2 : Hid (∃ f, Rw w5 (W.heap.size + 2) 9 3 f 3 ∧ ∀ j, j < 3 → f j = .string (textA ⟨kd, num, a, bb, cc, kc⟩ s.made c j)) := (by
                   obtain ⟨f, hr, hf⟩ := HR1.out
                   refine ⟨f, hr.of_block ((hgrow5.block _ (by have := hr.lt; simp; omega) (fun e => ?_)).trans (Below.heap_alloc _ _ _ hr.lt)), hf⟩
                   have := (own1.out.lt _ e.symm).1
                   rw [HZ3.out] at this
                   omega)
                 have O5 := hid hown5
                 have hc6 : w5.cell? ⟨g5, c, none⟩ = some (.string fr) := hc5.trans (snoc_get HLc.out)
                 obtain ⟨f2, hr2, hf2⟩ := HR2.out
                 have q2 := hr2.cell (i := i') (by omega)
                 have z2 := hr2.frozen i' (by omega)
                 have HF2 := hid (And.intro hr2 hf2)
                 have HG5 := hid (And.intro hB5 hl5)
                 clear hown5 hgrow5 hnil5 hat5 hc5 hr2 hf2 HR2 hB5 hl5))
            have hs : f0 + mk - (intOf (.int .i64 ((i' + 1 : Nat) : Int))).toNat < f0 + mk - (intOf (.int .i64 (i' : Int))).toNat := by simp only [intOf, Int.toNat_natCast]; omega
            try rw [wrap_inc (n := 3) (by omega) (by decide)]
            obtain ⟨f3, hr3, h3, h4⟩ := HF2.out.1.put i' (.string fr)
            refine ⟨⟨i' + 1, c + 1, rfl, ⟨by have := HI.out.1; omega, hc⟩, K2.out.grown (kept_set (kept_refl w5 (some (W.heap.size + 2))) i' (.string fr)) (fun q e => Or.inl (by cases e; rfl)), ?_, ?_⟩, hs⟩
            · have hl2 : ((newsZ kd s.made).take (c + 1)).length = c + 1 := by
                have := congrArg List.length HTk.out
                rw [this, List.length_append]
                have := HLc.out
                rw [strRow_len] at this
                rw [this]
                rfl
              have e2 : strRow ((newsZ kd s.made).take (c + 1)) = strRow ((newsZ kd s.made).take c) ++ [.string fr] := by rw [HTk.out, strRow_snoc]
              rw [hl2, e2]
              exact own_same O5.out (fun q e => Below.heap_setCell w5 ⟨W.heap.size + 2, i', none⟩ _ q (fun e2 => by have := (O5.out.lt q e).1; rw [HZ3.out] at this; dsimp only at e2; omega))
            · refine ⟨f3, hr3, fun j hj => ?_⟩
              have hii := HI.out.1
              by_cases hji : j = i'
              · subst hji
                rw [h3]
                have := HHr.out
                rw [← hii] at this
                rw [this]
              · rw [h4 j hji, HF2.out.2 j hj, HNt.out j (by omega)]
          · have hcm : c = mk := by have := HI.out.2; omega
            have hi : i' = f0 + mk := by have := HI.out.1; omega
            subst hcm
            subst hi
            go_wp2_with fail
            refine (HNm.out _).mono ?_
            rintro e _ ⟨rfl, rfl⟩
            go_wp2_with fail
            go_meet
            refine ⟨by rw [HMk.out]; exact HK.out, ?_, ?_⟩
            · have := HO.out
              rwa [List.take_of_length_le (by rw [newsZ_len, HMk.out]; exact Nat.le_refl _)] at this
            · obtain ⟨f, hr, hf⟩ := HR.out
              refine ⟨f, hr, ?_⟩
              rw [HRs.out, HRen.out, HMk.out]
              exact ⟨hf 0 (by omega), hf 1 (by omega), hf 2 (by omega)⟩
    case rest =>
    obtain ⟨K, O, f, hr, e0, e1, e2⟩ := hcut.out
    dsimp only at K O
    obtain ⟨m, hm⟩ : ∃ m, renS ⟨kd, num, a, bb, cc, kc⟩ sc s.made = m := ⟨_, rfl⟩
    have HMr := hid hm
    have hmf : m.kind = kd ∧ m.num = num ∧ m.kids = (kc : Int) := by
      rw [← hm]
      exact renS_same _ _ _
    rw [hm] at e0 e1 e2
    obtain ⟨mk, mn, ma, mb, mc, mi⟩ := m
    dsimp only at hmf e0 e1 e2
    obtain ⟨rfl, rfl, rfl⟩ := hmf
    have y0 := hr.cell (i := 0) (by omega)
    have y1 := hr.cell (i := 1) (by omega)
    have y2 := hr.cell (i := 2) (by omega)
    rw [e0] at y0
    rw [e1] at y1
    rw [e2] at y2
    have hxb := (K.blk (W.heap.size + 1) (by omega) (by rw [HZ3.out]; omega) (by omega)).trans HX2.out
    have HK := hid K
    have HO := hid O
    have HXb := hid hxb
    have HXn := hid ((K.blk W.heap.size (Nat.le_refl _) (by rw [HZ3.out]; omega) (by omega)).trans HX1.out)
    have r2 := cell_of_heap hxb 2
    have r3 := cell_of_heap hxb 3
    have r4 := cell_of_heap hxb 4
    have t2 := frozen_of_heap hxb 2
    have t3 := frozen_of_heap hxb 3
    have t4 := frozen_of_heap hxb 4
    simp at r2 r3 r4
    clear hcut K O hr e0 e1 e2 hxb hm HRw0 HMk0 HVl HX3 HX2 HX1
    go_upto_region 17 with fail
    have hw0 := HK.out.w0
    have hz3 := HZ3.out
    have hch : wc.grownBy (((wc.setCell ⟨W.heap.size + 1, 2, none⟩ (.string ma)).setCell ⟨W.heap.size + 1, 3, none⟩ (.string mb)).setCell ⟨W.heap.size + 1, 4, none⟩ (.string mc)) (some (W.heap.size + 1)) := kept_set (kept_set (kept_set (kept_refl wc (some (W.heap.size + 1))) 2 (.string ma)) 3 (.string mb)) 4 (.string mc)
    have hbx := (box6_set (box6_set (box6_set HXb.out (.string ma)).1 (.string mb)).2.1 (.string mc)).2.2
    generalize ((wc.setCell ⟨W.heap.size + 1, 2, none⟩ (.string ma)).setCell ⟨W.heap.size + 1, 3, none⟩ (.string mb)).setCell ⟨W.heap.size + 1, 4, none⟩ (.string mc) = Y at *
    have St0 := hid (HK.out.st.grown hch (fun q e => by cases e; exact ⟨by omega, (HK.out.apart (by omega)).2⟩))
    have Fr0 : Hid (Pfr Pb vo W Y) := ⟨hch.os.trans HK.out.fr.os, hch.tape.trans HK.out.fr.tape, hch.output.trans HK.out.fr.output, Nat.le_trans HK.out.fr.size hch.size, fun q hq h4 h5 h6 => (hch.block q (Nat.lt_of_lt_of_le hq HK.out.fr.size) (fun e => by cases e; omega)).trans (HK.out.fr.block q hq h4 h5 h6)⟩
    have O0 := hid (own_same (W' := Y) HO.out (fun q e => hch.block q (HO.out.lt q e).2 (fun e2 => by cases e2; have := (HO.out.lt _ e).1; omega)))
    have HBn := hid ((hch.block W.heap.size (by have := HK.out.size; omega) (fun e => by have := Option.some.inj e; omega)).trans HXn.out)
    have HBx := hid hbx
    have HFv0 := hid (HFv.out.frame HSt.out Fr0.out)
    have HTv0 := hid (HTv.out.frame HSt.out Fr0.out)
    have Vap : Hid (vo.ownBlock ≠ some W.heap.size) := (HK.out.apart (Nat.le_refl _)).2
    clear hch hbx HXb HXn HK HO r2 r3 r4 t2 t3 t4 y0 y1 y2
    obtain ⟨adp, cpp, hvp⟩ := own_slice St0.out.row
    dsimp only at hvp
    subst hvp
    have d1 := cell_of_heap St0.out.blk 1
    simp at d1
    have hPl : Pb < Y.heap.size := heap_lt St0.out.blk
    have hxl : W.heap.size + 1 < Y.heap.size := heap_lt HBx.out
    have e0 := cell_of_heap HBx.out 0
    have e1 := cell_of_heap HBx.out 1
    have e2 := cell_of_heap HBx.out 2
    have e3 := cell_of_heap HBx.out 3
    have e4 := cell_of_heap HBx.out 4
    have e5 := cell_of_heap HBx.out 5
    simp at e0 e1 e2 e3 e4 e5
    have q0 : ∀ y : Later Y.heap.size Y, y.w.cell? ⟨Pb, 1, none⟩ = _ := fun y => y.cell hPl d1
    have p0 : ∀ y : Later Y.heap.size Y, y.w.cell? ⟨W.heap.size + 1, 0, none⟩ = _ := fun y => y.cell hxl e0
    have p1 : ∀ y : Later Y.heap.size Y, y.w.cell? ⟨W.heap.size + 1, 1, none⟩ = _ := fun y => y.cell hxl e1
    have p2 : ∀ y : Later Y.heap.size Y, y.w.cell? ⟨W.heap.size + 1, 2, none⟩ = _ := fun y => y.cell hxl e2
    have p3 : ∀ y : Later Y.heap.size Y, y.w.cell? ⟨W.heap.size + 1, 3, none⟩ = _ := fun y => y.cell hxl e3
    have p4 : ∀ y : Later Y.heap.size Y, y.w.cell? ⟨W.heap.size + 1, 4, none⟩ = _ := fun y => y.cell hxl e4
    have p5 : ∀ y : Later Y.heap.size Y, y.w.cell? ⟨W.heap.size + 1, 5, none⟩ = _ := fun y => y.cell hxl e5
    clear d1 e0 e1 e2 e3 e4 e5
    refine till_begin (c := 7) (S := fun w' => ∃ x : Later Y.heap.size Y, w' = x.w) (by kernel_rfl) ?_
    refine till_walk (by kernel_rfl) 6 0 _ _ (by kernel_rfl) (by kernel_rfl) ⟨⟨Y.drew, (Below.refl _ _).drew⟩, rfl⟩ ?_
    simp only [List.drop_zero, List.take_succ_cons, List.take_zero]
    repeat (go_big_quiet_step (fail))
    refine wpQuiet_nil ?_
    rintro w7 ⟨x1, rfl⟩
    have hL1 := x1.h
    clear q0 p0 p1 p2 p3 p4 p5
    generalize x1.w = X1 at *
    refine till_make (k := 6) (v := .slice (some ⟨X1.heap.size, 0, none⟩) 1 1) (w1 := X1.alloc (.cells #[.int .i64 mk, .int .i64 mn, .string ma, .string mb, .string mc, .int .i64 (kc : Int)] 42)) (by decide) rfl (by kernel_rfl) rfl (by simp [go_sem]) ⟨⟨_, hL1.alloc (by have := hL1.size; omega) _⟩, rfl⟩ (by simp [go_sem]; exact rfl) ?_
    have hE := (MapKept.heap_alloc X1 (.cells #[.int .i64 mk, .int .i64 mn, .string ma, .string mb, .string mc, .int .i64 (kc : Int)] 42)).1
    have hKx := hL1.trans (((Below.refl X1.heap.size X1).alloc (Nat.le_refl _) (.cells #[.int .i64 mk, .int .i64 mn, .string ma, .string mb, .string mc, .int .i64 (kc : Int)] 42)).mono hL1.size)
    generalize X1.alloc (.cells #[.int .i64 mk, .int .i64 mn, .string ma, .string mb, .string mc, .int .i64 (kc : Int)] 42) = X2 at *
    have St2 := hid (St0.out.below hKx)
    obtain ⟨i0, hi, hz0, hz1, hz2⟩ := info_parts info_nd
    have HRp : Hid (s.plain.length ≤ 90000) := by show _ ≤ _; have := HRm.out.plain; omega
    obtain ⟨vp2, X3, hrun, hown, hgrow, -, hat⟩ := run_append_own_at (P := Tryz.prog) X2 W0.heap.size 24 24 42 i0 _ 6 72 Tryz.underlying24 hi hz0 hz1 hz2 rfl (by decide) (.slice adp s.plain.length cpp) s.plain.length (ndRow s.plain) St2.out.row ⟨X1.heap.size, 0, none⟩ 1 1 [.int .i64 mk, .int .i64 mn, .string ma, .string mb, .string mc, .int .i64 (kc : Int)] rfl (fun j u hu => by
      match j, hu with
      | 0, hu => simp at hu; subst hu; exact cell_of_heap hE 0
      | 1, hu => simp at hu; subst hu; exact cell_of_heap hE 1
      | 2, hu => simp at hu; subst hu; exact cell_of_heap hE 2
      | 3, hu => simp at hu; subst hu; exact cell_of_heap hE 3
      | 4, hu => simp at hu; subst hu; exact cell_of_heap hE 4
      | 5, hu => simp at hu; subst hu; exact cell_of_heap hE 5) (fun u hu => by
      simp at hu
      rcases hu with rfl | rfl | rfl | rfl | rfl | rfl <;> rfl) (by have := HRp.out; unfold maxLen; omega) (by have := HRp.out; omega) St2.out.size
    have hnx := pls_plain (m := ⟨mk, mn, ma, mb, mc, kc⟩) St2.out hown hgrow hat
    refine till_cut (v := vp2) (w1 := X3) rfl (by kernel_rfl) rfl (append_run (s := .tmp 91) (x := .tmp 93) (t := 24) rfl rfl rfl hrun) (by simp [go_sem]; exact rfl) ?_
    refine any_stage (fun _ => True) ?_
    have hnbk : X3.heap[Pb]? = X2.heap[Pb]? := hgrow.block Pb (heap_lt St2.out.blk) (fun e => (St2.out.apart St2.out.blk) (by decide) e.symm)
    have hb3 := hnbk.trans St2.out.blk
    have d1 := cell_of_heap hb3 1
    have w1 := frozen_of_heap hb3 1
    simp at d1
    obtain ⟨ad2, cp2, hv2⟩ := own_slice hown
    subst hv2
    refine stage_make (k := 8) (v := .pointer (some ⟨Pb, 0, none⟩)) (w1 := X3) rfl (by kernel_rfl) rfl (by simp [go_sem]) trivial (by simp [go_sem]; exact rfl) ?_
    refine stage_make (k := 9) (v := .pointer (some ⟨Pb, 1, none⟩)) (w1 := X3) rfl (by kernel_rfl) rfl (by simp [go_sem]) trivial (by simp [go_sem]; exact rfl) ?_
    refine stage_skip (k := 10) rfl (w1 := X3.setCell ⟨Pb, 1, none⟩ (.slice ad2 (s.plain.length + 1) cp2)) rfl (by kernel_rfl) rfl (by simp [go_sem, d1, w1]) trivial ?_
    refine stage_end (by kernel_rfl) ?_
    have Fn0 : Free Pb W.heap.size (.slice adp s.plain.length cpp) (.slice none 0 0) Y := ⟨by omega, by have := St0.out.nb; have := HSt.out.size; omega, Vap.out, by simp [Value.ownBlock]⟩
    have g2 := Fn0.below hKx
    have g3 := g2.1.step hnx.2.1 hnx.2.2 (Or.inl rfl)
    have HFn := hid (And.intro g3.1 (g3.2.trans (g2.2.trans HBn.out)))
    have st3 := hid hnx.1
    have fr3 := hid ((Fr0.out.trans (Or.inl rfl) (Nfr.of_below hKx)).trans (Or.inl rfl) hnx.2.1)
    have mv3 : Hid (Movd W (.slice adp s.plain.length cpp) (.slice ad2 (s.plain.length + 1) cp2)) := by
      rcases hnx.2.2 with h | ⟨q, h, hq⟩
      · exact Or.inl h
      · exact Or.inr ⟨q, h, by have := Fr0.out.size; have := hKx.size; omega⟩
    have HFv3 := hid ((HFv0.out.below hKx).frame St2.out hnx.2.1)
    have HTv3 := hid ((HTv0.out.below hKx).frame St2.out hnx.2.1)
    have HNw3 := hid (((namesT_owns O0.out).below hKx).frame St2.out hnx.2.1)
    clear hnx hrun hown hgrow hat hE hKx hi hz0 hz1 hz2 hnbk hb3 d1 w1 St2 St0 Fr0 O0 HFv0 HTv0 HBn HBx Vap hL1 Fn0 g2 g3 hPl hxl HRp
    generalize X3.setCell ⟨Pb, 1, none⟩ (.slice ad2 (s.plain.length + 1) cp2) = Z at *
    have HTG2 : Hid (kidsS ⟨mk, mn, a, bb, cc, kc⟩ (renZ ⟨mk, mn, a, bb, cc, kc⟩ sc s.made) 0 k sc (stepS ⟨mk, mn, a, bb, cc, kc⟩ sc s) = TG) := HTG
    have HS8 : Hid (Pls W0 Pb (.slice (some ⟨b, off, none⟩) len cap) (stepS ⟨mk, mn, a, bb, cc, kc⟩ sc s) (.slice ad2 (s.plain.length + 1) cp2) Z) := st3.out.free (by unfold stepS; dsimp only; rw [HMr.out]) (by unfold stepS; rfl)
    have HRm8 : Hid (Room k.flat.length (stepS ⟨mk, mn, a, bb, cc, kc⟩ sc s)) := by
      have h1 := HRm.out.plain
      have h2 := HRm.out.free
      have h3 := HRm.out.made
      have h4 := lostZ_len ⟨mk, mn, a, bb, cc, kc⟩ sc
      have h5 := makesZ_le mk
      unfold stepS
      refine ⟨?_, ?_, ?_⟩
      · simp only [List.length_append, List.length_cons, List.length_nil]
        omega
      · simp only [List.length_append]
        omega
      · dsimp only
        omega
    generalize stepS ⟨mk, mn, a, bb, cc, kc⟩ sc s = s8 at *
    obtain ⟨nad, ncp, hnw⟩ := HNw3.out.slice
    rw [newsZ_len] at hnw
    subst hnw
    clear st3 HTG HMr HRm
    go_wp2_with fail
    rw [wrap_succ (by have := HPl.out; have := HM.out; omega)]
    generalize p + 1 = p1 at *
    go_loopw [14, 15, 16] (fun q i _ wr => ∃ (q' i' : Nat) (r : Fo) (s' : Wst) (vo' : Value), q = .int .i64 q' ∧ i = .int .i64 i' ∧ Hid (ns.drop q' = r.flat ++ suf ∧ r.wf ∧ i' + r.count = kc ∧ r.flat.length < N + 1 ∧ r.flat.length ≤ k.flat.length) ∧ Hid (Room r.flat.length s' ∧ kidsS ⟨mk, mn, a, bb, cc, kc⟩ (renZ ⟨mk, mn, a, bb, cc, kc⟩ sc s.made) i' r sc s' = TG) ∧ Hid (Pls W0 Pb (.slice (some ⟨b, off, none⟩) len cap) s' vo' wr ∧ Pfr Pb (.slice adp s.plain.length cpp) W wr ∧ Movd W (.slice adp s.plain.length cpp) vo') ∧ Hid (NamesT wr (.slice adf sc.length cpf) (fromZ sc) ∧ NamesT wr (.slice adt sc.length cpt) (toZ sc) ∧ NamesT wr (.slice nad (makesZ mk) ncp) (newsZ mk s.made)) ∧ Hid (Free Pb W.heap.size vo' (.slice none 0 0) wr ∧ wr.heap[W.heap.size]? = some (.cells #[.int .i64 mk, .int .i64 mn, .string a, .string bb, .string cc, .int .i64 (kc : Int)] 42))) (fun _ i _ _ => kc - (intOf i).toNat)
    case atStart => exact ⟨p1, 0, k, s8, _, rfl, rfl, ⟨HP1.out, HWf.out, by rw [HKc.out]; omega, HNl.out, Nat.le_refl _⟩, ⟨HRm8.out, HTG2.out⟩, ⟨HS8.out, fr3.out, mv3.out⟩, ⟨HFv3.out, HTv3.out, HNw3.out⟩, HFn⟩
    case round =>
      obtain ⟨q', i', r, s', vo', rfl, rfl, HR, HRT, HPs, HNs, HFr⟩ := hrel
      have x5 := cell_of_heap HFr.out.2 5
      simp at x5
      cases r with
      | none =>
        obtain ⟨_, _, h1, _, _⟩ := HR.out
        have h2 := HRT.out.2
        simp only [Fo.count, kidsS] at h1 h2
        have h1' : i' = kc := by omega
        subst h1'
        subst h2
        clear HR h1 HRT
        go_wp2_with fail
        go_end0
        exact ⟨⟨_, rfl⟩, _, HPs.out.1, HPs.out.2.1, HPs.out.2.2⟩
      | tree n' k' r' =>
        obtain ⟨h0, hw, h1, h3, h3'⟩ := HR.out
        obtain ⟨hw0', hw1, hw2⟩ := hw
        simp only [Fo.count, Fo.flat, List.length_cons, List.length_append] at h1 h3 h3'
        simp only [Fo.flat, List.cons_append, List.append_assoc] at h0
        obtain ⟨hql, hqn, hq1⟩ := at_drop h0
        have hend : treeEnd ns q' = _ := treeEnd_at h0 hw0' hw1
        have hnew := drop_past hq1
        have hkt := HRT.out.2
        rw [kidsS_tree] at hkt
        have hi : (i' : Int) < (kc : Int) := by omega
        have hkl := knownZ_len ⟨mk, mn, a, bb, cc, kc⟩ i'
        have hkn := known_news ⟨mk, mn, a, bb, cc, kc⟩ sc s.made i'
        have hof := open_from ⟨mk, mn, a, bb, cc, kc⟩ sc s.made i' sc
        have hrm := HRT.out.1
        simp only [Fo.flat, List.length_cons, List.length_append] at hrm
        have hrm1 : Room (k'.flat.length + 1) s' := ⟨by have := hrm.plain; omega, by have := hrm.free; omega, by have := hrm.made; omega⟩
        have hrm2 : Room r'.flat.length (walkS n' k' (openS ⟨mk, mn, a, bb, cc, kc⟩ (renZ ⟨mk, mn, a, bb, cc, kc⟩ sc s.made) i' sc) s') := walkS_room (by
          have e : 1 + k'.flat.length + r'.flat.length = k'.flat.length + r'.flat.length + 1 := by omega
          rw [e]
          exact hrm)
        have HNx : Hid ((ns.drop (q' + 1 + k'.flat.length) = r'.flat ++ suf ∧ r'.wf ∧ i' + 1 + r'.count = kc ∧ r'.flat.length < N + 1 ∧ r'.flat.length ≤ k.flat.length) ∧ Room r'.flat.length (walkS n' k' (openS ⟨mk, mn, a, bb, cc, kc⟩ (renZ ⟨mk, mn, a, bb, cc, kc⟩ sc s.made) i' sc) s') ∧ kidsS ⟨mk, mn, a, bb, cc, kc⟩ (renZ ⟨mk, mn, a, bb, cc, kc⟩ sc s.made) (i' + 1) r' sc (walkS n' k' (openS ⟨mk, mn, a, bb, cc, kc⟩ (renZ ⟨mk, mn, a, bb, cc, kc⟩ sc s.made) i' sc) s') = TG) := ⟨⟨hnew, hw2, by omega, by omega, by omega⟩, hrm2, hkt⟩
        have hsl2 : (openS ⟨mk, mn, a, bb, cc, kc⟩ (renZ ⟨mk, mn, a, bb, cc, kc⟩ sc s.made) i' sc).length + 2 * k'.flat.length ≤ 1000 := by
          rw [← from_len, hof.1, List.length_append, from_len]
          have := HSl.out
          omega
        have HC := hid (fun (X : World) (vo'' fv tv : Value) (h1 : Pls W0 Pb (.slice (some ⟨b, off, none⟩) ns.length cap) s' vo'' X) (h2 : NamesT X fv (fromZ sc ++ knownZ ⟨mk, mn, a, bb, cc, kc⟩ i')) (h3 : NamesT X tv (toZ sc ++ (newsZ mk s.made).take (knownZ ⟨mk, mn, a, bb, cc, kc⟩ i').length)) => HIH.out n' k' (r'.flat ++ suf) q' (openS ⟨mk, mn, a, bb, cc, kc⟩ (renZ ⟨mk, mn, a, bb, cc, kc⟩ sc s.made) i' sc) s' vo'' fv tv X h0 hw0' hw1 (by omega) h1 (by rw [hof.1]; exact h2) (by rw [hof.2]; exact h3) hsl2 hrm1)
        rw [Hlen.out] at HC
        have HQ := hid (And.intro hql hend)
        have HBi := hid (fun X => binds_calls ⟨mk, mn, a, bb, cc, kc⟩ i' X (fun e => by have := HK9.out e; omega))
        unfold ndV at HBi
        dsimp only at HBi
        have HKn := hid (And.intro hkl hkn.2)
        obtain ⟨KS, hKS⟩ : ∃ KS, knownZ ⟨mk, mn, a, bb, cc, kc⟩ i' = KS := ⟨_, rfl⟩
        rw [hKS] at HC HBi HKn
        generalize walkS n' k' (openS ⟨mk, mn, a, bb, cc, kc⟩ (renZ ⟨mk, mn, a, bb, cc, kc⟩ sc s.made) i' sc) s' = s9 at *
        dsimp only at HKn
        have x0 := cell_of_heap HFr.out.2 0
        have x1 := cell_of_heap HFr.out.2 1
        have x2 := cell_of_heap HFr.out.2 2
        have x3 := cell_of_heap HFr.out.2 3
        have x4 := cell_of_heap HFr.out.2 4
        simp at x0 x1 x2 x3 x4
        clear HR HRT h0 hw0' hw1 hw2 hql hqn hq1 hend hnew hkt h1 h3 h3' hkl hkn hof hrm hrm1 hrm2 hsl2 hKS
        go_wp2_with fail
        refine (HBi.out wr).mono ?_
        rintro e W9 ⟨sv, rfl, hnv, hb9⟩
        obtain ⟨adb, cpb, rfl⟩ := hnv.slice
        have HNv := hid hnv
        have Ps9 := hid (HPs.out.1.below hb9)
        have Fp9 := hid (HPs.out.2.1.trans HPs.out.2.2 (Nfr.of_below hb9))
        have Ns9 := hid (And.intro (HNs.out.1.below hb9) (And.intro (HNs.out.2.1.below hb9) (HNs.out.2.2.below hb9)))
        have Fn9 := hid (HFr.out.1.below hb9)
        have HNd9 := hid (Fn9.out.2.trans HFr.out.2)
        have Mv9 := hid HPs.out.2.2
        clear hnv hb9 HPs HNs HFr HBi x0 x1 x2 x3 x4 x5
        obtain ⟨v121, hsl, hsn⟩ := take_slice (l := KS.length) Ns9.out.2.2 (by rw [newsZ_len]; exact HKn.out.2)
        have hD : Below W9.heap.size W9 W9.drew := (Below.refl _ _).drew
        have HBn : Hid ((fromZ sc).length + KS.length ≤ 2000 ∧ (toZ sc).length + ((newsZ mk s.made).take KS.length).length ≤ 2000) := by
          have h1 := HSl.out
          have h2 := HKn.out.1
          refine ⟨by rw [from_len]; omega, ?_⟩
          rw [to_len, List.length_take]
          have : min KS.length (newsZ mk s.made).length ≤ KS.length := Nat.min_le_left _ _
          omega
        have HVf := hid (fun X (h : Below W9.heap.size W9 X) => (Ns9.out.1.below h).names)
        have HVt := hid (fun X (h : Below W9.heap.size W9 X) => (Ns9.out.2.1.below h).names)
        have HVs := hid (fun X (h : Below W9.heap.size W9 X) => HNv.out.below h)
        have HVn := hid hsn
        have HSlo := hid hsl
        clear hsn hsl
        go_upto_region 23 with fail
        refine pick_begin (S := fun _ => True) (by kernel_rfl) rfl rfl ?_
        refine pick_op (i := 0) (v := .pointer (some ⟨Pb, 0, none⟩)) (by kernel_rfl) rfl (by kernel_rfl) (by kernel_rfl) rfl rfl (fun w' _ => by simp [go_sem]) trivial (by simp [go_sem]; exact rfl) ?_
        refine pick_op (i := 1) (v := .int .i64 (q' : Int)) (by kernel_rfl) rfl (by kernel_rfl) (by kernel_rfl) rfl rfl (fun w' _ => by simp [go_sem]) trivial (by simp [go_sem]; exact rfl) ?_
        refine pick_op (i := 3) (v := .slice adf sc.length cpf) (by kernel_rfl) rfl (by kernel_rfl) (by kernel_rfl) rfl rfl (fun w' _ => by simp [go_sem]) trivial (by simp [go_sem]; exact rfl) ?_
        refine pick_op (i := 5) (v := .slice adb KS.length cpb) (by kernel_rfl) rfl (by kernel_rfl) (by kernel_rfl) rfl rfl (fun w' _ => by simp [go_sem]) trivial (by simp [go_sem]; exact rfl) ?_
        refine pick_op (i := 8) (v := .slice adt sc.length cpt) (by kernel_rfl) rfl (by kernel_rfl) (by kernel_rfl) rfl rfl (fun w' _ => by simp [go_sem]) trivial (by simp [go_sem]; exact rfl) ?_
        refine pick_op (i := 10) (v := .slice nad (makesZ mk) ncp) (by kernel_rfl) rfl (by kernel_rfl) (by kernel_rfl) rfl rfl (fun w' _ => by simp [go_sem]) trivial (by simp [go_sem]; exact rfl) ?_
        refine pick_op (i := 11) (v := .slice adb KS.length cpb) (by kernel_rfl) rfl (by kernel_rfl) (by kernel_rfl) rfl rfl (fun w' _ => by simp [go_sem]) trivial (by simp [go_sem]; exact rfl) ?_
        refine pick_op (i := 12) (v := .int .i64 (KS.length : Int)) (by kernel_rfl) rfl (by kernel_rfl) (by kernel_rfl) rfl rfl (fun w' _ => by simp [go_sem]) trivial (by simp [go_sem]; exact rfl) ?_
        refine pick_op (i := 13) (v := v121) (by kernel_rfl) rfl (by kernel_rfl) (by kernel_rfl) rfl rfl (fun w' _ => HSlo.out _ _ (.tmp 118) (.tmp 120) rfl rfl rfl w') trivial (by simp [go_sem]; exact rfl) ?_
        generalize W9.drew = D at *
        refine pick_fork (i := 2) (j := 7) (by kernel_rfl) ?_ ?_
        · refine ⟨_, .slice (some ⟨D.heap.size, 0, none⟩) 0 0, D.alloc (.cells #[] 9), rfl, rfl, by simp [go_sem], trivial, ?_⟩
          refine pick_frame (by simp [go_sem]; exact rfl) ?_
          have own2 := own_empty D hD.size
          have hX1 := hD.alloc hD.size (.cells #[] 9)
          generalize D.alloc (.cells #[] 9) = X1 at *
          refine pick_fork (i := 4) (j := 7) (by kernel_rfl) ?_ ?_
          · obtain ⟨v112, X2, hr2, own3, hb2'⟩ := own_app own2 30 (HVf.out X1 hX1) (by have := HBn.out; simp; omega) hX1.size
            have hX2 := hb2' W9 hX1
            refine ⟨_, v112, X2, rfl, rfl, append_run (s := .tmp 110) (x := .tmp 111) (t := 30) rfl rfl rfl hr2, trivial, ?_⟩
            refine pick_frame (by simp [go_sem]; exact rfl) ?_
            clear hr2 hb2'
            refine pick_fork (i := 6) (j := 7) (by kernel_rfl) ?_ ?_
            · obtain ⟨v114, X3, hr3, own4, hb3⟩ := own_app own3 30 (HVs.out X2 hX2) (by have := HBn.out; simp; omega) hX2.size
              have hX3 := hb3 W9 hX2
              refine ⟨_, v114, X3, rfl, rfl, append_run (s := .tmp 112) (x := .tmp 113) (t := 30) rfl rfl rfl hr3, trivial, ?_⟩
              refine pick_frame (by simp [go_sem]; exact rfl) ?_
              clear hr3 hb3
              refine pick_make (i := 7) (v := .slice (some ⟨X3.heap.size, 0, none⟩) 0 0) (w1 := X3.alloc (.cells #[] 9)) rfl (by kernel_rfl) rfl rfl (by simp [go_sem]) trivial (by simp [go_sem]; exact rfl) ?_
              have T4 := two_new own4 hX3.size
              have hX4 := hX3.alloc hX3.size (.cells #[] 9)
              generalize X3.alloc (.cells #[] 9) = X4 at *
              rw [List.nil_append] at T4
              obtain ⟨v117, Xa, hra, Ta, hba⟩ := T4.symm.app 30 (HVt.out X4 hX4) (by have := HBn.out; simp; omega) hX4.size
              have hXa := hba W9 hX4
              refine pick_make (i := 9) (v := v117) (w1 := Xa) rfl (by kernel_rfl) rfl rfl (append_run (s := .tmp 115) (x := .tmp 116) (t := 30) rfl rfl rfl hra) trivial (by simp [go_sem]; exact rfl) ?_
              rw [List.nil_append] at Ta
              clear hra hba T4
              obtain ⟨v122, Xb, hrb, Tb, hbb⟩ := Ta.app 30 (HVn.out Xa hXa) (by have := HBn.out; omega) hXa.size
              have hXb := hbb W9 hXa
              refine pick_make (i := 14) (v := v122) (w1 := Xb) rfl (by kernel_rfl) rfl rfl (append_run (s := .tmp 117) (x := .tmp 121) (t := 30) rfl rfl rfl hrb) trivial (by simp [go_sem]; exact rfl) ?_
              clear hrb hbb Ta
              refine pick_enter (i := 15) (f := 19) (args := #[.pointer (some ⟨Pb, 0, none⟩), .int .i64 (q' : Int), v114, v122]) rfl (by kernel_rfl) rfl rfl (by simp [go_sem]) ?_
              refine (HC.out Xb vo' v114 v122 (Ps9.out.below hXb) (namesT_owns Tb.two) (namesT_owns Tb.one)).mono ?_
              rintro e Xc ⟨⟨x, rfl⟩, vo2, stc, frc, mvc⟩
              refine ⟨x, rfl, trivial, ?_⟩
              refine pick_frame (by simp [go_sem]; exact rfl) ?_
              refine pick_end (by kernel_rfl) ?_
              have NsC := hid (And.intro ((Ns9.out.1.below hXb).frame (Ps9.out.below hXb) frc) (And.intro ((Ns9.out.2.1.below hXb).frame (Ps9.out.below hXb) frc) ((Ns9.out.2.2.below hXb).frame (Ps9.out.below hXb) frc)))
              have f1 := Fn9.out.1.below hXb
              have f2 := f1.1.step frc mvc (Or.inl rfl)
              have FnC := hid (And.intro f2.1 (f2.2.trans (f1.2.trans HNd9.out)))
              have FpC := hid ((Fp9.out.trans Mv9.out (Nfr.of_below hXb)).trans Mv9.out frc)
              have MvC := hid (Mv9.out.trans (Nat.le_trans Fp9.out.size hXb.size) mvc)
              have StC := hid stc
              have d0' := cell_of_heap stc.blk 0
              simp at d0'
              have hT := specEnd_calls b off cap ns q' Xc (HNd.out Xc stc.kept) (by have := HM.out; omega)
              rw [HQ.out.2, Hlen.out] at hT
              have HT := hid hT
              have hi9 : i' ≤ 1048576 := by have := HNx.out.1.2.2.1; have := HKc.out; have := HCt.out; omega
              clear hT stc frc mvc f1 f2 Tb HC Ps9 Fp9 Ns9 Fn9 HNd9 Mv9
              generalize q' + 1 + k'.flat.length = ee at *
              go_wp2_with fail
              refine HT.out.mono ?_
              rintro e w6 ⟨rfl, rfl⟩
              go_wp2_with fail
              try rw [wrap_succ hi9]
              exact ⟨⟨ee, i' + 1, r', s9, vo2, rfl, rfl, HNx.out.1, HNx.out.2, ⟨StC.out, FpC.out, MvC.out⟩, NsC, FnC⟩, lt_step hi⟩
            · refine ⟨_, .slice (some ⟨X2.heap.size, 0, none⟩) 0 0, X2.alloc (.cells #[] 9), rfl, rfl, by simp [go_sem], trivial, ?_⟩
              refine pick_frame (by simp [go_sem]; exact rfl) ?_
              have T3 := two_new own3 hX2.size
              have hX3 := hX2.alloc hX2.size (.cells #[] 9)
              generalize X2.alloc (.cells #[] 9) = X3 at *
              obtain ⟨v114, X4, hr4, T4, hb4⟩ := T3.app 30 (HVs.out X3 hX3) (by have := HBn.out; simp; omega) hX3.size
              have hX4 := hb4 W9 hX3
              refine pick_make (i := 6) (v := v114) (w1 := X4) rfl (by kernel_rfl) rfl rfl (append_run (s := .tmp 112) (x := .tmp 113) (t := 30) rfl rfl rfl hr4) trivial (by simp [go_sem]; exact rfl) ?_
              clear hr4 hb4 T3
              rw [List.nil_append] at T4
              obtain ⟨v117, Xa, hra, Ta, hba⟩ := T4.symm.app 30 (HVt.out X4 hX4) (by have := HBn.out; simp; omega) hX4.size
              have hXa := hba W9 hX4
              refine pick_make (i := 9) (v := v117) (w1 := Xa) rfl (by kernel_rfl) rfl rfl (append_run (s := .tmp 115) (x := .tmp 116) (t := 30) rfl rfl rfl hra) trivial (by simp [go_sem]; exact rfl) ?_
              rw [List.nil_append] at Ta
              clear hra hba T4
              obtain ⟨v122, Xb, hrb, Tb, hbb⟩ := Ta.app 30 (HVn.out Xa hXa) (by have := HBn.out; omega) hXa.size
              have hXb := hbb W9 hXa
              refine pick_make (i := 14) (v := v122) (w1 := Xb) rfl (by kernel_rfl) rfl rfl (append_run (s := .tmp 117) (x := .tmp 121) (t := 30) rfl rfl rfl hrb) trivial (by simp [go_sem]; exact rfl) ?_
              clear hrb hbb Ta
              refine pick_enter (i := 15) (f := 19) (args := #[.pointer (some ⟨Pb, 0, none⟩), .int .i64 (q' : Int), v114, v122]) rfl (by kernel_rfl) rfl rfl (by simp [go_sem]) ?_
              refine (HC.out Xb vo' v114 v122 (Ps9.out.below hXb) (namesT_owns Tb.two) (namesT_owns Tb.one)).mono ?_
              rintro e Xc ⟨⟨x, rfl⟩, vo2, stc, frc, mvc⟩
              refine ⟨x, rfl, trivial, ?_⟩
              refine pick_frame (by simp [go_sem]; exact rfl) ?_
              refine pick_end (by kernel_rfl) ?_
              have NsC := hid (And.intro ((Ns9.out.1.below hXb).frame (Ps9.out.below hXb) frc) (And.intro ((Ns9.out.2.1.below hXb).frame (Ps9.out.below hXb) frc) ((Ns9.out.2.2.below hXb).frame (Ps9.out.below hXb) frc)))
              have f1 := Fn9.out.1.below hXb
              have f2 := f1.1.step frc mvc (Or.inl rfl)
              have FnC := hid (And.intro f2.1 (f2.2.trans (f1.2.trans HNd9.out)))
              have FpC := hid ((Fp9.out.trans Mv9.out (Nfr.of_below hXb)).trans Mv9.out frc)
              have MvC := hid (Mv9.out.trans (Nat.le_trans Fp9.out.size hXb.size) mvc)
              have StC := hid stc
              have d0' := cell_of_heap stc.blk 0
              simp at d0'
              have hT := specEnd_calls b off cap ns q' Xc (HNd.out Xc stc.kept) (by have := HM.out; omega)
              rw [HQ.out.2, Hlen.out] at hT
              have HT := hid hT
              have hi9 : i' ≤ 1048576 := by have := HNx.out.1.2.2.1; have := HKc.out; have := HCt.out; omega
              clear hT stc frc mvc f1 f2 Tb HC Ps9 Fp9 Ns9 Fn9 HNd9 Mv9
              generalize q' + 1 + k'.flat.length = ee at *
              go_wp2_with fail
              refine HT.out.mono ?_
              rintro e w6 ⟨rfl, rfl⟩
              go_wp2_with fail
              try rw [wrap_succ hi9]
              exact ⟨⟨ee, i' + 1, r', s9, vo2, rfl, rfl, HNx.out.1, HNx.out.2, ⟨StC.out, FpC.out, MvC.out⟩, NsC, FnC⟩, lt_step hi⟩
          · refine ⟨_, .slice (some ⟨X1.heap.size, 0, none⟩) 0 0, X1.alloc (.cells #[] 9), rfl, rfl, by simp [go_sem], trivial, ?_⟩
            refine pick_frame (by simp [go_sem]; exact rfl) ?_
            have T := two_new own2 hX1.size
            have hX2 := hX1.alloc hX1.size (.cells #[] 9)
            generalize X1.alloc (.cells #[] 9) = X2 at *
            obtain ⟨v112, X3, hr3, T3, hb3⟩ := T.app 30 (HVf.out X2 hX2) (by have := HBn.out; simp; omega) hX2.size
            have hX3 := hb3 W9 hX2
            refine pick_make (i := 4) (v := v112) (w1 := X3) rfl (by kernel_rfl) rfl rfl (append_run (s := .tmp 110) (x := .tmp 111) (t := 30) rfl rfl rfl hr3) trivial (by simp [go_sem]; exact rfl) ?_
            clear hr3 hb3 T
            obtain ⟨v114, X4, hr4, T4, hb4⟩ := T3.app 30 (HVs.out X3 hX3) (by have := HBn.out; simp; omega) hX3.size
            have hX4 := hb4 W9 hX3
            refine pick_make (i := 6) (v := v114) (w1 := X4) rfl (by kernel_rfl) rfl rfl (append_run (s := .tmp 112) (x := .tmp 113) (t := 30) rfl rfl rfl hr4) trivial (by simp [go_sem]; exact rfl) ?_
            clear hr4 hb4 T3
            rw [List.nil_append] at T4
            obtain ⟨v117, Xa, hra, Ta, hba⟩ := T4.symm.app 30 (HVt.out X4 hX4) (by have := HBn.out; simp; omega) hX4.size
            have hXa := hba W9 hX4
            refine pick_make (i := 9) (v := v117) (w1 := Xa) rfl (by kernel_rfl) rfl rfl (append_run (s := .tmp 115) (x := .tmp 116) (t := 30) rfl rfl rfl hra) trivial (by simp [go_sem]; exact rfl) ?_
            rw [List.nil_append] at Ta
            clear hra hba T4
            obtain ⟨v122, Xb, hrb, Tb, hbb⟩ := Ta.app 30 (HVn.out Xa hXa) (by have := HBn.out; omega) hXa.size
            have hXb := hbb W9 hXa
            refine pick_make (i := 14) (v := v122) (w1 := Xb) rfl (by kernel_rfl) rfl rfl (append_run (s := .tmp 117) (x := .tmp 121) (t := 30) rfl rfl rfl hrb) trivial (by simp [go_sem]; exact rfl) ?_
            clear hrb hbb Ta
            refine pick_enter (i := 15) (f := 19) (args := #[.pointer (some ⟨Pb, 0, none⟩), .int .i64 (q' : Int), v114, v122]) rfl (by kernel_rfl) rfl rfl (by simp [go_sem]) ?_
            refine (HC.out Xb vo' v114 v122 (Ps9.out.below hXb) (namesT_owns Tb.two) (namesT_owns Tb.one)).mono ?_
            rintro e Xc ⟨⟨x, rfl⟩, vo2, stc, frc, mvc⟩
            refine ⟨x, rfl, trivial, ?_⟩
            refine pick_frame (by simp [go_sem]; exact rfl) ?_
            refine pick_end (by kernel_rfl) ?_
            have NsC := hid (And.intro ((Ns9.out.1.below hXb).frame (Ps9.out.below hXb) frc) (And.intro ((Ns9.out.2.1.below hXb).frame (Ps9.out.below hXb) frc) ((Ns9.out.2.2.below hXb).frame (Ps9.out.below hXb) frc)))
            have f1 := Fn9.out.1.below hXb
            have f2 := f1.1.step frc mvc (Or.inl rfl)
            have FnC := hid (And.intro f2.1 (f2.2.trans (f1.2.trans HNd9.out)))
            have FpC := hid ((Fp9.out.trans Mv9.out (Nfr.of_below hXb)).trans Mv9.out frc)
            have MvC := hid (Mv9.out.trans (Nat.le_trans Fp9.out.size hXb.size) mvc)
            have StC := hid stc
            have d0' := cell_of_heap stc.blk 0
            simp at d0'
            have hT := specEnd_calls b off cap ns q' Xc (HNd.out Xc stc.kept) (by have := HM.out; omega)
            rw [HQ.out.2, Hlen.out] at hT
            have HT := hid hT
            have hi9 : i' ≤ 1048576 := by have := HNx.out.1.2.2.1; have := HKc.out; have := HCt.out; omega
            clear hT stc frc mvc f1 f2 Tb HC Ps9 Fp9 Ns9 Fn9 HNd9 Mv9
            generalize q' + 1 + k'.flat.length = ee at *
            go_wp2_with fail
            refine HT.out.mono ?_
            rintro e w6 ⟨rfl, rfl⟩
            go_wp2_with fail
            try rw [wrap_succ hi9]
            exact ⟨⟨ee, i' + 1, r', s9, vo2, rfl, rfl, HNx.out.1, HNx.out.2, ⟨StC.out, FpC.out, MvC.out⟩, NsC, FnC⟩, lt_step hi⟩
        · refine ⟨_, .slice (some ⟨D.heap.size, 0, none⟩) 0 0, D.alloc (.cells #[] 9), rfl, rfl, by simp [go_sem], trivial, ?_⟩
          refine pick_frame (by simp [go_sem]; exact rfl) ?_
          have own7 := own_empty D hD.size
          have hX1 := hD.alloc hD.size (.cells #[] 9)
          generalize D.alloc (.cells #[] 9) = X1 at *
          refine pick_make (i := 2) (v := .slice (some ⟨X1.heap.size, 0, none⟩) 0 0) (w1 := X1.alloc (.cells #[] 9)) rfl (by kernel_rfl) rfl rfl (by simp [go_sem]) trivial (by simp [go_sem]; exact rfl) ?_
          have T := (two_new own7 hX1.size).symm
          have hX2 := hX1.alloc hX1.size (.cells #[] 9)
          generalize X1.alloc (.cells #[] 9) = X2 at *
          obtain ⟨v112, X3, hr3, T3, hb3⟩ := T.app 30 (HVf.out X2 hX2) (by have := HBn.out; simp; omega) hX2.size
          have hX3 := hb3 W9 hX2
          refine pick_make (i := 4) (v := v112) (w1 := X3) rfl (by kernel_rfl) rfl rfl (append_run (s := .tmp 110) (x := .tmp 111) (t := 30) rfl rfl rfl hr3) trivial (by simp [go_sem]; exact rfl) ?_
          clear hr3 hb3 T
          obtain ⟨v114, X4, hr4, T4, hb4⟩ := T3.app 30 (HVs.out X3 hX3) (by have := HBn.out; simp; omega) hX3.size
          have hX4 := hb4 W9 hX3
          refine pick_make (i := 6) (v := v114) (w1 := X4) rfl (by kernel_rfl) rfl rfl (append_run (s := .tmp 112) (x := .tmp 113) (t := 30) rfl rfl rfl hr4) trivial (by simp [go_sem]; exact rfl) ?_
          clear hr4 hb4 T3
          rw [List.nil_append] at T4
          obtain ⟨v117, Xa, hra, Ta, hba⟩ := T4.symm.app 30 (HVt.out X4 hX4) (by have := HBn.out; simp; omega) hX4.size
          have hXa := hba W9 hX4
          refine pick_make (i := 9) (v := v117) (w1 := Xa) rfl (by kernel_rfl) rfl rfl (append_run (s := .tmp 115) (x := .tmp 116) (t := 30) rfl rfl rfl hra) trivial (by simp [go_sem]; exact rfl) ?_
          rw [List.nil_append] at Ta
          clear hra hba T4
          obtain ⟨v122, Xb, hrb, Tb, hbb⟩ := Ta.app 30 (HVn.out Xa hXa) (by have := HBn.out; omega) hXa.size
          have hXb := hbb W9 hXa
          refine pick_make (i := 14) (v := v122) (w1 := Xb) rfl (by kernel_rfl) rfl rfl (append_run (s := .tmp 117) (x := .tmp 121) (t := 30) rfl rfl rfl hrb) trivial (by simp [go_sem]; exact rfl) ?_
          clear hrb hbb Ta
          refine pick_enter (i := 15) (f := 19) (args := #[.pointer (some ⟨Pb, 0, none⟩), .int .i64 (q' : Int), v114, v122]) rfl (by kernel_rfl) rfl rfl (by simp [go_sem]) ?_
          refine (HC.out Xb vo' v114 v122 (Ps9.out.below hXb) (namesT_owns Tb.two) (namesT_owns Tb.one)).mono ?_
          rintro e Xc ⟨⟨x, rfl⟩, vo2, stc, frc, mvc⟩
          refine ⟨x, rfl, trivial, ?_⟩
          refine pick_frame (by simp [go_sem]; exact rfl) ?_
          refine pick_end (by kernel_rfl) ?_
          have NsC := hid (And.intro ((Ns9.out.1.below hXb).frame (Ps9.out.below hXb) frc) (And.intro ((Ns9.out.2.1.below hXb).frame (Ps9.out.below hXb) frc) ((Ns9.out.2.2.below hXb).frame (Ps9.out.below hXb) frc)))
          have f1 := Fn9.out.1.below hXb
          have f2 := f1.1.step frc mvc (Or.inl rfl)
          have FnC := hid (And.intro f2.1 (f2.2.trans (f1.2.trans HNd9.out)))
          have FpC := hid ((Fp9.out.trans Mv9.out (Nfr.of_below hXb)).trans Mv9.out frc)
          have MvC := hid (Mv9.out.trans (Nat.le_trans Fp9.out.size hXb.size) mvc)
          have StC := hid stc
          have d0' := cell_of_heap stc.blk 0
          simp at d0'
          have hT := specEnd_calls b off cap ns q' Xc (HNd.out Xc stc.kept) (by have := HM.out; omega)
          rw [HQ.out.2, Hlen.out] at hT
          have HT := hid hT
          have hi9 : i' ≤ 1048576 := by have := HNx.out.1.2.2.1; have := HKc.out; have := HCt.out; omega
          clear hT stc frc mvc f1 f2 Tb HC Ps9 Fp9 Ns9 Fn9 HNd9 Mv9
          generalize q' + 1 + k'.flat.length = ee at *
          go_wp2_with fail
          refine HT.out.mono ?_
          rintro e w6 ⟨rfl, rfl⟩
          go_wp2_with fail
          try rw [wrap_succ hi9]
          exact ⟨⟨ee, i' + 1, r', s9, vo2, rfl, rfl, HNx.out.1, HNx.out.2, ⟨StC.out, FpC.out, MvC.out⟩, NsC, FnC⟩, lt_step hi⟩
end Go.Proofs.YtlhdicichdihfaaGreatDoor
