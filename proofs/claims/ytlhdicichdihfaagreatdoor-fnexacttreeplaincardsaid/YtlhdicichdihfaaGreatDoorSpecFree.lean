/- The names that stand free in a tree, as the specification finds them. -/
import Derived.Test.YtlhdicichdihfaaGreatDoorSpecAdd
import Derived.Test.YtlhdicichdihfaaGreatDoorSpecTree
namespace Go.Proofs.YtlhdicichdihfaaGreatDoor
open Go.RowKit Go.Deep

/-- The kids of a node from the one at i on. -/
def freeK (old : Nd) : Nat → Fo → List ByteArray → List Tx → List Tx
  | _, .none, _, out => out
  | i, .tree n k r, bd, out => freeK old (i + 1) r bd (if n.kind = 5 then (if memB (bd ++ knownZ old i) n.a then out else addL out n.a.data.toList) else freeK n 0 k (bd ++ knownZ old i) out)

/-- A tree. -/
def freeN (n : Nd) (k : Fo) (bd : List ByteArray) (out : List Tx) : List Tx := if n.kind = 5 then (if memB bd n.a then out else addL out n.a.data.toList) else freeK n 0 k bd out

theorem freeK_tree (old n : Nd) (k r : Fo) (i : Nat) (bd : List ByteArray) (out : List Tx) : freeK old i (.tree n k r) bd out = freeK old (i + 1) r bd (freeN n k (bd ++ knownZ old i) out) := by
  unfold freeN
  rw [freeK]

theorem insL_len (s : Tx) : ∀ l : List Tx, (insL l s).length = l.length + 1
  | [] => rfl
  | x :: r => by
    unfold insL
    split
    · rfl
    · rw [List.length_cons, insL_len s r, List.length_cons]

theorem addL_len (l : List Tx) (s : Tx) : (addL l s).length ≤ l.length + 1 := by
  unfold addL
  split
  · omega
  · rw [insL_len]
    exact Nat.le_refl _

theorem freeK_len : ∀ (f : Fo) (old : Nd) (i : Nat) (bd : List ByteArray) (out : List Tx), (freeK old i f bd out).length ≤ out.length + f.flat.length
  | .none, _, _, _, _ => by simp [freeK, Fo.flat]
  | .tree n k r, old, i, bd, out => by
    rw [freeK]
    have h1 := freeK_len r old (i + 1) bd (if n.kind = 5 then (if memB (bd ++ knownZ old i) n.a then out else addL out n.a.data.toList) else freeK n 0 k (bd ++ knownZ old i) out)
    have h2 := freeK_len k n 0 (bd ++ knownZ old i) out
    have h3 := addL_len out n.a.data.toList
    have h4 : (if n.kind = 5 then (if memB (bd ++ knownZ old i) n.a then out else addL out n.a.data.toList) else freeK n 0 k (bd ++ knownZ old i) out).length ≤ out.length + 1 + k.flat.length := by
      repeat' split
      all_goals omega
    simp only [Fo.flat, List.length_cons, List.length_append]
    omega

theorem freeN_len (n : Nd) (k : Fo) (bd : List ByteArray) (out : List Tx) : (freeN n k bd out).length ≤ out.length + 1 + k.flat.length := by
  have h2 := freeK_len k n 0 bd out
  have h3 := addL_len out n.a.data.toList
  unfold freeN
  repeat' split
  all_goals omega

set_option maxHeartbeats 4000000 in
set_option maxRecDepth 100000 in
theorem free_calls (b off cap : Nat) (ns : List Nd) (hm : ns.length ≤ 300) (hok : ∀ m ∈ ns, m.kind = 9 → m.kids ≤ 2) : ∀ (N : Nat) (n : Nd) (k : Fo) (suf : List Nd) (p : Nat) (bd : List ByteArray) (out : List Tx) (bv ov : Value) (w : World), b < w.heap.size → NodesAt w b off ns → ns.drop p = n :: (k.flat ++ suf) → n.kids = k.count → k.wf → k.flat.length < N → NamesV w bv bd → NamesV w ov (bys out) → bd.length + 2 * k.flat.length ≤ 1000 → out.length + k.flat.length ≤ 1000 →
    Calls Tryz.prog 26 #[.slice (some ⟨b, off, none⟩) ns.length cap, .int .i64 (p : Int), bv, ov] w fun e w' => ∃ u, e = .returned u ∧ NamesV w' u (bys (freeN n k bd out)) ∧ Below w.heap.size w w' := by
  intro N
  induction N with
  | zero => intro n k suf p bd out bv ov w _ _ _ _ _ h; omega
  | succ N ih =>
    intro n k suf p bd out bv ov w hbw hn hp hkc hk hN hbd hov hbl hol
    obtain ⟨hpl, hpn, hp1⟩ := at_drop hp
    have c0 := hn p hpl 0 (by omega)
    have c1 := hn p hpl 1 (by omega)
    have c2 := hn p hpl 2 (by omega)
    have c3 := hn p hpl 3 (by omega)
    have c4 := hn p hpl 4 (by omega)
    have c5 := hn p hpl 5 (by omega)
    rw [hpn] at c0 c1 c2 c3 c4 c5
    simp only [Nd.cell, Nat.add_zero] at c0 c1 c2 c3 c4 c5
    have HIH := hid ih
    have HN := hid hn
    have HM := hid hm
    have HP1 := hid hp1
    have HWf := hid hk
    have HNl := hid hN
    have HBd := hid hbd
    have HOv := hid hov
    have HLs := hid (And.intro hbl hol)
    have HK9 := hid (hok n (by rw [← List.take_append_drop p ns, hp]; simp))
    have HPl := hid hpl
    have HCt : Hid (k.count ≤ 1000) := by
      show _ ≤ _
      have := Fo.count_le k
      omega
    obtain ⟨ad3, cp3, rfl⟩ := hov.slice
    obtain ⟨ad2, cp2, rfl⟩ := hbd.slice
    obtain ⟨kd, num, a, bb, cc, kids⟩ := n
    dsimp only at *
    obtain ⟨kc, hkc'⟩ : ∃ kc, k.count = kc := ⟨_, rfl⟩
    rw [hkc'] at hkc
    have HKc := hid hkc'
    subst hkc
    obtain ⟨len, hlen⟩ : ∃ len, ns.length = len := ⟨_, rfl⟩
    have Hlen := hid hlen
    rw [hlen] at hpl ⊢
    have hpl2 : (p : Int) < (len : Int) := by omega
    have hp0 : (0 : Int) ≤ (p : Int) := by omega
    obtain ⟨bl, hbl2⟩ : ∃ bl, bd.length = bl := ⟨_, rfl⟩
    obtain ⟨ol, hol2⟩ : ∃ ol, (bys out).length = ol := ⟨_, rfl⟩
    rw [hbl2, hol2]
    rw [hbl2] at HBd
    rw [hol2] at HOv
    clear ih hn hm hp1 hk hN hbd hov hbl hol hp hpn hkc' hlen hok hbl2 hol2
    go_enter Tryz.func26, Tryz.ntmps26
    by_cases k5 : (kd == 5) = true
    · have hba := (Below.refl w.heap.size w).alloc (Nat.le_refl _) (.cells #[.int .i64 kd, .int .i64 num, .string a, .string bb, .string cc, .int .i64 (kc : Int)] 42)
      have HIn := hid (in_any a _ (HBd.out.below hba) (by have := HLs.out.1; omega))
      have HAd := hid (fun X (hb : Below w.heap.size w X) => add_calls a X (HOv.out.below hb) (by have := HLs.out.2; omega))
      have e5 := hid (show kd = 5 from eq_of_beq k5)
      have HBa := hid hba
      clear hba HIH
      go_wp2_with fail
      refine HIn.out.mono ?_
      rintro e w2 ⟨rfl, rfl⟩
      cases hmb : memB bd a with
      | true =>
        have HT : Hid (freeN ⟨kd, num, a, bb, cc, kc⟩ k bd out = out) := by
          show _ = _
          unfold freeN
          rw [if_pos e5.out, if_pos hmb]
        go_wp2_with fail
        go_ret
        refine ⟨_, rfl, ?_, HBa.out⟩
        rw [HT.out]
        exact HOv.out.below HBa.out
      | false =>
        have HT : Hid (freeN ⟨kd, num, a, bb, cc, kc⟩ k bd out = addL out a.data.toList) := by
          show _ = _
          unfold freeN
          rw [if_pos e5.out, if_neg (by rw [hmb]; decide)]
        go_wp2_with fail
        refine (HAd.out _ HBa.out).mono ?_
        rintro e w3 ⟨u, rfl, hu, hb3⟩
        have HU := hid (And.intro hu hb3)
        clear hu hb3
        go_wp2_with fail
        go_ret
        refine ⟨_, rfl, ?_, HBa.out.trans (HU.out.2.mono HBa.out.size)⟩
        rw [HT.out]
        exact HU.out.1
    · have hne5 := hid (show kd ≠ 5 from fun e => k5 (by rw [e]; rfl))
      obtain ⟨TG, hTG⟩ : ∃ TG, freeN ⟨kd, num, a, bb, cc, kc⟩ k bd out = TG := ⟨_, rfl⟩
      have HTG : Hid (freeK ⟨kd, num, a, bb, cc, kc⟩ 0 k bd out = TG) := by
        show _ = _
        rw [← hTG]
        unfold freeN
        rw [if_neg hne5.out]
      rw [hTG]
      clear hTG
      have hA := (MapKept.heap_alloc w (.cells #[.int .i64 kd, .int .i64 num, .string a, .string bb, .string cc, .int .i64 (kc : Int)] 42)).1
      have hba := (Below.refl w.heap.size w).alloc (Nat.le_refl _) (.cells #[.int .i64 kd, .int .i64 num, .string a, .string bb, .string cc, .int .i64 (kc : Int)] 42)
      have HA := hid (And.intro hA hba)
      clear hA hba
      go_wp2_with fail
      clear c0 c1 c2 c3 c4 c5
      generalize w.alloc (.cells #[.int .i64 kd, .int .i64 num, .string a, .string bb, .string cc, .int .i64 (kc : Int)] 42) = wA at *
      rw [wrap_succ (by have := HPl.out; have := HM.out; omega)]
      generalize p + 1 = p1 at *
      go_loopw [3, 10, 11] (fun o q i wr => ∃ (q' i' : Nat) (r : Fo) (ot : List Tx), q = .int .i64 q' ∧ i = .int .i64 i' ∧ Hid (ns.drop q' = r.flat ++ suf ∧ r.wf ∧ i' + r.count = kc ∧ r.flat.length < N + 1 ∧ r.flat.length ≤ k.flat.length ∧ freeK ⟨kd, num, a, bb, cc, kc⟩ i' r bd ot = TG ∧ ot.length + r.flat.length ≤ 1000) ∧ Hid (NamesV wr o (bys ot)) ∧ Hid (Below wA.heap.size wA wr)) (fun _ _ i _ => kc - (intOf i).toNat)
      case atStart => exact ⟨p1, 0, k, out, rfl, rfl, ⟨HP1.out, HWf.out, by rw [HKc.out]; omega, HNl.out, Nat.le_refl _, HTG.out, by have := HLs.out.2; omega⟩, HOv.out.below HA.out.2, Below.refl _ _⟩
      case round =>
        obtain ⟨q', i', r, ot, rfl, rfl, HR, HOt, HB⟩ := hrel
        have hx := (HB.out.block _ (heap_lt HA.out.1)).trans HA.out.1
        have c0 := cell_of_heap hx 0
        have c1 := cell_of_heap hx 1
        have c2 := cell_of_heap hx 2
        have c3 := cell_of_heap hx 3
        have c4 := cell_of_heap hx 4
        have c5 := cell_of_heap hx 5
        simp at c0 c1 c2 c3 c4 c5
        have HX := hid hx
        clear hx
        cases r with
        | none =>
          obtain ⟨_, _, h1, _, _, h2, _⟩ := HR.out
          simp only [Fo.count, freeK] at h1 h2
          have h1' : i' = kc := by omega
          subst h1'
          subst h2
          clear HR h1
          go_wp2_with fail
          go_ret
          exact ⟨_, rfl, HOt.out, HA.out.2.trans (HB.out.mono HA.out.2.size)⟩
        | tree n' k' r' =>
          obtain ⟨h0, hw, h1, h3, h3', h4, h5⟩ := HR.out
          obtain ⟨hw0, hw1, hw2⟩ := hw
          simp only [Fo.count, Fo.flat, List.length_cons, List.length_append] at h1 h3 h3' h5
          simp only [Fo.flat, List.cons_append, List.append_assoc] at h0
          obtain ⟨hql, hqn, hq1⟩ := at_drop h0
          have hend : treeEnd ns q' = _ := treeEnd_at h0 hw0 hw1
          have hnew := drop_past hq1
          rw [freeK_tree] at h4
          have hi : (i' : Int) < (kc : Int) := by omega
          have hfl := freeN_len n' k' (bd ++ knownZ ⟨kd, num, a, bb, cc, kc⟩ i') ot
          have HNx : Hid (ns.drop (q' + 1 + k'.flat.length) = r'.flat ++ suf ∧ r'.wf ∧ i' + 1 + r'.count = kc ∧ r'.flat.length < N + 1 ∧ r'.flat.length ≤ k.flat.length ∧ freeK ⟨kd, num, a, bb, cc, kc⟩ (i' + 1) r' bd (freeN n' k' (bd ++ knownZ ⟨kd, num, a, bb, cc, kc⟩ i') ot) = TG ∧ (freeN n' k' (bd ++ knownZ ⟨kd, num, a, bb, cc, kc⟩ i') ot).length + r'.flat.length ≤ 1000) := ⟨hnew, hw2, by omega, by omega, by omega, h4, by omega⟩
          have hkl := knownZ_len ⟨kd, num, a, bb, cc, kc⟩ i'
          have HC := hid (fun (X : World) (bv ov : Value) (h1 : b < X.heap.size) (h2 : NodesAt X b off ns) (h3 : NamesV X bv (bd ++ knownZ ⟨kd, num, a, bb, cc, kc⟩ i')) (h4 : NamesV X ov (bys ot)) => HIH.out n' k' (r'.flat ++ suf) q' (bd ++ knownZ ⟨kd, num, a, bb, cc, kc⟩ i') ot bv ov X h1 h2 h0 hw0 hw1 (by omega) h3 h4 (by rw [List.length_append]; have := HLs.out.1; omega) (by omega))
          have HQ := hid (And.intro hql hend)
          have HBi := hid (fun X => binds_calls ⟨kd, num, a, bb, cc, kc⟩ i' X (fun e => by have := HK9.out e; omega))
          unfold ndV at HBi
          dsimp only at HBi
          have HKl : Hid (bd.length + (knownZ ⟨kd, num, a, bb, cc, kc⟩ i').length ≤ 2000) := by show _ ≤ _; have := HLs.out.1; omega
          clear HR h0 hw0 hw1 hw2 hql hqn hq1 hend hnew h4 h1 h3 h3' h5 hfl hkl
          obtain ⟨ad5, cp5, ho5⟩ := HOt.out.slice
          rw [Hlen.out] at HC
          subst ho5
          have hS : Below wr.heap.size wr wr.drew := (Below.refl _ _).drew
          have q0 := fun (y : World) (h : Below wr.heap.size wr y) => (h.cell (p := ⟨w.heap.size, 0, none⟩) (heap_lt HX.out)).trans c0
          have q1 := fun (y : World) (h : Below wr.heap.size wr y) => (h.cell (p := ⟨w.heap.size, 1, none⟩) (heap_lt HX.out)).trans c1
          have q2 := fun (y : World) (h : Below wr.heap.size wr y) => (h.cell (p := ⟨w.heap.size, 2, none⟩) (heap_lt HX.out)).trans c2
          have q3 := fun (y : World) (h : Below wr.heap.size wr y) => (h.cell (p := ⟨w.heap.size, 3, none⟩) (heap_lt HX.out)).trans c3
          have q4 := fun (y : World) (h : Below wr.heap.size wr y) => (h.cell (p := ⟨w.heap.size, 4, none⟩) (heap_lt HX.out)).trans c4
          have q5 := fun (y : World) (h : Below wr.heap.size wr y) => (h.cell (p := ⟨w.heap.size, 5, none⟩) (heap_lt HX.out)).trans c5
          go_upto_region 1 with fail
          refine pick_begin (S := fun w' => Below wr.heap.size wr w') (by kernel_rfl) rfl rfl ?_
          refine pick_op (i := 0) (v := .slice (some ⟨b, off, none⟩) len cap) (by kernel_rfl) rfl (by kernel_rfl) (by kernel_rfl) rfl rfl (fun w' hw' => by simp [go_sem]) hS (by simp [go_sem]; exact rfl) ?_
          refine pick_op (i := 1) (v := .int .i64 (q' : Int)) (by kernel_rfl) rfl (by kernel_rfl) (by kernel_rfl) rfl rfl (fun w' hw' => by simp [go_sem]) hS (by simp [go_sem]; exact rfl) ?_
          refine pick_op (i := 3) (v := .slice ad2 bl cp2) (by kernel_rfl) rfl (by kernel_rfl) (by kernel_rfl) rfl rfl (fun w' hw' => by simp [go_sem]) hS (by simp [go_sem]; exact rfl) ?_
          refine pick_op (i := 5) (v := .agg #[.int .i64 kd, .int .i64 num, .string a, .string bb, .string cc, .int .i64 (kc : Int)]) (by kernel_rfl) rfl (by kernel_rfl) (by kernel_rfl) rfl rfl (fun w' hw' => by simp [go_sem, q0 w' hw', q1 w' hw', q2 w' hw', q3 w' hw', q4 w' hw', q5 w' hw']) hS (by simp [go_sem]; exact rfl) ?_
          refine pick_op (i := 6) (v := .int .i64 (i' : Int)) (by kernel_rfl) rfl (by kernel_rfl) (by kernel_rfl) rfl rfl (fun w' hw' => by simp [go_sem]) hS (by simp [go_sem]; exact rfl) ?_
          refine pick_op (i := 9) (v := .slice ad5 (bys ot).length cp5) (by kernel_rfl) rfl (by kernel_rfl) (by kernel_rfl) rfl rfl (fun w' hw' => by simp [go_sem]) hS (by simp [go_sem]; exact rfl) ?_
          refine pick_make (i := 2) (v := .slice (some ⟨wr.heap.size, 0, none⟩) 0 0) (w1 := wr.drew.alloc (.cells #[] 9)) rfl (by kernel_rfl) rfl rfl (by simp [go_sem]) (hS.alloc (Nat.le_refl _) _) (by simp [go_sem]; exact rfl) ?_
          clear c0 c1 c2 c3 c4 c5 q0 q1 q2 q3 q4 q5
          have hX0 := hS.alloc (Nat.le_refl _) (.cells #[] 9)
          have hown0 : (wr.drew.alloc (.cells #[] 9)).ownsRow wr.heap.size 9 1 (.slice (some ⟨wr.heap.size, 0, none⟩) 0 0) 0 (strRow []) := World.ownsRow_made wr.drew #[] 0 (Nat.le_refl _) (Nat.zero_le _) rfl
          generalize wr.drew.alloc (.cells #[] 9) = X0 at *
          have HBdr := hid ((HBd.out.below HA.out.2).below HB.out)
          obtain ⟨v1, X1, hrun1, hown1, hg1, -⟩ := app_names (ss := []) (ys := bd) 30 hown0 (HBdr.out.below hX0) (by have := HKl.out; simp; omega) hX0.size
          have hX1 : Below wr.heap.size wr X1 := Below.grown hX0 hg1 hX0.size (fun j hj => (hown0.lt _ hj).1)
          refine pick_make (i := 4) (v := v1) (w1 := X1) rfl (by kernel_rfl) rfl rfl (append_runN (s := .tmp 38) (x := .tmp 39) (t := 30) rfl rfl rfl hrun1) hX1 (by simp [go_sem]; exact rfl) ?_
          rw [List.nil_append] at hown1
          clear hrun1 hg1 hown0 hX0
          refine pick_enter (i := 7) (f := 36) (args := #[.agg #[.int .i64 kd, .int .i64 num, .string a, .string bb, .string cc, .int .i64 (kc : Int)], .int .i64 (i' : Int)]) rfl (by kernel_rfl) rfl rfl (by simp [go_sem]) ?_
          refine (HBi.out X1).mono ?_
          rintro e X2 ⟨sv, rfl, hnv, hb2⟩
          have hX2 := hX1.trans (hb2.mono hX1.size)
          refine ⟨sv, rfl, hX2, ?_⟩
          refine pick_frame (by simp [go_sem]; exact rfl) ?_
          have hown2 := owns_below hown1 hb2
          obtain ⟨v3, X3, hrun3, hown3, hg3, -⟩ := app_names 30 hown2 hnv (by have := HKl.out; omega) (Nat.le_trans hX1.size hb2.size)
          have hX3 : Below wr.heap.size wr X3 := Below.grown hX2 hg3 hX2.size (fun j hj => (hown2.lt _ hj).1)
          refine pick_make (i := 8) (v := v3) (w1 := X3) rfl (by kernel_rfl) rfl rfl (append_runN (s := .tmp 40) (x := .tmp 43) (t := 30) rfl rfl rfl hrun3) hX3 (by simp [go_sem]; exact rfl) ?_
          clear hrun3 hg3 hown1 hown2 hnv hb2 hX2 hX1
          have hw3 := HA.out.2.trans ((HB.out.trans (hX3.mono HB.out.size)).mono HA.out.2.size)
          refine pick_enter (i := 10) (f := 26) (args := #[.slice (some ⟨b, off, none⟩) len cap, .int .i64 (q' : Int), v3, .slice ad5 (bys ot).length cp5]) rfl (by kernel_rfl) rfl rfl (by simp [go_sem]) ?_
          refine (HC.out X3 v3 _ (by have := hw3.size; omega) (HN.out.below hw3 hbw) (names_owns hown3).1 (HOt.out.below hX3)).mono ?_
          rintro e X4 ⟨u, rfl, hu, hb4⟩
          have hX4 := hX3.trans (hb4.mono hX3.size)
          refine ⟨u, rfl, hX4, ?_⟩
          refine pick_frame (by simp [go_sem]; exact rfl) ?_
          refine pick_make (i := 11) (v := u) (w1 := X4) rfl (by kernel_rfl) rfl rfl (by simp [go_sem]) hX4 (by simp [go_sem]; exact rfl) ?_
          refine pick_end (by kernel_rfl) ?_
          have hw4 := HB.out.trans (hX4.mono HB.out.size)
          have hw5 := HA.out.2.trans (hw4.mono HA.out.2.size)
          have hT := specEnd_calls b off cap ns q' X4 (HN.out.below hw5 hbw) (by have := HM.out; omega)
          rw [HQ.out.2, Hlen.out] at hT
          have HT := hid hT
          have HU := hid (And.intro hu hw4)
          clear hT hu hb4 hw3 hX3 hX4 hw4 hw5 hown3 HC HBi hS
          have hi9 : i' ≤ 1048576 := by have := HNx.out.2.2.1; have := HKc.out; have := HCt.out; omega
          generalize q' + 1 + k'.flat.length = ee at *
          go_wp2_with fail
          refine HT.out.mono ?_
          rintro e w6 ⟨rfl, rfl⟩
          go_wp2_with fail
          try rw [wrap_succ hi9]
          exact ⟨⟨ee, i' + 1, r', _, rfl, rfl, HNx, HU.out.1, HU.out.2⟩, lt_step hi⟩
end Go.Proofs.YtlhdicichdihfaaGreatDoor
