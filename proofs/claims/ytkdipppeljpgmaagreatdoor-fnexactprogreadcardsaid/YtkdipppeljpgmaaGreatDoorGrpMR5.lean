/- The law of a program that is read returns true, at every text. -/
import Derived.Test.YtkdipppeljpgmaaGreatDoorGrpMR4
import Derived.Test.YtkdipppeljpgmaaGreatDoorRows
import Derived.ProofKit
import Derived.LaidMore
import Derived.OpenShut
import Derived.ChangeMaps5
import Derived.Lib.LaidTab
import Derived.Test.YtkdipppeljpgmaaGreatDoorCards
import Derived.Test.YtkdipppeljpgmaaGreatDoorTie
import Derived.Deep.DeepHandedRow
import Derived.JoinedCond
import Derived.ChangeVars
namespace Go.Proofs.YtkdipppeljpgmaaGreatDoor
open Go.RowKit Go.Deep

noncomputable def ansT (ns : List Nd) : Bool := (answers ns).choose
theorem ansT_spec (ns : List Nd) : SpecAns ns (ansT ns) := (answers ns).choose_spec.1
theorem ansT_impl (ns : List Nd) : ImplAns ns (ansT ns) := (answers ns).choose_spec.2

/-- An answer's two boxes. -/
def BoxAt (b : Nat) (v0 v1 : Value) (k a : Int) (X : World) : Prop := X.heap[b]? = some (.cells #[v0, v1] 25) ∧ X.heap[b + 1]? = some (.cells #[.int .i64 k, .int .i64 a] 27)

theorem box_fact {b lo hi : Nat} {v0 v1 : Value} {k a : Int} (h : lo ≤ b) (h' : b + 1 < hi) : Fact lo hi (BoxAt b v0 v1 k a) := fun _ _ ht he => ⟨(he b h (by omega)).trans ht.1, (he (b + 1) (by omega) h').trans ht.2⟩

theorem BoxAt.below {b : Nat} {v0 v1 : Value} {k a : Int} {w w' : World} (h : BoxAt b v0 v1 k a w) (hb : Below w.heap.size w w') : BoxAt b v0 v1 k a w' := ⟨(hb.block _ (heap_lt h.1)).trans h.1, (hb.block _ (heap_lt h.2)).trans h.2⟩

theorem BoxAt.cells {b : Nat} {v0 v1 : Value} {k a : Int} {w : World} (h : BoxAt b v0 v1 k a w) : w.cell? ⟨b, 0, none⟩ = some v0 ∧ w.cell? ⟨b, 1, none⟩ = some v1 ∧ w.cell? ⟨b + 1, 0, none⟩ = some (.int .i64 k) ∧ w.cell? ⟨b + 1, 1, none⟩ = some (.int .i64 a) :=
  ⟨by rw [cell_of_heap h.1 0]; rfl, by rw [cell_of_heap h.1 1]; rfl, by rw [cell_of_heap h.2 0]; rfl, by rw [cell_of_heap h.2 1]; rfl⟩

/-- Both boxes, filled. -/
def boxed (W : World) (v0 v1 : Value) (k a : Int) : World := (W.alloc (.cells #[v0, v1] 25)).alloc (.cells #[.int .i64 k, .int .i64 a] 27)

theorem boxed_is (W : World) (v0 v1 : Value) (k a : Int) : Below W.heap.size W (boxed W v0 v1 k a) ∧ BoxAt W.heap.size v0 v1 k a (boxed W v0 v1 k a) := by
  obtain ⟨h1, h2, h3, -⟩ := two_blocks W (.cells #[v0, v1] 25) (.cells #[.int .i64 k, .int .i64 a] 27)
  exact ⟨h1, h2, h3⟩

/-- The rows of an answer; and with the marks in them. -/
def RowsE (es : List Ef) (ns : List Nd) (B : Nat) (v0 v1 : Value) (X : World) : Prop := SliceR 59 3 B X v0 es.length (efF es) ∧ SliceR 64 6 B X v1 ns.length (ndF ns)
def RowsM (n m B : Nat) (v0 v1 : Value) (X : World) : Prop := SliceR 59 3 B X v0 n efMarks ∧ SliceR 64 6 B X v1 m (ndMarksS (1 + 3 * n))

set_option maxHeartbeats 8000000 in
set_option maxRecDepth 100000 in
theorem progReadLaw (t : ByteArray) (w : World) :
    Calls Tryz.prog 3 #[.string t] w fun e w' => e = .returned (.bool true) ∧ Below w.heap.size w w' := by
  have HS := hid (fun W => spec_ends t ansT ansT_spec W)
  have HI := hid (fun W => impl_ends t ansT ansT_impl W)
  have HF := hid (readZ_few t ansT)
  generalize esR (readZ t ansT) = es at *
  generalize nsR (readZ t ansT) = ns at *
  generalize kR (readZ t ansT) = k at *
  generalize aR (readZ t ansT) = a at *
  have HM := hid (show es.length ≤ 1048576 ∧ ns.length ≤ 1048576 ∧ es.length ≤ 1000000 ∧ ns.length ≤ 1000000 from by have := HF.out; omega)
  go_enter Tryz.func3, Tryz.ntmps3
  by_cases hl : (1048576 : Int) < (t.size : Int)
  · go_wp2_with fail
    go_ret
    exact ⟨rfl, Below.refl _ _⟩
  go_wp2_with fail
  refine (HS.out _).mono ?_
  rintro e W1 ⟨u0, u1, rfl, hu0, hu1, hb1⟩
  obtain ⟨hB2, hx2⟩ := boxed_is W1 u0 u1 k a
  have hP : ∀ X, Below (boxed W1 u0 u1 k a).heap.size (boxed W1 u0 u1 k a) X → Below w.heap.size w X ∧ BoxAt W1.heap.size u0 u1 k a X ∧ EffSlice X u0 es ∧ NodeSlice X u1 ns := fun X hX =>
    ⟨(hb1.trans (hB2.mono hb1.size)).trans (hX.mono (Nat.le_trans hb1.size hB2.size)), hx2.below hX, (hu0.below hB2).below hX, (hu1.below hB2).below hX⟩
  obtain ⟨au0, cu0, rfl, -⟩ := hu0
  obtain ⟨au1, cu1, rfl, -⟩ := hu1
  obtain ⟨X2, hX2⟩ : ∃ X, boxed W1 (.slice au0 es.length cu0) (.slice au1 ns.length cu1) k a = X := ⟨_, rfl⟩
  rw [hX2] at hP hB2 hx2
  unfold boxed at hX2
  have HX2 := hid hX2
  obtain ⟨b2, hb2⟩ : ∃ b, W1.heap.size = b := ⟨_, rfl⟩
  rw [hb2] at hP
  have HB2 := hid hb2
  have HP := hid hP
  clear hP hB2 hx2 hX2 hb1 hb2
  go_wp2_with fail
  rw [HX2.out]
  rw [HB2.out]
  clear HX2 HB2
  refine (HI.out _).mono ?_
  rintro e W3 ⟨g0, g1, rfl, hg0, hg1, hb3⟩
  have HI3 := hid (And.intro hg0.insideN hg1.insideN)
  have M3 := hid ((Held.start X2).add hb3 (T := RowsE es ns X2.heap.size g0 g1) ((fact_slice _ HI3.out.1).and (fact_slice _ HI3.out.2)) ⟨hg0, hg1⟩)
  obtain ⟨hB4, hx4⟩ := boxed_is W3 g0 g1 k a
  obtain ⟨ag0, cg0, rfl, -⟩ := hg0
  obtain ⟨ag1, cg1, rfl, -⟩ := hg1
  obtain ⟨X4, hX4⟩ : ∃ X, boxed W3 (.slice ag0 es.length cg0) (.slice ag1 ns.length cg1) k a = X := ⟨_, rfl⟩
  rw [hX4] at hB4 hx4
  have M4 := hid (M3.out.add hB4 (T := BoxAt W3.heap.size (.slice ag0 es.length cg0) (.slice ag1 ns.length cg1) k a) (box_fact (Nat.le_refl _) (heap_lt hx4.2)) hx4)
  unfold boxed at hX4
  have HX4 := hid hX4
  clear hB4 hx4 hX4 hb3
  obtain ⟨b4, hb4⟩ : ∃ b, W3.heap.size = b := ⟨_, rfl⟩
  rw [hb4] at M4 M3 HI3
  have HB4 := hid hb4
  clear hb4
  obtain ⟨p0, p1, p2, p3⟩ := (HP.out X4 M4.out.below).2.1.cells
  obtain ⟨q0, q1, q2, q3⟩ := (M4.out.tells _ List.mem_cons_self).cells
  have HE4 := hid (eqProg_sl X4 HM.out.1 HM.out.2.1 (M4.out.tells _ (List.mem_cons_of_mem _ List.mem_cons_self)).1.effS (M4.out.tells _ (List.mem_cons_of_mem _ List.mem_cons_self)).2.nodeS (HP.out X4 M4.out.below).2.2.1 (HP.out X4 M4.out.below).2.2.2)
  clear M3
  go_upto_region 5 with fail
  rw [HX4.out]
  rw [HB4.out]
  clear HX4 HB4
  go_wp2_with fail
  refine HE4.out.mono ?_
  rintro e W5 ⟨rfl, hb5⟩
  have M5 := hid (M4.out.keep hb5)
  clear HE4 hb5 p0 p1 p2 p3 q0 q1 q2 q3 M4
  obtain ⟨p0, p1, p2, p3⟩ := (HP.out W5 M5.out.below).2.1.cells
  obtain ⟨q0, q1, q2, q3⟩ := (M5.out.tells _ List.mem_cons_self).cells
  go_wp2_with fail
  refine (eqFault_callsR k a W5).mono ?_
  rintro e W6 ⟨rfl, hb6⟩
  have M6 := hid (M5.out.keep hb6)
  clear hb6 p0 p1 p2 p3 q0 q1 q2 q3 M5
  obtain ⟨q0, q1, q2, q3⟩ := (M6.out.tells _ List.mem_cons_self).cells
  have hr6 := M6.out.tells _ (List.mem_cons_of_mem _ List.mem_cons_self)
  have HMk := hid (markProg_sl W6 HM.out.2.2.1 HM.out.2.2.2 hr6.1 hr6.2)
  have HR6 := hid hr6
  clear hr6
  go_wp2_with fail
  refine HMk.out.mono ?_
  rintro e W7 ⟨rfl, hs0, hs1, hc⟩
  have M7 := hid (M6.out.chg [_] (T' := RowsM es.length ns.length X2.heap.size (.slice ag0 es.length cg0) (.slice ag1 ns.length cg1)) hc (fun q hq => by
    rcases hq with ⟨h0, e⟩ | ⟨h0, e⟩
    · obtain ⟨g, e1, h1, -⟩ := HR6.out.1.block h0
      rw [e1] at e
      cases e
      exact ⟨h1, HI3.out.1 h0 _ e1⟩
    · obtain ⟨g, e1, h1, -⟩ := HR6.out.2.block h0
      rw [e1] at e
      cases e
      exact ⟨h1, HI3.out.2 h0 _ e1⟩) ((fact_slice _ HI3.out.1).and (fact_slice _ HI3.out.2)) ⟨hs0, hs1⟩)
  have HH := hid (fun X (h : RowsM es.length ns.length X2.heap.size (.slice ag0 es.length cg0) (.slice ag1 ns.length cg1) X) => heldProg_sl X HM.out.2.2.1 HM.out.2.2.2 h.1 h.2)
  clear hs0 hs1 hc HMk HR6 q0 q1 q2 q3 M6
  have hpos : ¬ (1 + 3 * (es.length : Int) + 6 * (ns.length : Int) < 0) := by omega
  generalize 1 + 3 * (es.length : Int) + 6 * (ns.length : Int) = s at *
  have hss : (s != s) = false := by simp
  obtain ⟨q0, q1, q2, q3⟩ := (M7.out.tells _ List.mem_cons_self).cells
  go_wp2_with fail
  refine (HH.out W7 (M7.out.tells _ (List.mem_cons_of_mem _ List.mem_cons_self))).mono ?_
  rintro e W8 ⟨rfl, hb8⟩
  have M8 := hid (M7.out.keep hb8)
  clear hb8 q0 q1 q2 q3 M7
  go_wp2_with fail
  refine (HI.out _).mono ?_
  rintro e W9 ⟨g2, g3, rfl, hg2, hg3, hb9⟩
  have M9 := hid (M8.out.add hb9 (T := RowsE es ns W8.heap.size g2 g3) ((fact_slice _ hg2.insideN).and (fact_slice _ hg3.insideN)) ⟨hg2, hg3⟩)
  obtain ⟨hB10, hx10⟩ := boxed_is W9 g2 g3 k a
  obtain ⟨ag2, cg2, rfl, -⟩ := hg2
  obtain ⟨ag3, cg3, rfl, -⟩ := hg3
  obtain ⟨X10, hX10⟩ : ∃ X, boxed W9 (.slice ag2 es.length cg2) (.slice ag3 ns.length cg3) k a = X := ⟨_, rfl⟩
  rw [hX10] at hB10 hx10
  have M10 := hid (M9.out.add hB10 (T := BoxAt W9.heap.size (.slice ag2 es.length cg2) (.slice ag3 ns.length cg3) k a) (box_fact (Nat.le_refl _) (heap_lt hx10.2)) hx10)
  unfold boxed at hX10
  have HX10 := hid hX10
  clear hB10 hx10 hX10 hb9 M8
  obtain ⟨b10, hb10⟩ : ∃ b, W9.heap.size = b := ⟨_, rfl⟩
  rw [hb10] at M10 M9
  have HB10 := hid hb10
  clear hb10 M9
  obtain ⟨p0, p1, p2, p3⟩ := (HP.out X10 M10.out.below).2.1.cells
  obtain ⟨q0, q1, q2, q3⟩ := (M10.out.tells _ List.mem_cons_self).cells
  have HE10 := hid (eqProg_sl X10 HM.out.1 HM.out.2.1 (M10.out.tells _ (List.mem_cons_of_mem _ List.mem_cons_self)).1.effS (M10.out.tells _ (List.mem_cons_of_mem _ List.mem_cons_self)).2.nodeS (HP.out X10 M10.out.below).2.2.1 (HP.out X10 M10.out.below).2.2.2)
  go_upto_region 16 with fail
  rw [HX10.out]
  rw [HB10.out]
  clear HX10 HB10
  go_wp2_with fail
  refine HE10.out.mono ?_
  rintro e W11 ⟨rfl, hb11⟩
  have M11 := hid (M10.out.keep hb11)
  clear HE10 hb11 p0 p1 p2 p3 q0 q1 q2 q3 M10
  obtain ⟨p0, p1, p2, p3⟩ := (HP.out W11 M11.out.below).2.1.cells
  obtain ⟨q0, q1, q2, q3⟩ := (M11.out.tells _ List.mem_cons_self).cells
  go_wp2_with fail
  refine (eqFault_callsR k a W11).mono ?_
  rintro e W12 ⟨rfl, hb12⟩
  have M12 := hid (M11.out.keep hb12)
  clear hb12 p0 p1 p2 p3 q0 q1 q2 q3 M11
  obtain ⟨q0, q1, q2, q3⟩ := (M12.out.tells _ (List.mem_cons_of_mem _ (List.mem_cons_of_mem _ List.mem_cons_self))).cells
  go_wp2_with fail
  refine (HH.out W12 (M12.out.tells _ (List.mem_cons_of_mem _ (List.mem_cons_of_mem _ (List.mem_cons_of_mem _ List.mem_cons_self))))).mono ?_
  rintro e W13 ⟨rfl, hb13⟩
  have M13 := hid (M12.out.keep hb13)
  clear hb13 q0 q1 q2 q3 M12
  go_wp2_with fail
  go_ret
  exact ⟨rfl, (HP.out W13 M13.out.below).1⟩
end Go.Proofs.YtkdipppeljpgmaaGreatDoor

/- At every text the program that is read is what the specification reads, its answer owns its memory; the card. -/
namespace Go.Proofs.YtkdipppeljpgmaaGreatDoor.fnExactProgRead
open Go.ChangeShapes Go.WideShapes Go.ChangeAt Go.RowKit
open Go.ChangeMaps (open_string shut_string)

theorem own : ownKnob Tryz.prog.godebug = none := by kernel_rfl
theorem laidOut : laidOutB Tryz.prog = true := by kernel_rfl

set_option maxRecDepth 100000 in
theorem contract (H : Type) (enc : TypeId × Value → H) (W : World) (base : Nat) (args : Array Value) (ds gs : List (DataW H)) (before : List MemPlace)
    (hval0 : ∀ (j : Nat) t v, Tryz.f3.params[j]? = some t → args[j]? = some v → Value.okWide Tryz.prog W .any base t v)
    (hW : DataW.Whole enc Tryz.prog Tryz.f3.params.toList Rows.fnExactProgReadSpec.vars false W args.toList ds gs before) :
    Calls Tryz.prog 3 args W fun e W' => ∃ v, e = .returned v ∧ Rows.fnExactProgReadSpec.post enc Tryz.prog Tryz.f3 false true false false W args v W' := by
  have hval : ∀ (j : Nat) t v, Tryz.f3.params[j]? = some t → args[j]? = some v → Value.okWide Tryz.prog W .any base t v := hval0
  have hW' := hW
  obtain ⟨p, q, hA0, hV0, rfl, hfz, hnd⟩ := hW
  have hA : DataW.TrodAll enc Tryz.prog W 0 (fun _ => true) true Tryz.f3.params.toList args.toList ds p := hA0
  rw [Tryz.params3] at hA hval
  obtain ⟨v0, vs0, d0, ds0, p0, q0, hargs, rfl, rfl, h0, r0⟩ := trodAll_cons hA
  obtain ⟨rfl, rfl, rfl⟩ := trodAll_nil r0
  obtain rfl : args = #[v0] := by cases args; simp_all
  obtain ⟨rfl, rfl⟩ := trodVars_none hV0
  obtain ⟨a0, rfl, rfl, rfl, w0⟩ := open_string Tryz.underlying9 (hval 0 9 v0 rfl rfl) h0
  clear hA0 hval0
  simp only [List.append_nil] at hW'
  refine (progReadLaw a0 W).mono fun e W' ⟨he, hg⟩ => ?_
  subst he
  refine ⟨_, rfl, _, _, _, [], [], [], hW', ?_, ?_, rfl, hg.frame _, fun h => by cases h⟩
  · exact trodAll_cons_mk (shut_bool Tryz.underlying4 _) trodAll_mk0
  · exact trodAll_cons_mk (shut_string Tryz.underlying9 w0) trodAll_mk0

theorem laid_met (os : Os) : laidMet Tryz.prog Rows.fnExactProgReadRow.laid ((World.doorLaid Tryz.prog 400 os).forCall (fun _ _ => 0) ⟨#[], #[.string ByteArray.empty], []⟩).memory :=
  laidMet_of_run' 8 (by kernel_rfl) (by kernel_rfl)
set_option maxRecDepth 100000 in
theorem lifted (os : Os) (started : os.Started) (H : Type) (enc : TypeId × Value → H) (F : Stop.Interp) :
    ReturnsInHanded {} Tryz.checked os 3 .any ((OpenSpec.ofChange Rows.fnExactProgReadSpec).preRow enc Tryz.prog Tryz.f3 Rows.fnExactProgReadRow.domain false Rows.fnExactProgReadRow.laid) (((OpenSpec.ofChange Rows.fnExactProgReadSpec).at F).post enc Tryz.prog Tryz.f3 false true false false) := by
  refine returnsInHanded_of_row (C := Tryz.checked) (s := OpenSpec.ofChange Rows.fnExactProgReadSpec) own started (by kernel_rfl) Tryz.func3
    (witness_row_at (enc := enc) (C := Tryz.checked) false (World.doorLaid Tryz.prog 400 os) #[.string ByteArray.empty] rfl (by kernel_rfl) (by kernel_rfl) (by kernel_rfl)
      (OpenSpec.preRow_of_cond 8 (show DataW.whole enc Tryz.prog ((World.doorLaid Tryz.prog 400 os).forCall (fun _ _ => 0) ⟨#[], #[.string ByteArray.empty], []⟩).memory Tryz.f3.params.toList Rows.fnExactProgReadSpec.vars false #[.string ByteArray.empty].toList 8 = some ([.lit (.string [])], [], []) by kernel_rfl) (by kernel_rfl) (fun k hk => by cases hk) (by kernel_rfl) (laid_met os))) ?_
  intro W base args ds gs before hval hW _ _ _ _ _ _
  exact contract H enc W base args ds gs before hval hW

theorem said : Rows.FnExactProgReadSaid :=
  OpenClaim.holds_of_cond 3 Tryz.f3 rfl rfl rfl rfl rfl rfl rfl ⟨rfl, rfl, rfl, rfl, rfl⟩ rfl rfl rfl rfl rfl (by kernel_rfl) Tryz.func3 (by kernel_rfl)
    (of_decide_eq_true (by kernel_rfl)) (by unfold Func.isWrapper; first | (rw [if_pos (by decide +kernel)]; kernel_rfl) | (rw [if_neg (by decide +kernel)]; exact ⟨rfl, rfl⟩))
    (fun os started H enc _ F => by rw [OpenClaim.pre_eq_preRow]; exact lifted os started H enc F)

theorem plain (f : FuncId) (fn : Func) (hf : Tryz.pinned.checked.prog.funcNamed "loop.example/handrail/laws.FnExactProgRead" = some f) (hfn : Tryz.pinned.checked.prog.funcs[f]? = some fn) :
    true = Tryz.pinned.checked.prog.looks [] ∧ ∀ (j : Nat) t, fn.params[j]? = some t → Tryz.pinned.checked.prog.wantsStandIn t = false := by
  obtain rfl : f = 3 := Option.some.inj ((show Tryz.prog.funcNamed "loop.example/handrail/laws.FnExactProgRead" = some 3 by kernel_rfl).symm.trans hf) |>.symm
  obtain rfl : fn = Tryz.f3 := (Option.some.inj (Tryz.func3.symm.trans hfn)).symm
  refine ⟨by kernel_rfl, fun j t ht => ?_⟩
  rw [Tryz.params3] at ht
  obtain rfl : t = 9 := by simpa using Array.mem_of_getElem? ht
  exact (show Tryz.prog.wantsStandIn 9 = false by kernel_rfl)

theorem proved : Rows.FnExactProgReadCardSaid :=
  Claim7.holds_tied_plain_at .later [] _ _ _ _ said (fun _ h => by cases h) (by kernel_rfl) (fun _ h => by cases h) fnExactProgRead_row_tie rfl ⟨rfl, rfl⟩ (by kernel_rfl) rfl plain (by kernel_rfl)
#print axioms proved
end Go.Proofs.YtkdipppeljpgmaaGreatDoor.fnExactProgRead
