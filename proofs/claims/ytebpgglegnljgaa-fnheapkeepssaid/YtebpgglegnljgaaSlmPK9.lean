/- At every two rows of bytes the promise on what is kept holds: nothing that is reached is lost or changed by collecting; the bytes unchanged; no condition. -/
import Derived.Test.YtebpgglegnljgaaSlmPK7
import Derived.Test.YtebpgglegnljgaaSlmPK8
import Derived.Test.YtebpgglegnljgaaRows
import Derived.WalkKit
import Derived.ProofKit
import Derived.OpenShut
namespace Go.Proofs.Ytebpgglegnljgaa
open Go.RowKit Go.Deep

theorem slice_apart {t : TypeId} {sz B b : Nat} {w w' : World} {v : Value} {n : Nat} {F : Nat → Value} (h : SliceR t sz B w v n F) (hb : b < B) (e : ∀ j, j ≠ b → w'.heap[j]? = w.heap[j]?) : SliceR t sz B w' v n F := by
  obtain ⟨ad, cap, rfl, h⟩ := h
  refine ⟨ad, cap, rfl, h.imp id ?_⟩
  rintro ⟨g, rfl, hB, hr⟩
  exact ⟨g, rfl, hB, hr.of_block (e g (by omega))⟩

theorem ob_apart {B b : Nat} {W W' : World} {v : Value} {n : Nat} {ks : Nat → Int} {fv : Nat → Value} {ln : Nat → Nat} {F : Nat → Nat → Value} (o : ObR B W v n ks fv ln F) (hb : b < B) (e : ∀ j, j ≠ b → W'.heap[j]? = W.heap[j]?) : ObR B W' v n ks fv ln F :=
  ⟨slice_apart o.row hb e, fun i hi => slice_apart (o.fld i hi) hb e⟩

theorem ob_base {B B' : Nat} {W : World} {v : Value} {n : Nat} {ks : Nat → Int} {fv : Nat → Value} {ln : Nat → Nat} {F : Nat → Nat → Value} (o : ObR B W v n ks fv ln F) (hb : B' ≤ B) : ObR B' W v n ks fv ln F :=
  ⟨o.row.mono hb, fun i hi => (o.fld i hi).mono hb⟩

set_option maxHeartbeats 60000000 in
set_option maxRecDepth 100000 in
theorem keeps_walk (a0 : Option Addr) (len cap : Nat) (a1 : Option Addr) (len1 cap1 : Nat) (W : World) (hcap : len ≤ cap) (hB : BytesAt W a0 len) (hcap1 : len1 ≤ cap1) (hB1 : BytesAt W a1 len1) :
    Calls Try.prog 3 #[.slice a0 len cap, .slice a1 len1 cap1] W fun e W' => e = .returned (.bool true) ∧ Below W.heap.size W W' := by
  by_cases hl : (1048576 : Int) < (len : Int)
  · go_enter Try.func3, Try.ntmps3
    go_wp2_with fail
    go_ret
    exact ⟨rfl, Below.refl _ _⟩
  by_cases hm : (1048576 : Int) < (len1 : Int)
  · have hl1 : (len : Int) ≤ 1048576 := by omega
    clear hl hB hB1 hcap hcap1
    go_enter Try.func3, Try.ntmps3
    go_wp2_with fail
    go_ret
    exact ⟨rfl, Below.refl _ _⟩
  have HD := hid (drawMake_calls a0 len cap W (by omega) hcap hB)
  have HE : Hid (∀ X, Below W.heap.size W X → Calls Try.prog 16 #[.slice a1 len1 cap1] X (DrawFlipP X)) := fun X hX => drawFlip_calls a1 len1 cap1 X (by omega) hcap1 (hB1.later hX)
  have hl1 : (len : Int) ≤ 1048576 := by omega
  have hl2 : (len1 : Int) ≤ 1048576 := by omega
  clear hB hB1 hl hm hcap hcap1
  go_enter Try.func3, Try.ntmps3
  go_wp2_with fail
  refine HD.out.mono ?_
  rintro e W1 ⟨bw, cp, g, gc, gf, fc, ws, h, rs, fs, kind, mi, rfl, hr, hfs, hgc⟩
  obtain ⟨L, hL⟩ : ∃ L, ws.length = L := ⟨_, rfl⟩
  obtain ⟨nf, hnf⟩ : ∃ n, fs.length = n := ⟨_, rfl⟩
  obtain ⟨os, ys, ok, A, H, Y, D, md, ha⟩ := half_a ws rs fs h kind mi L nf hL hnf hr.l8 hr.l0 hr.rl hr.fl hr.tc
  have HA := hid ha
  have HCp : Hid (L ≤ cp) := by show _ ≤ _; rw [← hL]; exact hr.cw
  obtain ⟨nA, hnA⟩ : ∃ n, A.length = n := ⟨_, rfl⟩
  obtain ⟨ny, hny⟩ : ∃ n, Y.length = n := ⟨_, rfl⟩
  have HnA := hid hnA
  have Hny := hid hny
  have hrow := hr.row
  rw [hL] at hrow
  rw [hnf] at hfs
  have HW_1 := hid hrow
  have HT_2 := hid hr.rt
  have HF_3 := hid hfs
  have HB_4 := hid hr.below
  unfold heapV
  rw [hL, hnf]
  clear HD ha hrow hr hfs hgc hL hnf hnA hny hl1 hl2
  go_wp2_with fail
  have hbA := (Below.refl W1.heap.size W1).alloc (Nat.le_refl _) (.cells #[.slice (some ⟨bw, 0, none⟩) L cp, .int .i64 h.size, .int .i64 h.to, .int .i64 h.bottom, .int .i64 h.top, .int .i64 h.scan, .int .i64 h.fb, .int .i64 h.ft, .int .i64 h.flips, .int .i64 h.touched] 25)
  have HW_5 := hid (HW_1.out.below hbA)
  have HT_6 := hid (HT_2.out.below hbA)
  have HF_7 := hid (HF_3.out.below hbA)
  have HB_8 := hid (HB_4.out.trans (hbA.mono HB_4.out.size))
  clear HW_1 HT_2 HF_3 HB_4
  have B5_9 : Hid (HeapBlk _ W1.heap.size (.slice (some ⟨bw, 0, none⟩) L cp) h) := HeapBlk.new W1 (.slice (some ⟨bw, 0, none⟩) L cp) h
  obtain ⟨b5, hb5⟩ : ∃ b, W1.heap.size = b := ⟨_, rfl⟩
  obtain ⟨V1, hV1⟩ : ∃ X, W1.alloc (.cells #[.slice (some ⟨bw, 0, none⟩) L cp, .int .i64 h.size, .int .i64 h.to, .int .i64 h.bottom, .int .i64 h.top, .int .i64 h.scan, .int .i64 h.fb, .int .i64 h.ft, .int .i64 h.flips, .int .i64 h.touched] 25) = X := ⟨_, rfl⟩
  rw [hV1] at HW_5 HT_6 HF_7 HB_8 B5_9 ⊢
  rw [hb5] at B5_9 ⊢
  clear hb5 hV1 hbA
  refine (HA.out.gi _ bw cp _ g gc V1 HCp.out HW_5.out HT_6.out).mono ?_
  rintro e V2 ⟨⟨v1, u1, fv1, rfl, hob, hys, -, -⟩, hb⟩
  have HW_10 := hid (HW_5.out.below hb)
  have HT_11 := hid (HT_6.out.below hb)
  have HF_12 := hid (HF_7.out.below hb)
  have HB_13 := hid (HB_8.out.trans (hb.mono HB_8.out.size))
  have B5_14 := hid (B5_9.out.below hb)
  clear HW_5 HT_6 HF_7 HB_8 B5_9
  clear hb
  have O1_15 := hid hob
  have Y1_16 := hid hys
  clear hob hys
  obtain ⟨c0, c1, c2, c3, c4, c5, c6, c7, c8, c9⟩ := B5_14.out.cells
  go_wp2_with fail
  clear c0 c1 c2 c3 c4 c5 c6 c7 c8 c9
  refine (HA.out.gs _ bw cp _ g gc V2 HCp.out HW_10.out HT_11.out).mono ?_
  rintro e V3 ⟨⟨v2, u2, fv2, rfl, hob, hys⟩, hb⟩
  have HW_17 := hid (HW_10.out.below hb)
  have HT_18 := hid (HT_11.out.below hb)
  have HF_19 := hid (HF_12.out.below hb)
  have HB_20 := hid (HB_13.out.trans (hb.mono HB_13.out.size))
  have B5_21 := hid (B5_14.out.below hb)
  have O1_22 := hid (O1_15.out.below hb)
  have Y1_23 := hid (Y1_16.out.below hb)
  clear HW_10 HT_11 HF_12 HB_13 B5_14 O1_15 Y1_16
  clear hb
  have O2_24 := hid hob
  have Y2_25 := hid hys
  clear hob hys
  have hRR : (ok != ok) = false := by cases ok <;> rfl
  go_wp2_with fail
  refine (hrObjs_any (fieldsOf os) V3 (by have := HA.out.ol; omega) (fun i hi => by have := HA.out.fl i hi; omega) O1_22.out O2_24.out).mono ?_
  rintro e V4 ⟨rfl, hb⟩
  have HW_26 := hid (HW_17.out.below hb)
  have HT_27 := hid (HT_18.out.below hb)
  have HF_28 := hid (HF_19.out.below hb)
  have HB_29 := hid (HB_20.out.trans (hb.mono HB_20.out.size))
  have B5_30 := hid (B5_21.out.below hb)
  have O1_31 := hid (O1_22.out.below hb)
  have Y1_32 := hid (Y1_23.out.below hb)
  have O2_33 := hid (O2_24.out.below hb)
  have Y2_34 := hid (Y2_25.out.below hb)
  clear HW_17 HT_18 HF_19 HB_20 B5_21 O1_22 Y1_23 O2_24 Y2_25
  clear hb
  go_wp2_with fail
  refine (hrInts_any (v := u1) (v' := u2) (bs := ys) V4 (by have := HA.out.yl; omega) Y1_32.out.intSlice Y2_34.out.intSlice).mono ?_
  rintro e V5 ⟨rfl, hb⟩
  have HW_35 := hid (HW_26.out.below hb)
  have HT_36 := hid (HT_27.out.below hb)
  have HF_37 := hid (HF_28.out.below hb)
  have HB_38 := hid (HB_29.out.trans (hb.mono HB_29.out.size))
  have B5_39 := hid (B5_30.out.below hb)
  have O1_40 := hid (O1_31.out.below hb)
  have Y1_41 := hid (Y1_32.out.below hb)
  have O2_42 := hid (O2_33.out.below hb)
  have Y2_43 := hid (Y2_34.out.below hb)
  clear HW_26 HT_27 HF_28 HB_29 B5_30 O1_31 Y1_32 O2_33 Y2_34
  clear hb
  clear O2_42
  clear Y2_43
  obtain ⟨c0, c1, c2, c3, c4, c5, c6, c7, c8, c9⟩ := B5_39.out.cells
  go_wp2_with fail
  clear c0 c1 c2 c3 c4 c5 c6 c7 c8 c9
  refine (HA.out.mi _ bw cp _ g gc _ gf fc V5 HCp.out HW_35.out HT_36.out HF_37.out).mono ?_
  rintro e V6 ⟨⟨ag, cg, ug, rfl, hvg, hug, hcg⟩, hb⟩
  have HW_44 := hid (HW_35.out.below hb)
  have HT_45 := hid (HT_36.out.below hb)
  have HF_46 := hid (HF_37.out.below hb)
  have HB_47 := hid (HB_38.out.trans (hb.mono HB_38.out.size))
  have B5_48 := hid (B5_39.out.below hb)
  have O1_49 := hid (O1_40.out.below hb)
  have Y1_50 := hid (Y1_41.out.below hb)
  clear HW_35 HT_36 HF_37 HB_38 B5_39 O1_40 Y1_41
  clear hb
  obtain ⟨aug, cug, he, -⟩ := id hug
  subst he
  rw [HnA.out] at hvg hcg
  rw [Hny.out] at hug
  rw [HnA.out, Hny.out]
  have GA_51 := hid hvg
  have UA_52 := hid hug
  have HCg := hid hcg
  clear hvg hug hcg
  unfold heapV
  dsimp only
  have HSb16 : Hid (W.heap.size ≤ V6.heap.size) := HB_47.out.size
  have hbA := (Below.refl V6.heap.size V6).alloc (Nat.le_refl _) (.cells #[.slice ag nA cg, .int .i64 H.size, .int .i64 H.to, .int .i64 H.bottom, .int .i64 H.top, .int .i64 H.scan, .int .i64 H.fb, .int .i64 H.ft, .int .i64 H.flips, .int .i64 H.touched] 25)
  have HW_53 := hid (HW_44.out.below hbA)
  have HT_54 := hid (HT_45.out.below hbA)
  have HF_55 := hid (HF_46.out.below hbA)
  have HB_56 := hid (HB_47.out.trans (hbA.mono HB_47.out.size))
  have B5_57 := hid (B5_48.out.below hbA)
  have O1_58 := hid (O1_49.out.below hbA)
  have Y1_59 := hid (Y1_50.out.below hbA)
  have GA_60 := hid (GA_51.out.below hbA)
  have UA_61 := hid (UA_52.out.below hbA)
  clear HW_44 HT_45 HF_46 HB_47 B5_48 O1_49 Y1_50 GA_51 UA_52
  have B16_62 : Hid (HeapBlk _ V6.heap.size (.slice ag nA cg) H) := HeapBlk.new V6 (.slice ag nA cg) H
  obtain ⟨c0, c1, c2, c3, c4, c5, c6, c7, c8, c9⟩ := B5_57.out.cells
  go_wp2_with fail
  clear c0 c1 c2 c3 c4 c5 c6 c7 c8 c9
  obtain ⟨b16, hb16⟩ : ∃ b, V6.heap.size = b := ⟨_, rfl⟩
  obtain ⟨V7, hV7⟩ : ∃ X, V6.alloc (.cells #[.slice ag nA cg, .int .i64 H.size, .int .i64 H.to, .int .i64 H.bottom, .int .i64 H.top, .int .i64 H.scan, .int .i64 H.fb, .int .i64 H.ft, .int .i64 H.flips, .int .i64 H.touched] 25) = X := ⟨_, rfl⟩
  rw [hV7] at HW_53 HT_54 HF_55 HB_56 B5_57 O1_58 Y1_59 GA_60 UA_61 B16_62 ⊢
  rw [hb16] at B16_62 ⊢
  rw [hb16] at HSb16
  clear hb16 hV7 hbA
  refine (HA.out.ms _ bw cp _ g gc _ gf fc V7 HCp.out HW_53.out HT_54.out HF_55.out).mono ?_
  rintro e V8 ⟨⟨vw, uw, rfl, hvw, huw, -⟩, hb⟩
  have HW_63 := hid (HW_53.out.below hb)
  have HT_64 := hid (HT_54.out.below hb)
  have HF_65 := hid (HF_55.out.below hb)
  have HB_66 := hid (HB_56.out.trans (hb.mono HB_56.out.size))
  have B5_67 := hid (B5_57.out.below hb)
  have O1_68 := hid (O1_58.out.below hb)
  have Y1_69 := hid (Y1_59.out.below hb)
  have GA_70 := hid (GA_60.out.below hb)
  have UA_71 := hid (UA_61.out.below hb)
  have B16_72 := hid (B16_62.out.below hb)
  clear HW_53 HT_54 HF_55 HB_56 B5_57 O1_58 Y1_59 GA_60 UA_61 B16_62
  clear hb
  obtain ⟨aw, cw, he, -⟩ := id hvw
  subst he
  obtain ⟨auw, cuw, he, -⟩ := id huw
  subst he
  rw [HnA.out] at hvw
  rw [Hny.out] at huw
  rw [HnA.out, Hny.out]
  have GW_73 := hid hvw
  have UW_74 := hid huw
  clear hvw huw
  unfold heapV
  dsimp only
  have hMM : (md != md) = false := by cases md <;> rfl
  have hDD : (D != D) = false := by simp
  clear HW_63
  clear HT_64
  clear HF_65
  clear B5_67
  have HSb20 : Hid (b16 < V8.heap.size) := heap_lt B16_72.out
  have hbA := (Below.refl V8.heap.size V8).alloc (Nat.le_refl _) (.cells #[.slice aw nA cw, .int .i64 H.size, .int .i64 H.to, .int .i64 H.bottom, .int .i64 H.top, .int .i64 H.scan, .int .i64 H.fb, .int .i64 H.ft, .int .i64 H.flips, .int .i64 H.touched] 25)
  have HB_75 := hid (HB_66.out.trans (hbA.mono HB_66.out.size))
  have O1_76 := hid (O1_68.out.below hbA)
  have Y1_77 := hid (Y1_69.out.below hbA)
  have GA_78 := hid (GA_70.out.below hbA)
  have UA_79 := hid (UA_71.out.below hbA)
  have B16_80 := hid (B16_72.out.below hbA)
  have GW_81 := hid (GW_73.out.below hbA)
  have UW_82 := hid (UW_74.out.below hbA)
  clear HB_66 O1_68 Y1_69 GA_70 UA_71 B16_72 GW_73 UW_74
  have B20_83 : Hid (HeapBlk _ V8.heap.size (.slice aw nA cw) H) := HeapBlk.new V8 (.slice aw nA cw) H
  obtain ⟨c0, c1, c2, c3, c4, c5, c6, c7, c8, c9⟩ := B16_80.out.cells
  go_wp2_with fail
  clear c0 c1 c2 c3 c4 c5 c6 c7 c8 c9
  obtain ⟨b20, hb20⟩ : ∃ b, V8.heap.size = b := ⟨_, rfl⟩
  obtain ⟨V9, hV9⟩ : ∃ X, V8.alloc (.cells #[.slice aw nA cw, .int .i64 H.size, .int .i64 H.to, .int .i64 H.bottom, .int .i64 H.top, .int .i64 H.scan, .int .i64 H.fb, .int .i64 H.ft, .int .i64 H.flips, .int .i64 H.touched] 25) = X := ⟨_, rfl⟩
  rw [hV9] at HB_75 O1_76 Y1_77 GA_78 UA_79 B16_80 GW_81 UW_82 B20_83 ⊢
  rw [hb20] at B20_83 ⊢
  rw [hb20] at HSb20
  clear hb20 hV9 hbA
  refine (hrHeap_any (v := .slice ag nA cg) (v' := .slice aw nA cw) (bs := A) (h := H) V9 (by have := HA.out.al; omega) (by have := GA_78.out; rw [← HnA.out] at this ⊢; exact this.intSlice) (by have := GW_81.out; rw [← HnA.out] at this ⊢; exact this.intSlice)).mono ?_
  rintro e V10 ⟨rfl, hb⟩
  have HB_84 := hid (HB_75.out.trans (hb.mono HB_75.out.size))
  have O1_85 := hid (O1_76.out.below hb)
  have Y1_86 := hid (Y1_77.out.below hb)
  have GA_87 := hid (GA_78.out.below hb)
  have UA_88 := hid (UA_79.out.below hb)
  have B16_89 := hid (B16_80.out.below hb)
  have GW_90 := hid (GW_81.out.below hb)
  have UW_91 := hid (UW_82.out.below hb)
  have B20_92 := hid (B20_83.out.below hb)
  clear HB_75 O1_76 Y1_77 GA_78 UA_79 B16_80 GW_81 UW_82 B20_83
  clear hb
  go_wp2_with fail
  refine (hrInts_any (v := .slice aug ny cug) (v' := .slice auw ny cuw) (bs := Y) V10 (by have := HA.out.Yl; omega) (by have := UA_88.out; rw [← Hny.out] at this ⊢; exact this.intSlice) (by have := UW_91.out; rw [← Hny.out] at this ⊢; exact this.intSlice)).mono ?_
  rintro e V11 ⟨rfl, hb⟩
  have HB_93 := hid (HB_84.out.trans (hb.mono HB_84.out.size))
  have O1_94 := hid (O1_85.out.below hb)
  have Y1_95 := hid (Y1_86.out.below hb)
  have GA_96 := hid (GA_87.out.below hb)
  have UA_97 := hid (UA_88.out.below hb)
  have B16_98 := hid (B16_89.out.below hb)
  have GW_99 := hid (GW_90.out.below hb)
  have UW_100 := hid (UW_91.out.below hb)
  have B20_101 := hid (B20_92.out.below hb)
  clear HB_84 O1_85 Y1_86 GA_87 UA_88 B16_89 GW_90 UW_91 B20_92
  clear hb
  clear GW_99
  clear UW_100
  clear hRR hMM hDD
  have HNb : Hid (W.heap.size ≤ b16 ∧ b16 < b20) := ⟨HSb16.out, HSb20.out⟩
  cases md with
  | false =>
    clear O1_94
    clear Y1_95
    clear GA_96
    clear UA_97
    go_wp2_with fail
    have HX0 : Hid (b20 < V11.heap.size) := heap_lt B20_101.out
    refine (HE.out V11 HB_93.out).mono ?_
    rintro e V12 ⟨bw2, cp2, g2, gc2, ws2, h2, rs2, rfl, hr, hgc⟩
    obtain ⟨M, hM⟩ : ∃ M, V11.heap.size = M := ⟨_, rfl⟩
    have hb0 := hr.below
    have HMe := hid hM
    have HB_102 := hid (HB_93.out.trans (hb0.mono HB_93.out.size))
    have B16_103 := hid (B16_98.out.below hb0)
    have B20_104 := hid (B20_101.out.below hb0)
    clear HB_93 B16_98 B20_101
    obtain ⟨L2, hL⟩ : ∃ L, ws2.length = L := ⟨_, rfl⟩
    obtain ⟨os2, ys2, ok2, A2, H2, Y2, md2, A3, H3, ha⟩ := half_b ws2 rs2 h2 L2 hL hr.l8 hr.l0 hr.rl hr.fl hr.tc
    have HA2 := hid ha
    have HCp2 : Hid (L2 ≤ cp2) := by show _ ≤ _; rw [← hL]; exact hr.cw
    obtain ⟨nB, hnB⟩ : ∃ n, A2.length = n := ⟨_, rfl⟩
    obtain ⟨nz, hnz⟩ : ∃ n, Y2.length = n := ⟨_, rfl⟩
    have HnB := hid hnB
    have Hnz := hid hnz
    have hrow := hr.row
    have hrt := hr.rt
    rw [hL, hM] at hrow
    rw [hM] at hrt
    have HW_105 := hid hrow
    have HT_106 := hid hrt
    have GM_107 : Hid (M ≤ V12.heap.size) := by have e := hb0.size; rw [hM] at e; exact e
    have HN2 : Hid (W.heap.size ≤ b16 ∧ b16 < b20 ∧ b20 < M) := by have h1 := HNb.out; have h2 := HX0.out; have h3 := HMe.out; show _ ∧ _; omega
    unfold heapV
    rw [hL]
    clear ha hrow hrt hr hgc hL hM hb0 hnB hnz HX0 HMe HNb
    go_wp2_with fail
    have HSb27 : Hid (M ≤ V12.heap.size) := GM_107.out
    have hbA := (Below.refl V12.heap.size V12).alloc (Nat.le_refl _) (.cells #[.slice (some ⟨bw2, 0, none⟩) L2 cp2, .int .i64 h2.size, .int .i64 h2.to, .int .i64 h2.bottom, .int .i64 h2.top, .int .i64 h2.scan, .int .i64 h2.fb, .int .i64 h2.ft, .int .i64 h2.flips, .int .i64 h2.touched] 25)
    have HB_108 := hid (HB_102.out.trans (hbA.mono HB_102.out.size))
    have B16_109 := hid (B16_103.out.below hbA)
    have B20_110 := hid (B20_104.out.below hbA)
    have HW_111 := hid (HW_105.out.below hbA)
    have HT_112 := hid (HT_106.out.below hbA)
    have GM_113 : Hid (M ≤ (V12.alloc (.cells #[.slice (some ⟨bw2, 0, none⟩) L2 cp2, .int .i64 h2.size, .int .i64 h2.to, .int .i64 h2.bottom, .int .i64 h2.top, .int .i64 h2.scan, .int .i64 h2.fb, .int .i64 h2.ft, .int .i64 h2.flips, .int .i64 h2.touched] 25)).heap.size) := Nat.le_trans GM_107.out hbA.size
    clear HB_102 B16_103 B20_104 HW_105 HT_106 GM_107
    have B27_114 : Hid (HeapBlk _ V12.heap.size (.slice (some ⟨bw2, 0, none⟩) L2 cp2) h2) := HeapBlk.new V12 (.slice (some ⟨bw2, 0, none⟩) L2 cp2) h2
    obtain ⟨b27, hb27⟩ : ∃ b, V12.heap.size = b := ⟨_, rfl⟩
    obtain ⟨V13, hV13⟩ : ∃ X, V12.alloc (.cells #[.slice (some ⟨bw2, 0, none⟩) L2 cp2, .int .i64 h2.size, .int .i64 h2.to, .int .i64 h2.bottom, .int .i64 h2.top, .int .i64 h2.scan, .int .i64 h2.fb, .int .i64 h2.ft, .int .i64 h2.flips, .int .i64 h2.touched] 25) = X := ⟨_, rfl⟩
    rw [hV13] at HB_108 B16_109 B20_110 HW_111 HT_112 GM_113 B27_114 ⊢
    rw [hb27] at B27_114 ⊢
    rw [hb27] at HSb27
    clear hb27 hV13 hbA
    have HGe : Hid (M ≤ V13.heap.size) := GM_113.out
    refine (HA2.out.gi _ bw2 cp2 _ g2 gc2 V13 HCp2.out HW_111.out HT_112.out).mono ?_
    rintro e V14 ⟨⟨v4, u4, fv4, rfl, hob, hys, -, -⟩, hb⟩
    have HB_115 := hid (HB_108.out.trans (hb.mono HB_108.out.size))
    have B16_116 := hid (B16_109.out.below hb)
    have B20_117 := hid (B20_110.out.below hb)
    have HW_118 := hid (HW_111.out.below hb)
    have HT_119 := hid (HT_112.out.below hb)
    have GM_120 : Hid (M ≤ V14.heap.size) := Nat.le_trans GM_113.out hb.size
    have B27_121 := hid (B27_114.out.below hb)
    clear HB_108 B16_109 B20_110 HW_111 HT_112 GM_113 B27_114
    clear hb
    have O4_122 := hid (ob_base hob HGe.out)
    have Y4_123 := hid (SliceR.mono hys HGe.out)
    clear hob hys HGe
    obtain ⟨c0, c1, c2, c3, c4, c5, c6, c7, c8, c9⟩ := B27_121.out.cells
    go_wp2_with fail
    clear c0 c1 c2 c3 c4 c5 c6 c7 c8 c9
    have H27 : Hid (M ≤ b27) := HSb27
    have HGe : Hid (M ≤ V14.heap.size) := GM_120.out
    refine (HA2.out.fi _ bw2 cp2 _ g2 gc2 V14 HCp2.out HW_118.out HT_119.out).mono ?_
    rintro e V15 ⟨⟨ah, ch, uh, rfl, hvg, hug, hcg⟩, hb⟩
    have HB_124 := hid (HB_115.out.trans (hb.mono HB_115.out.size))
    have B16_125 := hid (B16_116.out.below hb)
    have B20_126 := hid (B20_117.out.below hb)
    have HW_127 := hid (HW_118.out.below hb)
    have HT_128 := hid (HT_119.out.below hb)
    have GM_129 : Hid (M ≤ V15.heap.size) := Nat.le_trans GM_120.out hb.size
    have B27_130 := hid (B27_121.out.below hb)
    have O4_131 := hid (O4_122.out.below hb)
    have Y4_132 := hid (Y4_123.out.below hb)
    clear HB_115 B16_116 B20_117 HW_118 HT_119 GM_120 B27_121 O4_122 Y4_123
    clear hb
    obtain ⟨auh, cuh, he, -⟩ := id hug
    subst he
    rw [HnB.out] at hvg hcg
    rw [Hnz.out] at hug
    rw [HnB.out, Hnz.out]
    have hvg2 := SliceR.mono hvg HGe.out
    have hug2 := SliceR.mono hug HGe.out
    have GB_133 := hid hvg2
    have UB_134 := hid hug2
    have HCh := hid hcg
    clear hvg hug hvg2 hug2 hcg HGe
    unfold heapV
    dsimp only
    obtain ⟨d0, d1, d2, d3, d4, d5, d6, d7, d8, d9⟩ := B16_125.out.cells
    have z0 := frozen_of_heap B16_125.out 0
    have z1 := frozen_of_heap B16_125.out 1
    have z2 := frozen_of_heap B16_125.out 2
    have z3 := frozen_of_heap B16_125.out 3
    have z4 := frozen_of_heap B16_125.out 4
    have z5 := frozen_of_heap B16_125.out 5
    have z6 := frozen_of_heap B16_125.out 6
    have z7 := frozen_of_heap B16_125.out 7
    have z8 := frozen_of_heap B16_125.out 8
    have z9 := frozen_of_heap B16_125.out 9
    try dsimp only at d0 d1 d2 d3 d4 d5 d6 d7 d8 d9
    have hT := heap_useT B16_125.out (.slice ah nB ch) H2 (fun Z => HeapBlk Z b16 (.slice ah nB ch) H2 ∧ (∀ B, B ≤ b16 → Below B V15 Z) ∧ ∀ g, g ≠ b16 → Z.heap[g]? = V15.heap[g]?) (fun Z a b c => ⟨a, b, c⟩)
    have hTs : (((((((((((V15).setCell ⟨b16, 0, none⟩ (.slice ah nB ch)).setCell ⟨b16, 1, none⟩ (.int .i64 H2.size)).setCell ⟨b16, 2, none⟩ (.int .i64 H2.to)).setCell ⟨b16, 3, none⟩ (.int .i64 H2.bottom)).setCell ⟨b16, 4, none⟩ (.int .i64 H2.top)).setCell ⟨b16, 5, none⟩ (.int .i64 H2.scan)).setCell ⟨b16, 6, none⟩ (.int .i64 H2.fb)).setCell ⟨b16, 7, none⟩ (.int .i64 H2.ft)).setCell ⟨b16, 8, none⟩ (.int .i64 H2.flips)).setCell ⟨b16, 9, none⟩ (.int .i64 H2.touched)).heap.size = V15.heap.size := by simp [World.setCell]
    have HB_135 := hid (HB_124.out.trans (hT.2.1 _ (by have := HN2.out; omega)))
    have B16_136 := hid hT.1
    have B20_137 : Hid (HeapBlk ((((((((((((V15).setCell ⟨b16, 0, none⟩ (.slice ah nB ch)).setCell ⟨b16, 1, none⟩ (.int .i64 H2.size)).setCell ⟨b16, 2, none⟩ (.int .i64 H2.to)).setCell ⟨b16, 3, none⟩ (.int .i64 H2.bottom)).setCell ⟨b16, 4, none⟩ (.int .i64 H2.top)).setCell ⟨b16, 5, none⟩ (.int .i64 H2.scan)).setCell ⟨b16, 6, none⟩ (.int .i64 H2.fb)).setCell ⟨b16, 7, none⟩ (.int .i64 H2.ft)).setCell ⟨b16, 8, none⟩ (.int .i64 H2.flips)).setCell ⟨b16, 9, none⟩ (.int .i64 H2.touched))) b20 (.slice aw nA cw) H) := (hT.2.2 b20 (by have := HN2.out; omega)).trans B20_126.out
    have HW_138 := hid (slice_apart HW_127.out (by have := HN2.out; omega) hT.2.2)
    have HT_139 := hid (slice_apart HT_128.out (by have := HN2.out; omega) hT.2.2)
    have GM_140 : Hid (M ≤ (((((((((((V15).setCell ⟨b16, 0, none⟩ (.slice ah nB ch)).setCell ⟨b16, 1, none⟩ (.int .i64 H2.size)).setCell ⟨b16, 2, none⟩ (.int .i64 H2.to)).setCell ⟨b16, 3, none⟩ (.int .i64 H2.bottom)).setCell ⟨b16, 4, none⟩ (.int .i64 H2.top)).setCell ⟨b16, 5, none⟩ (.int .i64 H2.scan)).setCell ⟨b16, 6, none⟩ (.int .i64 H2.fb)).setCell ⟨b16, 7, none⟩ (.int .i64 H2.ft)).setCell ⟨b16, 8, none⟩ (.int .i64 H2.flips)).setCell ⟨b16, 9, none⟩ (.int .i64 H2.touched)).heap.size) := by show _ ≤ _; rw [hTs]; exact GM_129.out
    have B27_141 : Hid (HeapBlk ((((((((((((V15).setCell ⟨b16, 0, none⟩ (.slice ah nB ch)).setCell ⟨b16, 1, none⟩ (.int .i64 H2.size)).setCell ⟨b16, 2, none⟩ (.int .i64 H2.to)).setCell ⟨b16, 3, none⟩ (.int .i64 H2.bottom)).setCell ⟨b16, 4, none⟩ (.int .i64 H2.top)).setCell ⟨b16, 5, none⟩ (.int .i64 H2.scan)).setCell ⟨b16, 6, none⟩ (.int .i64 H2.fb)).setCell ⟨b16, 7, none⟩ (.int .i64 H2.ft)).setCell ⟨b16, 8, none⟩ (.int .i64 H2.flips)).setCell ⟨b16, 9, none⟩ (.int .i64 H2.touched))) b27 (.slice (some ⟨bw2, 0, none⟩) L2 cp2) h2) := (hT.2.2 b27 (by have := HN2.out; have := H27.out; omega)).trans B27_130.out
    have O4_142 := hid (ob_apart O4_131.out (by have := HN2.out; omega) hT.2.2)
    have Y4_143 := hid (slice_apart Y4_132.out (by have := HN2.out; omega) hT.2.2)
    have GB_144 := hid (slice_apart GB_133.out (by have := HN2.out; omega) hT.2.2)
    have UB_145 := hid (slice_apart UB_134.out (by have := HN2.out; omega) hT.2.2)
    clear hT hTs HB_124 B16_125 B20_126 HW_127 HT_128 GM_129 B27_130 O4_131 Y4_132 GB_133 UB_134
    obtain ⟨c0, c1, c2, c3, c4, c5, c6, c7, c8, c9⟩ := B27_141.out.cells
    go_wp2_with fail
    clear c0 c1 c2 c3 c4 c5 c6 c7 c8 c9
    clear d0 d1 d2 d3 d4 d5 d6 d7 d8 d9 z0 z1 z2 z3 z4 z5 z6 z7 z8 z9
    generalize (((((((((((V15).setCell ⟨b16, 0, none⟩ (.slice ah nB ch)).setCell ⟨b16, 1, none⟩ (.int .i64 H2.size)).setCell ⟨b16, 2, none⟩ (.int .i64 H2.to)).setCell ⟨b16, 3, none⟩ (.int .i64 H2.bottom)).setCell ⟨b16, 4, none⟩ (.int .i64 H2.top)).setCell ⟨b16, 5, none⟩ (.int .i64 H2.scan)).setCell ⟨b16, 6, none⟩ (.int .i64 H2.fb)).setCell ⟨b16, 7, none⟩ (.int .i64 H2.ft)).setCell ⟨b16, 8, none⟩ (.int .i64 H2.flips)).setCell ⟨b16, 9, none⟩ (.int .i64 H2.touched)) = V16 at *
    have HGe : Hid (M ≤ V16.heap.size) := GM_140.out
    refine (HA2.out.fs _ bw2 cp2 _ g2 gc2 V16 HCp2.out HW_138.out HT_139.out).mono ?_
    rintro e V17 ⟨⟨vw2, uw2, rfl, hvg, hug, -⟩, hb⟩
    have HB_146 := hid (HB_135.out.trans (hb.mono HB_135.out.size))
    have B16_147 := hid (B16_136.out.below hb)
    have B20_148 := hid (B20_137.out.below hb)
    have HW_149 := hid (HW_138.out.below hb)
    have HT_150 := hid (HT_139.out.below hb)
    have GM_151 : Hid (M ≤ V17.heap.size) := Nat.le_trans GM_140.out hb.size
    have B27_152 := hid (B27_141.out.below hb)
    have O4_153 := hid (O4_142.out.below hb)
    have Y4_154 := hid (Y4_143.out.below hb)
    have GB_155 := hid (GB_144.out.below hb)
    have UB_156 := hid (UB_145.out.below hb)
    clear HB_135 B16_136 B20_137 HW_138 HT_139 GM_140 B27_141 O4_142 Y4_143 GB_144 UB_145
    clear hb
    obtain ⟨ak, ck, he, -⟩ := id hvg
    subst he
    obtain ⟨auk, cuk, he, -⟩ := id hug
    subst he
    rw [HnB.out] at hvg
    rw [Hnz.out] at hug
    rw [HnB.out, Hnz.out]
    have hvg2 := SliceR.mono hvg HGe.out
    have hug2 := SliceR.mono hug HGe.out
    have GK_157 := hid hvg2
    have UK_158 := hid hug2
    clear hvg hug hvg2 hug2 HGe
    unfold heapV
    dsimp only
    have hMM : (md2 != md2) = false := by cases md2 <;> rfl
    clear HW_149
    clear HT_150
    clear B27_152
    obtain ⟨d0, d1, d2, d3, d4, d5, d6, d7, d8, d9⟩ := B20_148.out.cells
    have z0 := frozen_of_heap B20_148.out 0
    have z1 := frozen_of_heap B20_148.out 1
    have z2 := frozen_of_heap B20_148.out 2
    have z3 := frozen_of_heap B20_148.out 3
    have z4 := frozen_of_heap B20_148.out 4
    have z5 := frozen_of_heap B20_148.out 5
    have z6 := frozen_of_heap B20_148.out 6
    have z7 := frozen_of_heap B20_148.out 7
    have z8 := frozen_of_heap B20_148.out 8
    have z9 := frozen_of_heap B20_148.out 9
    try dsimp only at d0 d1 d2 d3 d4 d5 d6 d7 d8 d9
    have hT := heap_useT B20_148.out (.slice ak nB ck) H2 (fun Z => HeapBlk Z b20 (.slice ak nB ck) H2 ∧ (∀ B, B ≤ b20 → Below B V17 Z) ∧ ∀ g, g ≠ b20 → Z.heap[g]? = V17.heap[g]?) (fun Z a b c => ⟨a, b, c⟩)
    have hTs : (((((((((((V17).setCell ⟨b20, 0, none⟩ (.slice ak nB ck)).setCell ⟨b20, 1, none⟩ (.int .i64 H2.size)).setCell ⟨b20, 2, none⟩ (.int .i64 H2.to)).setCell ⟨b20, 3, none⟩ (.int .i64 H2.bottom)).setCell ⟨b20, 4, none⟩ (.int .i64 H2.top)).setCell ⟨b20, 5, none⟩ (.int .i64 H2.scan)).setCell ⟨b20, 6, none⟩ (.int .i64 H2.fb)).setCell ⟨b20, 7, none⟩ (.int .i64 H2.ft)).setCell ⟨b20, 8, none⟩ (.int .i64 H2.flips)).setCell ⟨b20, 9, none⟩ (.int .i64 H2.touched)).heap.size = V17.heap.size := by simp [World.setCell]
    have HB_159 := hid (HB_146.out.trans (hT.2.1 _ (by have := HN2.out; omega)))
    have B16_160 : Hid (HeapBlk ((((((((((((V17).setCell ⟨b20, 0, none⟩ (.slice ak nB ck)).setCell ⟨b20, 1, none⟩ (.int .i64 H2.size)).setCell ⟨b20, 2, none⟩ (.int .i64 H2.to)).setCell ⟨b20, 3, none⟩ (.int .i64 H2.bottom)).setCell ⟨b20, 4, none⟩ (.int .i64 H2.top)).setCell ⟨b20, 5, none⟩ (.int .i64 H2.scan)).setCell ⟨b20, 6, none⟩ (.int .i64 H2.fb)).setCell ⟨b20, 7, none⟩ (.int .i64 H2.ft)).setCell ⟨b20, 8, none⟩ (.int .i64 H2.flips)).setCell ⟨b20, 9, none⟩ (.int .i64 H2.touched))) b16 (.slice ah nB ch) H2) := (hT.2.2 b16 (by have := HN2.out; omega)).trans B16_147.out
    have B20_161 := hid hT.1
    have GM_162 : Hid (M ≤ (((((((((((V17).setCell ⟨b20, 0, none⟩ (.slice ak nB ck)).setCell ⟨b20, 1, none⟩ (.int .i64 H2.size)).setCell ⟨b20, 2, none⟩ (.int .i64 H2.to)).setCell ⟨b20, 3, none⟩ (.int .i64 H2.bottom)).setCell ⟨b20, 4, none⟩ (.int .i64 H2.top)).setCell ⟨b20, 5, none⟩ (.int .i64 H2.scan)).setCell ⟨b20, 6, none⟩ (.int .i64 H2.fb)).setCell ⟨b20, 7, none⟩ (.int .i64 H2.ft)).setCell ⟨b20, 8, none⟩ (.int .i64 H2.flips)).setCell ⟨b20, 9, none⟩ (.int .i64 H2.touched)).heap.size) := by show _ ≤ _; rw [hTs]; exact GM_151.out
    have O4_163 := hid (ob_apart O4_153.out (by have := HN2.out; omega) hT.2.2)
    have Y4_164 := hid (slice_apart Y4_154.out (by have := HN2.out; omega) hT.2.2)
    have GB_165 := hid (slice_apart GB_155.out (by have := HN2.out; omega) hT.2.2)
    have UB_166 := hid (slice_apart UB_156.out (by have := HN2.out; omega) hT.2.2)
    have GK_167 := hid (slice_apart GK_157.out (by have := HN2.out; omega) hT.2.2)
    have UK_168 := hid (slice_apart UK_158.out (by have := HN2.out; omega) hT.2.2)
    clear hT hTs HB_146 B16_147 B20_148 GM_151 O4_153 Y4_154 GB_155 UB_156 GK_157 UK_158
    obtain ⟨c0, c1, c2, c3, c4, c5, c6, c7, c8, c9⟩ := B16_160.out.cells
    obtain ⟨e0, e1, e2, e3, e4, e5, e6, e7, e8, e9⟩ := B20_161.out.cells
    go_wp2_with fail
    clear c0 c1 c2 c3 c4 c5 c6 c7 c8 c9
    clear e0 e1 e2 e3 e4 e5 e6 e7 e8 e9
    clear d0 d1 d2 d3 d4 d5 d6 d7 d8 d9 z0 z1 z2 z3 z4 z5 z6 z7 z8 z9
    generalize (((((((((((V17).setCell ⟨b20, 0, none⟩ (.slice ak nB ck)).setCell ⟨b20, 1, none⟩ (.int .i64 H2.size)).setCell ⟨b20, 2, none⟩ (.int .i64 H2.to)).setCell ⟨b20, 3, none⟩ (.int .i64 H2.bottom)).setCell ⟨b20, 4, none⟩ (.int .i64 H2.top)).setCell ⟨b20, 5, none⟩ (.int .i64 H2.scan)).setCell ⟨b20, 6, none⟩ (.int .i64 H2.fb)).setCell ⟨b20, 7, none⟩ (.int .i64 H2.ft)).setCell ⟨b20, 8, none⟩ (.int .i64 H2.flips)).setCell ⟨b20, 9, none⟩ (.int .i64 H2.touched)) = V18 at *
    clear B20_161
    refine (hrHeap_any (v := .slice ah nB ch) (v' := .slice ak nB ck) (bs := A2) (h := H2) V18 (by have := HA2.out.al; omega) (by have := GB_165.out; rw [← HnB.out] at this ⊢; exact this.intSlice) (by have := GK_167.out; rw [← HnB.out] at this ⊢; exact this.intSlice)).mono ?_
    rintro e V19 ⟨rfl, hb⟩
    have HB_169 := hid (HB_159.out.trans (hb.mono HB_159.out.size))
    have B16_170 := hid (B16_160.out.below hb)
    have GM_171 : Hid (M ≤ V19.heap.size) := Nat.le_trans GM_162.out hb.size
    have O4_172 := hid (O4_163.out.below hb)
    have Y4_173 := hid (Y4_164.out.below hb)
    have GB_174 := hid (GB_165.out.below hb)
    have UB_175 := hid (UB_166.out.below hb)
    have GK_176 := hid (GK_167.out.below hb)
    have UK_177 := hid (UK_168.out.below hb)
    clear HB_159 B16_160 GM_162 O4_163 Y4_164 GB_165 UB_166 GK_167 UK_168
    clear hb
    go_wp2_with fail
    refine (hrInts_any (v := .slice auh nz cuh) (v' := .slice auk nz cuk) (bs := Y2) V19 (by have := HA2.out.Yl; omega) (by have := UB_175.out; rw [← Hnz.out] at this ⊢; exact this.intSlice) (by have := UK_177.out; rw [← Hnz.out] at this ⊢; exact this.intSlice)).mono ?_
    rintro e V20 ⟨rfl, hb⟩
    have HB_178 := hid (HB_169.out.trans (hb.mono HB_169.out.size))
    have B16_179 := hid (B16_170.out.below hb)
    have GM_180 : Hid (M ≤ V20.heap.size) := Nat.le_trans GM_171.out hb.size
    have O4_181 := hid (O4_172.out.below hb)
    have Y4_182 := hid (Y4_173.out.below hb)
    have GB_183 := hid (GB_174.out.below hb)
    have UB_184 := hid (UB_175.out.below hb)
    have GK_185 := hid (GK_176.out.below hb)
    have UK_186 := hid (UK_177.out.below hb)
    clear HB_169 B16_170 GM_171 O4_172 Y4_173 GB_174 UB_175 GK_176 UK_177
    clear hb
    clear GK_185
    clear UK_186
    clear hMM
    cases md2 with
    | false =>
      have h0 : nB = 0 := by rw [← HnB.out]; exact HA2.out.none rfl
      subst h0
      obtain ⟨c0, c1, c2, c3, c4, c5, c6, c7, c8, c9⟩ := B16_179.out.cells
      go_wp2_with fail
      go_ret
      exact ⟨rfl, HB_178.out⟩
    | true =>
      obtain ⟨hk, hA0, hY0, hgr, hoi, hC0, hC8, hgr3, hsc⟩ := HA2.out.made rfl
      subst hk
      rw [HnB.out] at hA0 hgr hoi hsc
      rw [Hnz.out] at hY0 hgr hgr3
      obtain ⟨nC, hnC⟩ : ∃ n, A3.length = n := ⟨_, rfl⟩
      rw [hnC] at hC0 hC8 hgr3
      have HnC := hid hnC
      obtain ⟨gh, hgh⟩ : ∃ gg, ah = some ⟨gg, 0, none⟩ := by
        obtain ⟨ad, cc, e5, h5⟩ := GB_183.out
        cases e5
        obtain ⟨gg, e6, -⟩ := h5.resolve_left hA0
        exact ⟨gg, e6⟩
      obtain ⟨guh, hguh⟩ : ∃ gg, auh = some ⟨gg, 0, none⟩ := by
        obtain ⟨ad, cc, e5, h5⟩ := UB_184.out
        cases e5
        obtain ⟨gg, e6, -⟩ := h5.resolve_left hY0
        exact ⟨gg, e6⟩
      subst hgh hguh
      have HGr := hid hgr
      have HOi := hid hoi
      have HGr3 := hid hgr3
      have HSc := hid hsc
      have HC0 := hid hC0
      clear hA0 hY0 hgr hoi hC0 hC8 hgr3 hsc hnC
      obtain ⟨c0, c1, c2, c3, c4, c5, c6, c7, c8, c9⟩ := B16_179.out.cells
      go_wp2_with fail
      clear c0 c1 c2 c3 c4 c5 c6 c7 c8 c9
      refine (HGr.out _ gh ch _ guh cuh V20 HCh.out GB_183.out UB_184.out).mono ?_
      rintro e V21 ⟨⟨v5, u5, fv5, rfl, hob, hys, -, -⟩, hb⟩
      have HB_187 := hid (HB_178.out.trans (hb.mono HB_178.out.size))
      have B16_188 := hid (B16_179.out.below hb)
      have GM_189 : Hid (M ≤ V21.heap.size) := Nat.le_trans GM_180.out hb.size
      have O4_190 := hid (O4_181.out.below hb)
      have Y4_191 := hid (Y4_182.out.below hb)
      have GB_192 := hid (GB_183.out.below hb)
      have UB_193 := hid (UB_184.out.below hb)
      clear HB_178 B16_179 GM_180 O4_181 Y4_182 GB_183 UB_184
      clear hb
      have O5_194 := hid hob
      have Y5_195 := hid hys
      clear hob hys
      go_wp2_with fail
      refine (hrObjs_any (fieldsOf os2) V21 (by have := HA2.out.ol; omega) (fun i hi => by have := HA2.out.fl i hi; omega) O4_190.out O5_194.out).mono ?_
      rintro e V22 ⟨rfl, hb⟩
      have HB_196 := hid (HB_187.out.trans (hb.mono HB_187.out.size))
      have B16_197 := hid (B16_188.out.below hb)
      have GM_198 : Hid (M ≤ V22.heap.size) := Nat.le_trans GM_189.out hb.size
      have O4_199 := hid (O4_190.out.below hb)
      have Y4_200 := hid (Y4_191.out.below hb)
      have GB_201 := hid (GB_192.out.below hb)
      have UB_202 := hid (UB_193.out.below hb)
      have O5_203 := hid (O5_194.out.below hb)
      have Y5_204 := hid (Y5_195.out.below hb)
      clear HB_187 B16_188 GM_189 O4_190 Y4_191 GB_192 UB_193 O5_194 Y5_195
      clear hb
      go_wp2_with fail
      refine (hrInts_any (v := u4) (v' := u5) (bs := ys2) V22 (by have := HA2.out.yl; omega) Y4_200.out.intSlice Y5_204.out.intSlice).mono ?_
      rintro e V23 ⟨rfl, hb⟩
      have HB_205 := hid (HB_196.out.trans (hb.mono HB_196.out.size))
      have B16_206 := hid (B16_197.out.below hb)
      have GM_207 : Hid (M ≤ V23.heap.size) := Nat.le_trans GM_198.out hb.size
      have O4_208 := hid (O4_199.out.below hb)
      have Y4_209 := hid (Y4_200.out.below hb)
      have GB_210 := hid (GB_201.out.below hb)
      have UB_211 := hid (UB_202.out.below hb)
      have O5_212 := hid (O5_203.out.below hb)
      have Y5_213 := hid (Y5_204.out.below hb)
      clear HB_196 B16_197 GM_198 O4_199 Y4_200 GB_201 UB_202 O5_203 Y5_204
      clear hb
      clear O5_212
      clear Y5_213
      obtain ⟨c0, c1, c2, c3, c4, c5, c6, c7, c8, c9⟩ := B16_206.out.cells
      go_wp2_with fail
      clear c0 c1 c2 c3 c4 c5 c6 c7 c8 c9
      refine (HOi.out _ gh ch V23 HCh.out GB_210.out).mono ?_
      rintro e V24 ⟨rfl, hb⟩
      have HB_214 := hid (HB_205.out.trans (hb.mono HB_205.out.size))
      have B16_215 := hid (B16_206.out.below hb)
      have GM_216 : Hid (M ≤ V24.heap.size) := Nat.le_trans GM_207.out hb.size
      have O4_217 := hid (O4_208.out.below hb)
      have Y4_218 := hid (Y4_209.out.below hb)
      have GB_219 := hid (GB_210.out.below hb)
      have UB_220 := hid (UB_211.out.below hb)
      clear HB_205 B16_206 GM_207 O4_208 Y4_209 GB_210 UB_211
      clear hb
      obtain ⟨c0, c1, c2, c3, c4, c5, c6, c7, c8, c9⟩ := B16_215.out.cells
      go_wp2_with fail
      clear c0 c1 c2 c3 c4 c5 c6 c7 c8 c9
      refine (HSc.out _ gh ch V24 HCh.out GB_219.out).mono ?_
      rintro e V25 ⟨⟨ai, ci, rfl, hvi, hci⟩, hb⟩
      have HB_221 := hid (HB_214.out.trans (hb.mono HB_214.out.size))
      have B16_222 := hid (B16_215.out.below hb)
      have GM_223 : Hid (M ≤ V25.heap.size) := Nat.le_trans GM_216.out hb.size
      have O4_224 := hid (O4_217.out.below hb)
      have Y4_225 := hid (Y4_218.out.below hb)
      have GB_226 := hid (GB_219.out.below hb)
      have UB_227 := hid (UB_220.out.below hb)
      clear HB_214 B16_215 GM_216 O4_217 Y4_218 GB_219 UB_220
      clear hb
      rw [HnC.out] at hvi hci ⊢
      obtain ⟨gi, hgi⟩ : ∃ gg, ai = some ⟨gg, 0, none⟩ := by
        obtain ⟨ad, cc, e5, h5⟩ := hvi
        cases e5
        obtain ⟨gg, e6, -⟩ := h5.resolve_left HC0.out
        exact ⟨gg, e6⟩
      subst hgi
      have GC_228 := hid hvi
      have HCi := hid hci
      clear hvi hci
      unfold heapV
      dsimp only
      clear B16_222
      clear GB_226
      have hbA := (Below.refl V25.heap.size V25).alloc (Nat.le_refl _) (.cells #[.slice (some ⟨gi, 0, none⟩) nC ci, .int .i64 H3.size, .int .i64 H3.to, .int .i64 H3.bottom, .int .i64 H3.top, .int .i64 H3.scan, .int .i64 H3.fb, .int .i64 H3.ft, .int .i64 H3.flips, .int .i64 H3.touched] 25)
      have HB_229 := hid (HB_221.out.trans (hbA.mono HB_221.out.size))
      have GM_230 : Hid (M ≤ (V25.alloc (.cells #[.slice (some ⟨gi, 0, none⟩) nC ci, .int .i64 H3.size, .int .i64 H3.to, .int .i64 H3.bottom, .int .i64 H3.top, .int .i64 H3.scan, .int .i64 H3.fb, .int .i64 H3.ft, .int .i64 H3.flips, .int .i64 H3.touched] 25)).heap.size) := Nat.le_trans GM_223.out hbA.size
      have O4_231 := hid (O4_224.out.below hbA)
      have Y4_232 := hid (Y4_225.out.below hbA)
      have UB_233 := hid (UB_227.out.below hbA)
      have GC_234 := hid (GC_228.out.below hbA)
      clear HB_221 GM_223 O4_224 Y4_225 UB_227 GC_228
      have B32_235 : Hid (HeapBlk _ V25.heap.size (.slice (some ⟨gi, 0, none⟩) nC ci) H3) := HeapBlk.new V25 (.slice (some ⟨gi, 0, none⟩) nC ci) H3
      go_wp2_with fail
      obtain ⟨b32, hb32⟩ : ∃ b, V25.heap.size = b := ⟨_, rfl⟩
      obtain ⟨V26, hV26⟩ : ∃ X, V25.alloc (.cells #[.slice (some ⟨gi, 0, none⟩) nC ci, .int .i64 H3.size, .int .i64 H3.to, .int .i64 H3.bottom, .int .i64 H3.top, .int .i64 H3.scan, .int .i64 H3.fb, .int .i64 H3.ft, .int .i64 H3.flips, .int .i64 H3.touched] 25) = X := ⟨_, rfl⟩
      rw [hV26] at HB_229 GM_230 O4_231 Y4_232 UB_233 GC_234 B32_235 ⊢
      rw [hb32] at B32_235 ⊢
      clear hb32 hV26 hbA
      refine (HGr3.out _ gi ci _ guh cuh V26 HCi.out GC_234.out UB_233.out).mono ?_
      rintro e V27 ⟨⟨v6, u6, fv6, rfl, hob, hys, -, -⟩, hb⟩
      have HB_236 := hid (HB_229.out.trans (hb.mono HB_229.out.size))
      have GM_237 : Hid (M ≤ V27.heap.size) := Nat.le_trans GM_230.out hb.size
      have O4_238 := hid (O4_231.out.below hb)
      have Y4_239 := hid (Y4_232.out.below hb)
      have UB_240 := hid (UB_233.out.below hb)
      have GC_241 := hid (GC_234.out.below hb)
      have B32_242 := hid (B32_235.out.below hb)
      clear HB_229 GM_230 O4_231 Y4_232 UB_233 GC_234 B32_235
      clear hb
      have O6_243 := hid hob
      have Y6_244 := hid hys
      clear hob hys
      go_wp2_with fail
      refine (hrObjs_any (fieldsOf os2) V27 (by have := HA2.out.ol; omega) (fun i hi => by have := HA2.out.fl i hi; omega) O4_238.out O6_243.out).mono ?_
      rintro e V28 ⟨rfl, hb⟩
      have HB_245 := hid (HB_236.out.trans (hb.mono HB_236.out.size))
      have GM_246 : Hid (M ≤ V28.heap.size) := Nat.le_trans GM_237.out hb.size
      have O4_247 := hid (O4_238.out.below hb)
      have Y4_248 := hid (Y4_239.out.below hb)
      have UB_249 := hid (UB_240.out.below hb)
      have GC_250 := hid (GC_241.out.below hb)
      have B32_251 := hid (B32_242.out.below hb)
      have O6_252 := hid (O6_243.out.below hb)
      have Y6_253 := hid (Y6_244.out.below hb)
      clear HB_236 GM_237 O4_238 Y4_239 UB_240 GC_241 B32_242 O6_243 Y6_244
      clear hb
      go_wp2_with fail
      refine (hrInts_any (v := u4) (v' := u6) (bs := ys2) V28 (by have := HA2.out.yl; omega) Y4_248.out.intSlice Y6_253.out.intSlice).mono ?_
      rintro e V29 ⟨rfl, hb⟩
      have HB_254 := hid (HB_245.out.trans (hb.mono HB_245.out.size))
      have GM_255 : Hid (M ≤ V29.heap.size) := Nat.le_trans GM_246.out hb.size
      have O4_256 := hid (O4_247.out.below hb)
      have Y4_257 := hid (Y4_248.out.below hb)
      have UB_258 := hid (UB_249.out.below hb)
      have GC_259 := hid (GC_250.out.below hb)
      have B32_260 := hid (B32_251.out.below hb)
      have O6_261 := hid (O6_252.out.below hb)
      have Y6_262 := hid (Y6_253.out.below hb)
      clear HB_245 GM_246 O4_247 Y4_248 UB_249 GC_250 B32_251 O6_252 Y6_253
      clear hb
      go_wp2_with fail
      go_ret
      exact ⟨rfl, HB_254.out⟩
  | true =>
    obtain ⟨hA0, hY0, hgr, hoi⟩ := HA.out.made rfl
    rw [HnA.out] at hA0 hgr hoi
    rw [Hny.out] at hY0 hgr
    obtain ⟨gg, hgg⟩ : ∃ gg, ag = some ⟨gg, 0, none⟩ := by
      obtain ⟨ad, cc, e5, h5⟩ := GA_96.out
      cases e5
      obtain ⟨gg, e6, -⟩ := h5.resolve_left hA0
      exact ⟨gg, e6⟩
    obtain ⟨gu, hgu⟩ : ∃ gg, aug = some ⟨gg, 0, none⟩ := by
      obtain ⟨ad, cc, e5, h5⟩ := UA_97.out
      cases e5
      obtain ⟨gg, e6, -⟩ := h5.resolve_left hY0
      exact ⟨gg, e6⟩
    subst hgg hgu
    have HGr := hid hgr
    have HOi := hid hoi
    clear hA0 hY0 hgr hoi
    obtain ⟨c0, c1, c2, c3, c4, c5, c6, c7, c8, c9⟩ := B16_98.out.cells
    go_wp2_with fail
    clear c0 c1 c2 c3 c4 c5 c6 c7 c8 c9
    refine (HGr.out _ gg cg _ gu cug V11 HCg.out GA_96.out UA_97.out).mono ?_
    rintro e V30 ⟨⟨v3, u3, fv3, rfl, hob, hys, -, -⟩, hb⟩
    have HB_263 := hid (HB_93.out.trans (hb.mono HB_93.out.size))
    have O1_264 := hid (O1_94.out.below hb)
    have Y1_265 := hid (Y1_95.out.below hb)
    have GA_266 := hid (GA_96.out.below hb)
    have UA_267 := hid (UA_97.out.below hb)
    have B16_268 := hid (B16_98.out.below hb)
    have B20_269 := hid (B20_101.out.below hb)
    clear HB_93 O1_94 Y1_95 GA_96 UA_97 B16_98 B20_101
    clear hb
    have O3_270 := hid hob
    have Y3_271 := hid hys
    clear hob hys
    go_wp2_with fail
    refine (hrObjs_any (fieldsOf os) V30 (by have := HA.out.ol; omega) (fun i hi => by have := HA.out.fl i hi; omega) O1_264.out O3_270.out).mono ?_
    rintro e V31 ⟨rfl, hb⟩
    have HB_272 := hid (HB_263.out.trans (hb.mono HB_263.out.size))
    have O1_273 := hid (O1_264.out.below hb)
    have Y1_274 := hid (Y1_265.out.below hb)
    have GA_275 := hid (GA_266.out.below hb)
    have UA_276 := hid (UA_267.out.below hb)
    have B16_277 := hid (B16_268.out.below hb)
    have B20_278 := hid (B20_269.out.below hb)
    have O3_279 := hid (O3_270.out.below hb)
    have Y3_280 := hid (Y3_271.out.below hb)
    clear HB_263 O1_264 Y1_265 GA_266 UA_267 B16_268 B20_269 O3_270 Y3_271
    clear hb
    go_wp2_with fail
    refine (hrInts_any (v := u1) (v' := u3) (bs := ys) V31 (by have := HA.out.yl; omega) Y1_274.out.intSlice Y3_280.out.intSlice).mono ?_
    rintro e V32 ⟨rfl, hb⟩
    have HB_281 := hid (HB_272.out.trans (hb.mono HB_272.out.size))
    have O1_282 := hid (O1_273.out.below hb)
    have Y1_283 := hid (Y1_274.out.below hb)
    have GA_284 := hid (GA_275.out.below hb)
    have UA_285 := hid (UA_276.out.below hb)
    have B16_286 := hid (B16_277.out.below hb)
    have B20_287 := hid (B20_278.out.below hb)
    have O3_288 := hid (O3_279.out.below hb)
    have Y3_289 := hid (Y3_280.out.below hb)
    clear HB_272 O1_273 Y1_274 GA_275 UA_276 B16_277 B20_278 O3_279 Y3_280
    clear hb
    clear O3_288
    clear Y3_289
    obtain ⟨c0, c1, c2, c3, c4, c5, c6, c7, c8, c9⟩ := B16_286.out.cells
    go_wp2_with fail
    clear c0 c1 c2 c3 c4 c5 c6 c7 c8 c9
    refine (HOi.out _ gg cg V32 HCg.out GA_284.out).mono ?_
    rintro e V33 ⟨rfl, hb⟩
    have HB_290 := hid (HB_281.out.trans (hb.mono HB_281.out.size))
    have O1_291 := hid (O1_282.out.below hb)
    have Y1_292 := hid (Y1_283.out.below hb)
    have GA_293 := hid (GA_284.out.below hb)
    have UA_294 := hid (UA_285.out.below hb)
    have B16_295 := hid (B16_286.out.below hb)
    have B20_296 := hid (B20_287.out.below hb)
    clear HB_281 O1_282 Y1_283 GA_284 UA_285 B16_286 B20_287
    clear hb
    clear O1_291
    clear Y1_292
    clear GA_293
    clear UA_294
    clear HGr HOi
    go_wp2_with fail
    have HX0 : Hid (b20 < V33.heap.size) := heap_lt B20_296.out
    refine (HE.out V33 HB_290.out).mono ?_
    rintro e V34 ⟨bw2, cp2, g2, gc2, ws2, h2, rs2, rfl, hr, hgc⟩
    obtain ⟨M, hM⟩ : ∃ M, V33.heap.size = M := ⟨_, rfl⟩
    have hb0 := hr.below
    have HMe := hid hM
    have HB_297 := hid (HB_290.out.trans (hb0.mono HB_290.out.size))
    have B16_298 := hid (B16_295.out.below hb0)
    have B20_299 := hid (B20_296.out.below hb0)
    clear HB_290 B16_295 B20_296
    obtain ⟨L2, hL⟩ : ∃ L, ws2.length = L := ⟨_, rfl⟩
    obtain ⟨os2, ys2, ok2, A2, H2, Y2, md2, A3, H3, ha⟩ := half_b ws2 rs2 h2 L2 hL hr.l8 hr.l0 hr.rl hr.fl hr.tc
    have HA2 := hid ha
    have HCp2 : Hid (L2 ≤ cp2) := by show _ ≤ _; rw [← hL]; exact hr.cw
    obtain ⟨nB, hnB⟩ : ∃ n, A2.length = n := ⟨_, rfl⟩
    obtain ⟨nz, hnz⟩ : ∃ n, Y2.length = n := ⟨_, rfl⟩
    have HnB := hid hnB
    have Hnz := hid hnz
    have hrow := hr.row
    have hrt := hr.rt
    rw [hL, hM] at hrow
    rw [hM] at hrt
    have HW_300 := hid hrow
    have HT_301 := hid hrt
    have GM_302 : Hid (M ≤ V34.heap.size) := by have e := hb0.size; rw [hM] at e; exact e
    have HN2 : Hid (W.heap.size ≤ b16 ∧ b16 < b20 ∧ b20 < M) := by have h1 := HNb.out; have h2 := HX0.out; have h3 := HMe.out; show _ ∧ _; omega
    unfold heapV
    rw [hL]
    clear ha hrow hrt hr hgc hL hM hb0 hnB hnz HX0 HMe HNb
    go_wp2_with fail
    have HSb27 : Hid (M ≤ V34.heap.size) := GM_302.out
    have hbA := (Below.refl V34.heap.size V34).alloc (Nat.le_refl _) (.cells #[.slice (some ⟨bw2, 0, none⟩) L2 cp2, .int .i64 h2.size, .int .i64 h2.to, .int .i64 h2.bottom, .int .i64 h2.top, .int .i64 h2.scan, .int .i64 h2.fb, .int .i64 h2.ft, .int .i64 h2.flips, .int .i64 h2.touched] 25)
    have HB_303 := hid (HB_297.out.trans (hbA.mono HB_297.out.size))
    have B16_304 := hid (B16_298.out.below hbA)
    have B20_305 := hid (B20_299.out.below hbA)
    have HW_306 := hid (HW_300.out.below hbA)
    have HT_307 := hid (HT_301.out.below hbA)
    have GM_308 : Hid (M ≤ (V34.alloc (.cells #[.slice (some ⟨bw2, 0, none⟩) L2 cp2, .int .i64 h2.size, .int .i64 h2.to, .int .i64 h2.bottom, .int .i64 h2.top, .int .i64 h2.scan, .int .i64 h2.fb, .int .i64 h2.ft, .int .i64 h2.flips, .int .i64 h2.touched] 25)).heap.size) := Nat.le_trans GM_302.out hbA.size
    clear HB_297 B16_298 B20_299 HW_300 HT_301 GM_302
    have B27_309 : Hid (HeapBlk _ V34.heap.size (.slice (some ⟨bw2, 0, none⟩) L2 cp2) h2) := HeapBlk.new V34 (.slice (some ⟨bw2, 0, none⟩) L2 cp2) h2
    obtain ⟨b27, hb27⟩ : ∃ b, V34.heap.size = b := ⟨_, rfl⟩
    obtain ⟨V35, hV35⟩ : ∃ X, V34.alloc (.cells #[.slice (some ⟨bw2, 0, none⟩) L2 cp2, .int .i64 h2.size, .int .i64 h2.to, .int .i64 h2.bottom, .int .i64 h2.top, .int .i64 h2.scan, .int .i64 h2.fb, .int .i64 h2.ft, .int .i64 h2.flips, .int .i64 h2.touched] 25) = X := ⟨_, rfl⟩
    rw [hV35] at HB_303 B16_304 B20_305 HW_306 HT_307 GM_308 B27_309 ⊢
    rw [hb27] at B27_309 ⊢
    rw [hb27] at HSb27
    clear hb27 hV35 hbA
    have HGe : Hid (M ≤ V35.heap.size) := GM_308.out
    refine (HA2.out.gi _ bw2 cp2 _ g2 gc2 V35 HCp2.out HW_306.out HT_307.out).mono ?_
    rintro e V36 ⟨⟨v4, u4, fv4, rfl, hob, hys, -, -⟩, hb⟩
    have HB_310 := hid (HB_303.out.trans (hb.mono HB_303.out.size))
    have B16_311 := hid (B16_304.out.below hb)
    have B20_312 := hid (B20_305.out.below hb)
    have HW_313 := hid (HW_306.out.below hb)
    have HT_314 := hid (HT_307.out.below hb)
    have GM_315 : Hid (M ≤ V36.heap.size) := Nat.le_trans GM_308.out hb.size
    have B27_316 := hid (B27_309.out.below hb)
    clear HB_303 B16_304 B20_305 HW_306 HT_307 GM_308 B27_309
    clear hb
    have O4_317 := hid (ob_base hob HGe.out)
    have Y4_318 := hid (SliceR.mono hys HGe.out)
    clear hob hys HGe
    obtain ⟨c0, c1, c2, c3, c4, c5, c6, c7, c8, c9⟩ := B27_316.out.cells
    go_wp2_with fail
    clear c0 c1 c2 c3 c4 c5 c6 c7 c8 c9
    have H27 : Hid (M ≤ b27) := HSb27
    have HGe : Hid (M ≤ V36.heap.size) := GM_315.out
    refine (HA2.out.fi _ bw2 cp2 _ g2 gc2 V36 HCp2.out HW_313.out HT_314.out).mono ?_
    rintro e V37 ⟨⟨ah, ch, uh, rfl, hvg, hug, hcg⟩, hb⟩
    have HB_319 := hid (HB_310.out.trans (hb.mono HB_310.out.size))
    have B16_320 := hid (B16_311.out.below hb)
    have B20_321 := hid (B20_312.out.below hb)
    have HW_322 := hid (HW_313.out.below hb)
    have HT_323 := hid (HT_314.out.below hb)
    have GM_324 : Hid (M ≤ V37.heap.size) := Nat.le_trans GM_315.out hb.size
    have B27_325 := hid (B27_316.out.below hb)
    have O4_326 := hid (O4_317.out.below hb)
    have Y4_327 := hid (Y4_318.out.below hb)
    clear HB_310 B16_311 B20_312 HW_313 HT_314 GM_315 B27_316 O4_317 Y4_318
    clear hb
    obtain ⟨auh, cuh, he, -⟩ := id hug
    subst he
    rw [HnB.out] at hvg hcg
    rw [Hnz.out] at hug
    rw [HnB.out, Hnz.out]
    have hvg2 := SliceR.mono hvg HGe.out
    have hug2 := SliceR.mono hug HGe.out
    have GB_328 := hid hvg2
    have UB_329 := hid hug2
    have HCh := hid hcg
    clear hvg hug hvg2 hug2 hcg HGe
    unfold heapV
    dsimp only
    obtain ⟨d0, d1, d2, d3, d4, d5, d6, d7, d8, d9⟩ := B16_320.out.cells
    have z0 := frozen_of_heap B16_320.out 0
    have z1 := frozen_of_heap B16_320.out 1
    have z2 := frozen_of_heap B16_320.out 2
    have z3 := frozen_of_heap B16_320.out 3
    have z4 := frozen_of_heap B16_320.out 4
    have z5 := frozen_of_heap B16_320.out 5
    have z6 := frozen_of_heap B16_320.out 6
    have z7 := frozen_of_heap B16_320.out 7
    have z8 := frozen_of_heap B16_320.out 8
    have z9 := frozen_of_heap B16_320.out 9
    try dsimp only at d0 d1 d2 d3 d4 d5 d6 d7 d8 d9
    have hT := heap_useT B16_320.out (.slice ah nB ch) H2 (fun Z => HeapBlk Z b16 (.slice ah nB ch) H2 ∧ (∀ B, B ≤ b16 → Below B V37 Z) ∧ ∀ g, g ≠ b16 → Z.heap[g]? = V37.heap[g]?) (fun Z a b c => ⟨a, b, c⟩)
    have hTs : (((((((((((V37).setCell ⟨b16, 0, none⟩ (.slice ah nB ch)).setCell ⟨b16, 1, none⟩ (.int .i64 H2.size)).setCell ⟨b16, 2, none⟩ (.int .i64 H2.to)).setCell ⟨b16, 3, none⟩ (.int .i64 H2.bottom)).setCell ⟨b16, 4, none⟩ (.int .i64 H2.top)).setCell ⟨b16, 5, none⟩ (.int .i64 H2.scan)).setCell ⟨b16, 6, none⟩ (.int .i64 H2.fb)).setCell ⟨b16, 7, none⟩ (.int .i64 H2.ft)).setCell ⟨b16, 8, none⟩ (.int .i64 H2.flips)).setCell ⟨b16, 9, none⟩ (.int .i64 H2.touched)).heap.size = V37.heap.size := by simp [World.setCell]
    have HB_330 := hid (HB_319.out.trans (hT.2.1 _ (by have := HN2.out; omega)))
    have B16_331 := hid hT.1
    have B20_332 : Hid (HeapBlk ((((((((((((V37).setCell ⟨b16, 0, none⟩ (.slice ah nB ch)).setCell ⟨b16, 1, none⟩ (.int .i64 H2.size)).setCell ⟨b16, 2, none⟩ (.int .i64 H2.to)).setCell ⟨b16, 3, none⟩ (.int .i64 H2.bottom)).setCell ⟨b16, 4, none⟩ (.int .i64 H2.top)).setCell ⟨b16, 5, none⟩ (.int .i64 H2.scan)).setCell ⟨b16, 6, none⟩ (.int .i64 H2.fb)).setCell ⟨b16, 7, none⟩ (.int .i64 H2.ft)).setCell ⟨b16, 8, none⟩ (.int .i64 H2.flips)).setCell ⟨b16, 9, none⟩ (.int .i64 H2.touched))) b20 (.slice aw nA cw) H) := (hT.2.2 b20 (by have := HN2.out; omega)).trans B20_321.out
    have HW_333 := hid (slice_apart HW_322.out (by have := HN2.out; omega) hT.2.2)
    have HT_334 := hid (slice_apart HT_323.out (by have := HN2.out; omega) hT.2.2)
    have GM_335 : Hid (M ≤ (((((((((((V37).setCell ⟨b16, 0, none⟩ (.slice ah nB ch)).setCell ⟨b16, 1, none⟩ (.int .i64 H2.size)).setCell ⟨b16, 2, none⟩ (.int .i64 H2.to)).setCell ⟨b16, 3, none⟩ (.int .i64 H2.bottom)).setCell ⟨b16, 4, none⟩ (.int .i64 H2.top)).setCell ⟨b16, 5, none⟩ (.int .i64 H2.scan)).setCell ⟨b16, 6, none⟩ (.int .i64 H2.fb)).setCell ⟨b16, 7, none⟩ (.int .i64 H2.ft)).setCell ⟨b16, 8, none⟩ (.int .i64 H2.flips)).setCell ⟨b16, 9, none⟩ (.int .i64 H2.touched)).heap.size) := by show _ ≤ _; rw [hTs]; exact GM_324.out
    have B27_336 : Hid (HeapBlk ((((((((((((V37).setCell ⟨b16, 0, none⟩ (.slice ah nB ch)).setCell ⟨b16, 1, none⟩ (.int .i64 H2.size)).setCell ⟨b16, 2, none⟩ (.int .i64 H2.to)).setCell ⟨b16, 3, none⟩ (.int .i64 H2.bottom)).setCell ⟨b16, 4, none⟩ (.int .i64 H2.top)).setCell ⟨b16, 5, none⟩ (.int .i64 H2.scan)).setCell ⟨b16, 6, none⟩ (.int .i64 H2.fb)).setCell ⟨b16, 7, none⟩ (.int .i64 H2.ft)).setCell ⟨b16, 8, none⟩ (.int .i64 H2.flips)).setCell ⟨b16, 9, none⟩ (.int .i64 H2.touched))) b27 (.slice (some ⟨bw2, 0, none⟩) L2 cp2) h2) := (hT.2.2 b27 (by have := HN2.out; have := H27.out; omega)).trans B27_325.out
    have O4_337 := hid (ob_apart O4_326.out (by have := HN2.out; omega) hT.2.2)
    have Y4_338 := hid (slice_apart Y4_327.out (by have := HN2.out; omega) hT.2.2)
    have GB_339 := hid (slice_apart GB_328.out (by have := HN2.out; omega) hT.2.2)
    have UB_340 := hid (slice_apart UB_329.out (by have := HN2.out; omega) hT.2.2)
    clear hT hTs HB_319 B16_320 B20_321 HW_322 HT_323 GM_324 B27_325 O4_326 Y4_327 GB_328 UB_329
    obtain ⟨c0, c1, c2, c3, c4, c5, c6, c7, c8, c9⟩ := B27_336.out.cells
    go_wp2_with fail
    clear c0 c1 c2 c3 c4 c5 c6 c7 c8 c9
    clear d0 d1 d2 d3 d4 d5 d6 d7 d8 d9 z0 z1 z2 z3 z4 z5 z6 z7 z8 z9
    generalize (((((((((((V37).setCell ⟨b16, 0, none⟩ (.slice ah nB ch)).setCell ⟨b16, 1, none⟩ (.int .i64 H2.size)).setCell ⟨b16, 2, none⟩ (.int .i64 H2.to)).setCell ⟨b16, 3, none⟩ (.int .i64 H2.bottom)).setCell ⟨b16, 4, none⟩ (.int .i64 H2.top)).setCell ⟨b16, 5, none⟩ (.int .i64 H2.scan)).setCell ⟨b16, 6, none⟩ (.int .i64 H2.fb)).setCell ⟨b16, 7, none⟩ (.int .i64 H2.ft)).setCell ⟨b16, 8, none⟩ (.int .i64 H2.flips)).setCell ⟨b16, 9, none⟩ (.int .i64 H2.touched)) = V38 at *
    have HGe : Hid (M ≤ V38.heap.size) := GM_335.out
    refine (HA2.out.fs _ bw2 cp2 _ g2 gc2 V38 HCp2.out HW_333.out HT_334.out).mono ?_
    rintro e V39 ⟨⟨vw2, uw2, rfl, hvg, hug, -⟩, hb⟩
    have HB_341 := hid (HB_330.out.trans (hb.mono HB_330.out.size))
    have B16_342 := hid (B16_331.out.below hb)
    have B20_343 := hid (B20_332.out.below hb)
    have HW_344 := hid (HW_333.out.below hb)
    have HT_345 := hid (HT_334.out.below hb)
    have GM_346 : Hid (M ≤ V39.heap.size) := Nat.le_trans GM_335.out hb.size
    have B27_347 := hid (B27_336.out.below hb)
    have O4_348 := hid (O4_337.out.below hb)
    have Y4_349 := hid (Y4_338.out.below hb)
    have GB_350 := hid (GB_339.out.below hb)
    have UB_351 := hid (UB_340.out.below hb)
    clear HB_330 B16_331 B20_332 HW_333 HT_334 GM_335 B27_336 O4_337 Y4_338 GB_339 UB_340
    clear hb
    obtain ⟨ak, ck, he, -⟩ := id hvg
    subst he
    obtain ⟨auk, cuk, he, -⟩ := id hug
    subst he
    rw [HnB.out] at hvg
    rw [Hnz.out] at hug
    rw [HnB.out, Hnz.out]
    have hvg2 := SliceR.mono hvg HGe.out
    have hug2 := SliceR.mono hug HGe.out
    have GK_352 := hid hvg2
    have UK_353 := hid hug2
    clear hvg hug hvg2 hug2 HGe
    unfold heapV
    dsimp only
    have hMM : (md2 != md2) = false := by cases md2 <;> rfl
    clear HW_344
    clear HT_345
    clear B27_347
    obtain ⟨d0, d1, d2, d3, d4, d5, d6, d7, d8, d9⟩ := B20_343.out.cells
    have z0 := frozen_of_heap B20_343.out 0
    have z1 := frozen_of_heap B20_343.out 1
    have z2 := frozen_of_heap B20_343.out 2
    have z3 := frozen_of_heap B20_343.out 3
    have z4 := frozen_of_heap B20_343.out 4
    have z5 := frozen_of_heap B20_343.out 5
    have z6 := frozen_of_heap B20_343.out 6
    have z7 := frozen_of_heap B20_343.out 7
    have z8 := frozen_of_heap B20_343.out 8
    have z9 := frozen_of_heap B20_343.out 9
    try dsimp only at d0 d1 d2 d3 d4 d5 d6 d7 d8 d9
    have hT := heap_useT B20_343.out (.slice ak nB ck) H2 (fun Z => HeapBlk Z b20 (.slice ak nB ck) H2 ∧ (∀ B, B ≤ b20 → Below B V39 Z) ∧ ∀ g, g ≠ b20 → Z.heap[g]? = V39.heap[g]?) (fun Z a b c => ⟨a, b, c⟩)
    have hTs : (((((((((((V39).setCell ⟨b20, 0, none⟩ (.slice ak nB ck)).setCell ⟨b20, 1, none⟩ (.int .i64 H2.size)).setCell ⟨b20, 2, none⟩ (.int .i64 H2.to)).setCell ⟨b20, 3, none⟩ (.int .i64 H2.bottom)).setCell ⟨b20, 4, none⟩ (.int .i64 H2.top)).setCell ⟨b20, 5, none⟩ (.int .i64 H2.scan)).setCell ⟨b20, 6, none⟩ (.int .i64 H2.fb)).setCell ⟨b20, 7, none⟩ (.int .i64 H2.ft)).setCell ⟨b20, 8, none⟩ (.int .i64 H2.flips)).setCell ⟨b20, 9, none⟩ (.int .i64 H2.touched)).heap.size = V39.heap.size := by simp [World.setCell]
    have HB_354 := hid (HB_341.out.trans (hT.2.1 _ (by have := HN2.out; omega)))
    have B16_355 : Hid (HeapBlk ((((((((((((V39).setCell ⟨b20, 0, none⟩ (.slice ak nB ck)).setCell ⟨b20, 1, none⟩ (.int .i64 H2.size)).setCell ⟨b20, 2, none⟩ (.int .i64 H2.to)).setCell ⟨b20, 3, none⟩ (.int .i64 H2.bottom)).setCell ⟨b20, 4, none⟩ (.int .i64 H2.top)).setCell ⟨b20, 5, none⟩ (.int .i64 H2.scan)).setCell ⟨b20, 6, none⟩ (.int .i64 H2.fb)).setCell ⟨b20, 7, none⟩ (.int .i64 H2.ft)).setCell ⟨b20, 8, none⟩ (.int .i64 H2.flips)).setCell ⟨b20, 9, none⟩ (.int .i64 H2.touched))) b16 (.slice ah nB ch) H2) := (hT.2.2 b16 (by have := HN2.out; omega)).trans B16_342.out
    have B20_356 := hid hT.1
    have GM_357 : Hid (M ≤ (((((((((((V39).setCell ⟨b20, 0, none⟩ (.slice ak nB ck)).setCell ⟨b20, 1, none⟩ (.int .i64 H2.size)).setCell ⟨b20, 2, none⟩ (.int .i64 H2.to)).setCell ⟨b20, 3, none⟩ (.int .i64 H2.bottom)).setCell ⟨b20, 4, none⟩ (.int .i64 H2.top)).setCell ⟨b20, 5, none⟩ (.int .i64 H2.scan)).setCell ⟨b20, 6, none⟩ (.int .i64 H2.fb)).setCell ⟨b20, 7, none⟩ (.int .i64 H2.ft)).setCell ⟨b20, 8, none⟩ (.int .i64 H2.flips)).setCell ⟨b20, 9, none⟩ (.int .i64 H2.touched)).heap.size) := by show _ ≤ _; rw [hTs]; exact GM_346.out
    have O4_358 := hid (ob_apart O4_348.out (by have := HN2.out; omega) hT.2.2)
    have Y4_359 := hid (slice_apart Y4_349.out (by have := HN2.out; omega) hT.2.2)
    have GB_360 := hid (slice_apart GB_350.out (by have := HN2.out; omega) hT.2.2)
    have UB_361 := hid (slice_apart UB_351.out (by have := HN2.out; omega) hT.2.2)
    have GK_362 := hid (slice_apart GK_352.out (by have := HN2.out; omega) hT.2.2)
    have UK_363 := hid (slice_apart UK_353.out (by have := HN2.out; omega) hT.2.2)
    clear hT hTs HB_341 B16_342 B20_343 GM_346 O4_348 Y4_349 GB_350 UB_351 GK_352 UK_353
    obtain ⟨c0, c1, c2, c3, c4, c5, c6, c7, c8, c9⟩ := B16_355.out.cells
    obtain ⟨e0, e1, e2, e3, e4, e5, e6, e7, e8, e9⟩ := B20_356.out.cells
    go_wp2_with fail
    clear c0 c1 c2 c3 c4 c5 c6 c7 c8 c9
    clear e0 e1 e2 e3 e4 e5 e6 e7 e8 e9
    clear d0 d1 d2 d3 d4 d5 d6 d7 d8 d9 z0 z1 z2 z3 z4 z5 z6 z7 z8 z9
    generalize (((((((((((V39).setCell ⟨b20, 0, none⟩ (.slice ak nB ck)).setCell ⟨b20, 1, none⟩ (.int .i64 H2.size)).setCell ⟨b20, 2, none⟩ (.int .i64 H2.to)).setCell ⟨b20, 3, none⟩ (.int .i64 H2.bottom)).setCell ⟨b20, 4, none⟩ (.int .i64 H2.top)).setCell ⟨b20, 5, none⟩ (.int .i64 H2.scan)).setCell ⟨b20, 6, none⟩ (.int .i64 H2.fb)).setCell ⟨b20, 7, none⟩ (.int .i64 H2.ft)).setCell ⟨b20, 8, none⟩ (.int .i64 H2.flips)).setCell ⟨b20, 9, none⟩ (.int .i64 H2.touched)) = V40 at *
    clear B20_356
    refine (hrHeap_any (v := .slice ah nB ch) (v' := .slice ak nB ck) (bs := A2) (h := H2) V40 (by have := HA2.out.al; omega) (by have := GB_360.out; rw [← HnB.out] at this ⊢; exact this.intSlice) (by have := GK_362.out; rw [← HnB.out] at this ⊢; exact this.intSlice)).mono ?_
    rintro e V41 ⟨rfl, hb⟩
    have HB_364 := hid (HB_354.out.trans (hb.mono HB_354.out.size))
    have B16_365 := hid (B16_355.out.below hb)
    have GM_366 : Hid (M ≤ V41.heap.size) := Nat.le_trans GM_357.out hb.size
    have O4_367 := hid (O4_358.out.below hb)
    have Y4_368 := hid (Y4_359.out.below hb)
    have GB_369 := hid (GB_360.out.below hb)
    have UB_370 := hid (UB_361.out.below hb)
    have GK_371 := hid (GK_362.out.below hb)
    have UK_372 := hid (UK_363.out.below hb)
    clear HB_354 B16_355 GM_357 O4_358 Y4_359 GB_360 UB_361 GK_362 UK_363
    clear hb
    go_wp2_with fail
    refine (hrInts_any (v := .slice auh nz cuh) (v' := .slice auk nz cuk) (bs := Y2) V41 (by have := HA2.out.Yl; omega) (by have := UB_370.out; rw [← Hnz.out] at this ⊢; exact this.intSlice) (by have := UK_372.out; rw [← Hnz.out] at this ⊢; exact this.intSlice)).mono ?_
    rintro e V42 ⟨rfl, hb⟩
    have HB_373 := hid (HB_364.out.trans (hb.mono HB_364.out.size))
    have B16_374 := hid (B16_365.out.below hb)
    have GM_375 : Hid (M ≤ V42.heap.size) := Nat.le_trans GM_366.out hb.size
    have O4_376 := hid (O4_367.out.below hb)
    have Y4_377 := hid (Y4_368.out.below hb)
    have GB_378 := hid (GB_369.out.below hb)
    have UB_379 := hid (UB_370.out.below hb)
    have GK_380 := hid (GK_371.out.below hb)
    have UK_381 := hid (UK_372.out.below hb)
    clear HB_364 B16_365 GM_366 O4_367 Y4_368 GB_369 UB_370 GK_371 UK_372
    clear hb
    clear GK_380
    clear UK_381
    clear hMM
    cases md2 with
    | false =>
      have h0 : nB = 0 := by rw [← HnB.out]; exact HA2.out.none rfl
      subst h0
      obtain ⟨c0, c1, c2, c3, c4, c5, c6, c7, c8, c9⟩ := B16_374.out.cells
      go_wp2_with fail
      go_ret
      exact ⟨rfl, HB_373.out⟩
    | true =>
      obtain ⟨hk, hA0, hY0, hgr, hoi, hC0, hC8, hgr3, hsc⟩ := HA2.out.made rfl
      subst hk
      rw [HnB.out] at hA0 hgr hoi hsc
      rw [Hnz.out] at hY0 hgr hgr3
      obtain ⟨nC, hnC⟩ : ∃ n, A3.length = n := ⟨_, rfl⟩
      rw [hnC] at hC0 hC8 hgr3
      have HnC := hid hnC
      obtain ⟨gh, hgh⟩ : ∃ gg, ah = some ⟨gg, 0, none⟩ := by
        obtain ⟨ad, cc, e5, h5⟩ := GB_378.out
        cases e5
        obtain ⟨gg, e6, -⟩ := h5.resolve_left hA0
        exact ⟨gg, e6⟩
      obtain ⟨guh, hguh⟩ : ∃ gg, auh = some ⟨gg, 0, none⟩ := by
        obtain ⟨ad, cc, e5, h5⟩ := UB_379.out
        cases e5
        obtain ⟨gg, e6, -⟩ := h5.resolve_left hY0
        exact ⟨gg, e6⟩
      subst hgh hguh
      have HGr := hid hgr
      have HOi := hid hoi
      have HGr3 := hid hgr3
      have HSc := hid hsc
      have HC0 := hid hC0
      clear hA0 hY0 hgr hoi hC0 hC8 hgr3 hsc hnC
      obtain ⟨c0, c1, c2, c3, c4, c5, c6, c7, c8, c9⟩ := B16_374.out.cells
      go_wp2_with fail
      clear c0 c1 c2 c3 c4 c5 c6 c7 c8 c9
      refine (HGr.out _ gh ch _ guh cuh V42 HCh.out GB_378.out UB_379.out).mono ?_
      rintro e V43 ⟨⟨v5, u5, fv5, rfl, hob, hys, -, -⟩, hb⟩
      have HB_382 := hid (HB_373.out.trans (hb.mono HB_373.out.size))
      have B16_383 := hid (B16_374.out.below hb)
      have GM_384 : Hid (M ≤ V43.heap.size) := Nat.le_trans GM_375.out hb.size
      have O4_385 := hid (O4_376.out.below hb)
      have Y4_386 := hid (Y4_377.out.below hb)
      have GB_387 := hid (GB_378.out.below hb)
      have UB_388 := hid (UB_379.out.below hb)
      clear HB_373 B16_374 GM_375 O4_376 Y4_377 GB_378 UB_379
      clear hb
      have O5_389 := hid hob
      have Y5_390 := hid hys
      clear hob hys
      go_wp2_with fail
      refine (hrObjs_any (fieldsOf os2) V43 (by have := HA2.out.ol; omega) (fun i hi => by have := HA2.out.fl i hi; omega) O4_385.out O5_389.out).mono ?_
      rintro e V44 ⟨rfl, hb⟩
      have HB_391 := hid (HB_382.out.trans (hb.mono HB_382.out.size))
      have B16_392 := hid (B16_383.out.below hb)
      have GM_393 : Hid (M ≤ V44.heap.size) := Nat.le_trans GM_384.out hb.size
      have O4_394 := hid (O4_385.out.below hb)
      have Y4_395 := hid (Y4_386.out.below hb)
      have GB_396 := hid (GB_387.out.below hb)
      have UB_397 := hid (UB_388.out.below hb)
      have O5_398 := hid (O5_389.out.below hb)
      have Y5_399 := hid (Y5_390.out.below hb)
      clear HB_382 B16_383 GM_384 O4_385 Y4_386 GB_387 UB_388 O5_389 Y5_390
      clear hb
      go_wp2_with fail
      refine (hrInts_any (v := u4) (v' := u5) (bs := ys2) V44 (by have := HA2.out.yl; omega) Y4_395.out.intSlice Y5_399.out.intSlice).mono ?_
      rintro e V45 ⟨rfl, hb⟩
      have HB_400 := hid (HB_391.out.trans (hb.mono HB_391.out.size))
      have B16_401 := hid (B16_392.out.below hb)
      have GM_402 : Hid (M ≤ V45.heap.size) := Nat.le_trans GM_393.out hb.size
      have O4_403 := hid (O4_394.out.below hb)
      have Y4_404 := hid (Y4_395.out.below hb)
      have GB_405 := hid (GB_396.out.below hb)
      have UB_406 := hid (UB_397.out.below hb)
      have O5_407 := hid (O5_398.out.below hb)
      have Y5_408 := hid (Y5_399.out.below hb)
      clear HB_391 B16_392 GM_393 O4_394 Y4_395 GB_396 UB_397 O5_398 Y5_399
      clear hb
      clear O5_407
      clear Y5_408
      obtain ⟨c0, c1, c2, c3, c4, c5, c6, c7, c8, c9⟩ := B16_401.out.cells
      go_wp2_with fail
      clear c0 c1 c2 c3 c4 c5 c6 c7 c8 c9
      refine (HOi.out _ gh ch V45 HCh.out GB_405.out).mono ?_
      rintro e V46 ⟨rfl, hb⟩
      have HB_409 := hid (HB_400.out.trans (hb.mono HB_400.out.size))
      have B16_410 := hid (B16_401.out.below hb)
      have GM_411 : Hid (M ≤ V46.heap.size) := Nat.le_trans GM_402.out hb.size
      have O4_412 := hid (O4_403.out.below hb)
      have Y4_413 := hid (Y4_404.out.below hb)
      have GB_414 := hid (GB_405.out.below hb)
      have UB_415 := hid (UB_406.out.below hb)
      clear HB_400 B16_401 GM_402 O4_403 Y4_404 GB_405 UB_406
      clear hb
      obtain ⟨c0, c1, c2, c3, c4, c5, c6, c7, c8, c9⟩ := B16_410.out.cells
      go_wp2_with fail
      clear c0 c1 c2 c3 c4 c5 c6 c7 c8 c9
      refine (HSc.out _ gh ch V46 HCh.out GB_414.out).mono ?_
      rintro e V47 ⟨⟨ai, ci, rfl, hvi, hci⟩, hb⟩
      have HB_416 := hid (HB_409.out.trans (hb.mono HB_409.out.size))
      have B16_417 := hid (B16_410.out.below hb)
      have GM_418 : Hid (M ≤ V47.heap.size) := Nat.le_trans GM_411.out hb.size
      have O4_419 := hid (O4_412.out.below hb)
      have Y4_420 := hid (Y4_413.out.below hb)
      have GB_421 := hid (GB_414.out.below hb)
      have UB_422 := hid (UB_415.out.below hb)
      clear HB_409 B16_410 GM_411 O4_412 Y4_413 GB_414 UB_415
      clear hb
      rw [HnC.out] at hvi hci ⊢
      obtain ⟨gi, hgi⟩ : ∃ gg, ai = some ⟨gg, 0, none⟩ := by
        obtain ⟨ad, cc, e5, h5⟩ := hvi
        cases e5
        obtain ⟨gg, e6, -⟩ := h5.resolve_left HC0.out
        exact ⟨gg, e6⟩
      subst hgi
      have GC_423 := hid hvi
      have HCi := hid hci
      clear hvi hci
      unfold heapV
      dsimp only
      clear B16_417
      clear GB_421
      have hbA := (Below.refl V47.heap.size V47).alloc (Nat.le_refl _) (.cells #[.slice (some ⟨gi, 0, none⟩) nC ci, .int .i64 H3.size, .int .i64 H3.to, .int .i64 H3.bottom, .int .i64 H3.top, .int .i64 H3.scan, .int .i64 H3.fb, .int .i64 H3.ft, .int .i64 H3.flips, .int .i64 H3.touched] 25)
      have HB_424 := hid (HB_416.out.trans (hbA.mono HB_416.out.size))
      have GM_425 : Hid (M ≤ (V47.alloc (.cells #[.slice (some ⟨gi, 0, none⟩) nC ci, .int .i64 H3.size, .int .i64 H3.to, .int .i64 H3.bottom, .int .i64 H3.top, .int .i64 H3.scan, .int .i64 H3.fb, .int .i64 H3.ft, .int .i64 H3.flips, .int .i64 H3.touched] 25)).heap.size) := Nat.le_trans GM_418.out hbA.size
      have O4_426 := hid (O4_419.out.below hbA)
      have Y4_427 := hid (Y4_420.out.below hbA)
      have UB_428 := hid (UB_422.out.below hbA)
      have GC_429 := hid (GC_423.out.below hbA)
      clear HB_416 GM_418 O4_419 Y4_420 UB_422 GC_423
      have B32_430 : Hid (HeapBlk _ V47.heap.size (.slice (some ⟨gi, 0, none⟩) nC ci) H3) := HeapBlk.new V47 (.slice (some ⟨gi, 0, none⟩) nC ci) H3
      go_wp2_with fail
      obtain ⟨b32, hb32⟩ : ∃ b, V47.heap.size = b := ⟨_, rfl⟩
      obtain ⟨V48, hV48⟩ : ∃ X, V47.alloc (.cells #[.slice (some ⟨gi, 0, none⟩) nC ci, .int .i64 H3.size, .int .i64 H3.to, .int .i64 H3.bottom, .int .i64 H3.top, .int .i64 H3.scan, .int .i64 H3.fb, .int .i64 H3.ft, .int .i64 H3.flips, .int .i64 H3.touched] 25) = X := ⟨_, rfl⟩
      rw [hV48] at HB_424 GM_425 O4_426 Y4_427 UB_428 GC_429 B32_430 ⊢
      rw [hb32] at B32_430 ⊢
      clear hb32 hV48 hbA
      refine (HGr3.out _ gi ci _ guh cuh V48 HCi.out GC_429.out UB_428.out).mono ?_
      rintro e V49 ⟨⟨v6, u6, fv6, rfl, hob, hys, -, -⟩, hb⟩
      have HB_431 := hid (HB_424.out.trans (hb.mono HB_424.out.size))
      have GM_432 : Hid (M ≤ V49.heap.size) := Nat.le_trans GM_425.out hb.size
      have O4_433 := hid (O4_426.out.below hb)
      have Y4_434 := hid (Y4_427.out.below hb)
      have UB_435 := hid (UB_428.out.below hb)
      have GC_436 := hid (GC_429.out.below hb)
      have B32_437 := hid (B32_430.out.below hb)
      clear HB_424 GM_425 O4_426 Y4_427 UB_428 GC_429 B32_430
      clear hb
      have O6_438 := hid hob
      have Y6_439 := hid hys
      clear hob hys
      go_wp2_with fail
      refine (hrObjs_any (fieldsOf os2) V49 (by have := HA2.out.ol; omega) (fun i hi => by have := HA2.out.fl i hi; omega) O4_433.out O6_438.out).mono ?_
      rintro e V50 ⟨rfl, hb⟩
      have HB_440 := hid (HB_431.out.trans (hb.mono HB_431.out.size))
      have GM_441 : Hid (M ≤ V50.heap.size) := Nat.le_trans GM_432.out hb.size
      have O4_442 := hid (O4_433.out.below hb)
      have Y4_443 := hid (Y4_434.out.below hb)
      have UB_444 := hid (UB_435.out.below hb)
      have GC_445 := hid (GC_436.out.below hb)
      have B32_446 := hid (B32_437.out.below hb)
      have O6_447 := hid (O6_438.out.below hb)
      have Y6_448 := hid (Y6_439.out.below hb)
      clear HB_431 GM_432 O4_433 Y4_434 UB_435 GC_436 B32_437 O6_438 Y6_439
      clear hb
      go_wp2_with fail
      refine (hrInts_any (v := u4) (v' := u6) (bs := ys2) V50 (by have := HA2.out.yl; omega) Y4_443.out.intSlice Y6_448.out.intSlice).mono ?_
      rintro e V51 ⟨rfl, hb⟩
      have HB_449 := hid (HB_440.out.trans (hb.mono HB_440.out.size))
      have GM_450 : Hid (M ≤ V51.heap.size) := Nat.le_trans GM_441.out hb.size
      have O4_451 := hid (O4_442.out.below hb)
      have Y4_452 := hid (Y4_443.out.below hb)
      have UB_453 := hid (UB_444.out.below hb)
      have GC_454 := hid (GC_445.out.below hb)
      have B32_455 := hid (B32_446.out.below hb)
      have O6_456 := hid (O6_447.out.below hb)
      have Y6_457 := hid (Y6_448.out.below hb)
      clear HB_440 GM_441 O4_442 Y4_443 UB_444 GC_445 B32_446 O6_447 Y6_448
      clear hb
      go_wp2_with fail
      go_ret
      exact ⟨rfl, HB_449.out⟩
end Go.Proofs.Ytebpgglegnljgaa

namespace Go.Proofs.Ytebpgglegnljgaa.fnHeapKeeps
open Go.ChangeShapes Go.WideShapes Go.ChangeAt Go.RowKit
set_option linter.unusedVariables false

theorem own : ownKnob Try.prog.godebug = none := by kernel_rfl

theorem spot_none {W : World} {a : Addr} {v : Value} (h : W.cell? a = some v) : a.spot = none := by
  unfold World.cell? at h
  split at h
  · by_cases hs : a.spot.isSome
    · simp [hs] at h
    · simpa using hs
  · cases h

theorem block_lt {W : World} {a : Addr} {v : Value} (h : W.cell? a = some v) : a.block < W.heap.size := by
  unfold World.cell? at h
  split at h
  · rename_i e
    obtain ⟨hlt, _⟩ := Array.getElem?_eq_some_iff.mp e
    exact hlt
  · cases h

theorem le_of_max {n : Nat} (h : n ≤ maxLen) : n ≤ 9223372036854775807 := by
  unfold maxLen at h
  omega

theorem cells_u8 : Try.prog.cellsOf 5 = 1 := by kernel_rfl
theorem laidOut : laidOutB Try.prog = true := by kernel_rfl

theorem open_bytes {H : Type} {enc : TypeId × Value → H} {W : World} {sp : Nat → Bool} {held : Bool} {fuel : Nat} {v : Value} {x : DataW H × List MemPlace}
    (h : DataW.trod enc Try.prog W 0 sp held fuel 22 [v] = some x) :
    ∃ a0 len cap, v = .slice a0 len cap ∧ len ≤ cap ∧ len ≤ maxLen ∧ BytesAt W a0 len := by
  rcases open_ints Try.underlying22 Try.underlying5 cells_u8 h with ⟨hc, _⟩ | ⟨a, len, cap, zs, hc, _, hl, hm, hz, _, hcell, hwf⟩
  · simp at hc
    subst hc
    exact ⟨none, 0, 0, rfl, Nat.le_refl _, Nat.zero_le _, fun h => absurd h (by omega)⟩
  · simp at hc
    subst hc
    have hlm : len ≤ zs.length := by rw [hz]; split <;> omega
    refine ⟨some a, len, cap, rfl, hl, by omega, fun h0 => ?_⟩
    have hc0 := hcell 0 (by omega)
    have hs := spot_none hc0
    have hb := block_lt hc0
    obtain ⟨b, off, spot⟩ := a
    have hspot : spot = none := by simpa [Addr.add] using hs
    subst hspot
    refine ⟨b, off, rfl, by simpa [Addr.add] using hb, fun i hi => ?_⟩
    have hci := hcell i (by omega)
    have e : (Addr.add ⟨b, off, none⟩ i) = ⟨b, off + i, none⟩ := by
      unfold Addr.add
      split
      · rename_i h
        subst h
        rfl
      · rfl
    rw [e] at hci
    have hin : zs.getD i 0 ∈ zs := by
      rw [List.getD, List.getElem?_eq_getElem (show i < zs.length by omega)]
      exact List.getElem_mem _
    have hw := hwf _ hin
    simp only [Lit.wf, Bool.and_eq_true, decide_eq_true_eq] at hw
    exact ⟨_, hci, hw.1, hw.2⟩

set_option maxRecDepth 100000 in
theorem lifted (os : Os) (started : os.Started) (H : Type) (enc : TypeId × Value → H) :
    ReturnsInHanded {} Try.checked os 3 .any (Rows.fnHeapKeepsSpec.pre6 enc Try.prog Try.f3 Rows.fnHeapKeepsRow.domain false) (Rows.fnHeapKeepsSpec.post enc Try.prog Try.f3 false true false false) := by
  refine returnsInHanded_of_change (C := Try.checked) own started (by kernel_rfl) Try.func3
    (ChangeSpec.witness6 (enc := enc) (C := Try.checked) false ⟨#[], #[.slice none 0 0, .slice none 0 0], []⟩ 8 (by kernel_rfl) (by kernel_rfl) (by kernel_rfl) (by kernel_rfl)) ?_
  intro W base args ds gs before hval0 hW hcnd _
  have hval : ∀ (j : Nat) t v, Try.f3.params[j]? = some t → args[j]? = some v → Value.okWide Try.prog W .any base t v := hval0
  have hW' := hW
  obtain ⟨p, q, hA0, hV, rfl, hfz, hnd⟩ := hW
  have hA : DataW.TrodAll enc Try.prog W 0 (fun _ => true) true Try.f3.params.toList args.toList ds p := hA0
  rw [Try.params3] at hA hval
  obtain ⟨v0, vs0, d0, ds0, p0, q0, hargs, rfl, rfl, h0, r0⟩ := trodAll_cons hA
  obtain ⟨v1, vs1, d1, ds1, p1, q1, hargs1, rfl, rfl, h1, r1⟩ := trodAll_cons r0
  obtain ⟨rfl, rfl, rfl⟩ := trodAll_nil r1
  obtain rfl : args = #[v0, v1] := by cases args; simp_all
  obtain ⟨rfl, rfl⟩ := trodVars_none hV
  clear hA0 hval0
  simp only [List.append_nil] at hW'
  have hlt : ∀ y ∈ p0 ++ p1, y.block < W.heap.size := fun y hy => by simpa using hW'.lt y (by simpa using hy)
  have h0k := h0
  have h1k := h1
  obtain ⟨fuel, hf⟩ := h0
  obtain ⟨fuel1, hf1⟩ := h1
  obtain ⟨a1, len1, cap1, rfl⟩ := okWide_slice Try.underlying22 (hval 0 22 v0 rfl rfl)
  obtain ⟨a2, len2, cap2, rfl⟩ := okWide_slice Try.underlying22 (hval 1 22 v1 rfl rfl)
  obtain ⟨a0, len, cap, hv, hl, _, hB⟩ := open_bytes (by simpa [Value.cells] using hf)
  cases hv
  obtain ⟨a3, len3, cap3, hv, hl3, _, hB3⟩ := open_bytes (by simpa [Value.cells] using hf1)
  cases hv
  refine (keeps_walk _ _ _ _ _ _ W hl hB hl3 hB3).mono fun e W' ⟨he, hg⟩ => ?_
  subst he
  refine ⟨_, rfl, _, _, _, [], p0 ++ p1, [], hW', ?_, ?_, rfl, hg.frame _, fun h => by cases h⟩
  · exact trodAll_cons_mk (shut_bool Try.underlying4 _) trodAll_mk0
  · exact trodAll_mk2 (Below.trod laidOut (by kernel_rfl) (of_decide_eq_true (by kernel_rfl)) h0k hg (fun y hy => hlt y (List.mem_append_left _ hy))) (Below.trod laidOut (by kernel_rfl) (of_decide_eq_true (by kernel_rfl)) h1k hg (fun y hy => hlt y (List.mem_append_right _ hy)))

theorem over : Rows.fnHeapKeepsRow.holds Try.pinned (OpenSpec.ofChange Rows.fnHeapKeepsSpec) :=
  OpenClaim.holds_of_wide 3 Try.f3 rfl rfl rfl rfl rfl rfl rfl ⟨rfl, rfl, rfl, rfl, rfl⟩ rfl rfl rfl rfl rfl (by kernel_rfl) Try.func3 (by kernel_rfl)
    (of_decide_eq_true (by kernel_rfl)) (by unfold Func.isWrapper; first | (rw [if_pos (by decide +kernel)]; kernel_rfl) | (rw [if_neg (by decide +kernel)]; exact ⟨rfl, rfl⟩))
    (fun os started H enc _ => lifted os started H enc)

theorem proved : Rows.FnHeapKeepsSaid := over

#print axioms proved
end Go.Proofs.Ytebpgglegnljgaa.fnHeapKeeps
