/- The law on what is freed, walked: whatever heap and roots are drawn. -/
import Derived.Test.YtebpgglegnljgaaGrpMQ4
import Derived.Test.YtebpgglegnljgaaRows
import Derived.WalkKit
import Derived.ProofKit
import Derived.OpenShut
namespace Go.Proofs.Ytebpgglegnljgaa
open Go.RowKit Go.Deep

theorem sum_small {g : Nat → Int} : ∀ k, (∀ i, i < k → 1 ≤ g i ∧ g i ≤ 6) → 0 ≤ sumS g k ∧ sumS g k ≤ 6 * k
  | 0, _ => by unfold sumS; omega
  | k + 1, h => by
    have h1 := sum_small k (fun i hi => h i (by omega))
    have h2 := h k (by omega)
    unfold sumS
    push_cast
    omega

set_option maxHeartbeats 16000000 in
set_option maxRecDepth 100000 in
theorem frees_walk (a0 : Option Addr) (len cap : Nat) (W : World) (hcap : len ≤ cap) (hB : BytesAt W a0 len) :
    Calls Try.prog 4 #[.slice a0 len cap] W fun e W' => e = .returned (.bool true) ∧ Below W.heap.size W W' := by
  by_cases hl : (1048576 : Int) < (len : Int)
  · go_enter Try.func4, Try.ntmps4
    go_wp2_with fail
    go_ret
    exact ⟨rfl, Below.refl _ _⟩
  have HD := hid (drawFlip_calls a0 len cap W (by omega) hcap hB)
  have hl' : (len : Int) ≤ 1048576 := by omega
  clear hB hl hcap
  go_enter Try.func4, Try.ntmps4
  go_wp2_with fail
  refine HD.out.mono ?_
  rintro e W1 ⟨bw, cp, g, gc, ws, h, rs, rfl, hr, hgc⟩
  have hx := flip_told ws rs h (by have := hr.tc; omega) (by have := hr.l8; omega) (by have := hr.rl; omega)
  obtain ⟨o, ho⟩ : ∃ o, flipA ws rs h = o := ⟨_, rfl⟩
  rw [ho, hr.rl] at hx
  have HX := hid hx
  have HO := hid ho
  have HR := hid hr
  clear HD hx ho hr hl' hgc
  unfold heapV
  obtain ⟨L, hL⟩ : ∃ L, ws.length = L := ⟨_, rfl⟩
  have HLL := hid hL
  rw [hL]
  rw [hL] at HX
  clear hL
  go_wp2_with fail
  have hbA := (Below.refl W1.heap.size W1).alloc (Nat.le_refl _) (.cells #[.slice (some ⟨bw, 0, none⟩) L cp, .int .i64 h.size, .int .i64 h.to, .int .i64 h.bottom, .int .i64 h.top, .int .i64 h.scan, .int .i64 h.fb, .int .i64 h.ft, .int .i64 h.flips, .int .i64 h.touched] 25)
  have HR2 := hid (HR.out.keep hbA)
  have HH2 : Hid (HeapBlk _ W1.heap.size (.slice (some ⟨bw, 0, none⟩) L cp) h) := HeapBlk.new W1 (.slice (some ⟨bw, 0, none⟩) L cp) h
  obtain ⟨hv, hhv⟩ : ∃ hv, W1.heap.size = hv := ⟨_, rfl⟩
  obtain ⟨W2, hW2⟩ : ∃ X, W1.alloc (.cells #[.slice (some ⟨bw, 0, none⟩) L cp, .int .i64 h.size, .int .i64 h.to, .int .i64 h.bottom, .int .i64 h.top, .int .i64 h.scan, .int .i64 h.fb, .int .i64 h.ft, .int .i64 h.flips, .int .i64 h.touched] 25) = X := ⟨_, rfl⟩
  rw [hW2] at HR2 HH2 ⊢
  rw [hhv] at HH2 ⊢
  clear hhv hW2 hbA HR
  have HRow : Hid (∀ X, HpF W bw cp g gc ws h rs X → L ≤ cp ∧ SliceR 3 1 W.heap.size X (.slice (some ⟨bw, 0, none⟩) L cp) L (intCells ws)) := fun X hX => by
    have h1 := hX.cw
    have h2 := hX.row
    rw [HLL.out] at h1 h2
    exact ⟨h1, h2⟩
  refine (HX.out.2 W.heap.size bw cp W.heap.size g gc W2 (HRow.out _ HR2.out).1 (HRow.out _ HR2.out).2 HR2.out.rt).mono ?_
  rintro e W3 ⟨⟨ag, cg, ug, rfl, hvg, hug, hcg⟩, hb3⟩
  obtain ⟨A, hA⟩ : ∃ A, mW o = A := ⟨_, rfl⟩
  obtain ⟨H, hH⟩ : ∃ H, mH o = H := ⟨_, rfl⟩
  obtain ⟨Y, hY⟩ : ∃ Y, mY o = Y := ⟨_, rfl⟩
  obtain ⟨ok, hok⟩ : ∃ ok, o.isSome = ok := ⟨_, rfl⟩
  have HF : Hid ((ok = false → A.length = 0 ∧ Y.length = 0) ∧ (ok = true → ∃ s1 s2 S1 S2, Freed ws rs h Y s1 s2 S1 S2 ∧ A = s1.ws ∧ H = { s1.h with touched := touchZ s1 } ∧ touchZ s1 ≤ h.touched + 320)) := by
    subst hA hH hY hok
    have hO := HO.out
    cases o with
    | none => exact ⟨fun _ => ⟨rfl, rfl⟩, fun k => by cases k⟩
    | some s =>
      obtain ⟨S, k1, k2, k3, k4⟩ := flipA_ok hO
      obtain ⟨ys, s1, s2, S1, S2, fr, ht⟩ := freed k1 k4 k3 k2 (by have := HR2.out.fl; omega) (by have := HR2.out.tc; omega)
      have e := fr.flip
      rw [hO] at e
      cases e
      exact ⟨(fun k => by cases k), fun _ => ⟨s1, s2, S1, S2, fr, rfl, rfl, ht⟩⟩
  rw [hA, hH, hY, hok] at HX
  rw [hA] at hvg hcg
  rw [hY] at hug
  rw [hA, hH, hok]
  clear hA hH hY hok
  obtain ⟨aug, cug, huge, -⟩ := id hug
  subst huge
  have HG3 := hid (And.intro hvg hcg)
  have HU3 := hid hug
  have HR3 := hid (HR2.out.keep hb3)
  have HH3 := hid (HH2.out.below hb3)
  obtain ⟨n, hn⟩ : ∃ n, A.length = n := ⟨_, rfl⟩
  obtain ⟨ny, hny⟩ : ∃ n, Y.length = n := ⟨_, rfl⟩
  have HN := hid hn
  have HNY := hid hny
  have HLn : Hid (n ≤ 1048576 ∧ ny ≤ 20) := by
    show _ ∧ _
    cases ok with
    | false => have := HF.out.1 rfl; omega
    | true =>
      obtain ⟨s1, s2, S1, S2, fr, e2, -, -⟩ := HF.out.2 rfl
      have h1 := fr.len1
      have h2 := fr.ylen
      have h3 := HR3.out.l8
      have h4 := HR3.out.rl
      rw [e2] at hn
      omega
  rw [hn] at HG3 ⊢
  rw [hny] at HU3 ⊢
  clear hvg hug hcg hb3 HR2 HH2 hn hny
  unfold heapV
  dsimp only
  have hbB := (Below.refl W3.heap.size W3).alloc (Nat.le_refl _) (.cells #[.slice ag n cg, .int .i64 H.size, .int .i64 H.to, .int .i64 H.bottom, .int .i64 H.top, .int .i64 H.scan, .int .i64 H.fb, .int .i64 H.ft, .int .i64 H.flips, .int .i64 H.touched] 25)
  have HR4 := hid (HR3.out.keep hbB)
  have HH4 := hid (HH3.out.below hbB)
  have HG4 := hid (HG3.out.1.below hbB)
  have HU4 := hid (HU3.out.below hbB)
  have HV4 : Hid (HeapBlk _ W3.heap.size (.slice ag n cg) H) := HeapBlk.new W3 (.slice ag n cg) H
  have HCg : Hid (n ≤ cg) := HG3.out.2
  obtain ⟨c0, c1, c2, c3, c4, c5, c6, c7, c8, c9⟩ := HH4.out.cells
  go_wp2_with fail
  clear c0 c1 c2 c3 c4 c5 c6 c7 c8 c9
  obtain ⟨gv, hgv⟩ : ∃ gv, W3.heap.size = gv := ⟨_, rfl⟩
  obtain ⟨W4, hW4⟩ : ∃ X, W3.alloc (.cells #[.slice ag n cg, .int .i64 H.size, .int .i64 H.to, .int .i64 H.bottom, .int .i64 H.top, .int .i64 H.scan, .int .i64 H.fb, .int .i64 H.ft, .int .i64 H.flips, .int .i64 H.touched] 25) = X := ⟨_, rfl⟩
  rw [hW4] at HR4 HH4 HG4 HU4 HV4 ⊢
  rw [hgv] at HV4 ⊢
  clear hgv hW4 hbB HR3 HH3 HG3 HU3
  refine (HX.out.1 W.heap.size bw cp W.heap.size g gc W4 (HRow.out _ HR4.out).1 (HRow.out _ HR4.out).2 HR4.out.rt).mono ?_
  rintro e W5 ⟨⟨vw, uw, rfl, hvw, huw, -⟩, hb5⟩
  obtain ⟨aw, cw, hvwe, -⟩ := id hvw
  obtain ⟨auw, cuw, huwe, -⟩ := id huw
  subst hvwe huwe
  have HWs := hid hvw
  have HUs := hid huw
  have HR5 := hid (HR4.out.keep hb5)
  have HH5 := hid (HH4.out.below hb5)
  have HG5 := hid (HG4.out.below hb5)
  have HU5 := hid (HU4.out.below hb5)
  have HV5 := hid (HV4.out.below hb5)
  rw [HN.out] at HWs ⊢
  rw [HNY.out] at HUs ⊢
  clear hvw huw hb5 HR4 HH4 HG4 HU4 HV4 HX
  have hRR : (ok != ok) = false := by cases ok <;> rfl
  unfold heapV
  dsimp only
  have hbC := (Below.refl W5.heap.size W5).alloc (Nat.le_refl _) (.cells #[.slice aw n cw, .int .i64 H.size, .int .i64 H.to, .int .i64 H.bottom, .int .i64 H.top, .int .i64 H.scan, .int .i64 H.fb, .int .i64 H.ft, .int .i64 H.flips, .int .i64 H.touched] 25)
  have HR6 := hid (HR5.out.keep hbC)
  have HH6 := hid (HH5.out.below hbC)
  have HV6 := hid (HV5.out.below hbC)
  have HG6 := hid (HG5.out.below hbC)
  have HU6 := hid (HU5.out.below hbC)
  have HW6 := hid (HWs.out.below hbC)
  have HX6 := hid (HUs.out.below hbC)
  obtain ⟨c0, c1, c2, c3, c4, c5, c6, c7, c8, c9⟩ := HV6.out.cells
  go_wp2_with fail
  clear c0 c1 c2 c3 c4 c5 c6 c7 c8 c9
  obtain ⟨W6, hW6⟩ : ∃ X, W5.alloc (.cells #[.slice aw n cw, .int .i64 H.size, .int .i64 H.to, .int .i64 H.bottom, .int .i64 H.top, .int .i64 H.scan, .int .i64 H.fb, .int .i64 H.ft, .int .i64 H.flips, .int .i64 H.touched] 25) = X := ⟨_, rfl⟩
  rw [hW6] at HR6 HH6 HV6 HG6 HU6 HW6 HX6 ⊢
  clear hW6 hbC HR5 HH5 HV5 HG5 HU5 HWs HUs
  refine (hrHeap_any (v := .slice ag n cg) (v' := .slice aw n cw) (bs := A) (h := H) W6 (by rw [HN.out]; exact HLn.out.1) (by have := HG6.out; rw [← HN.out] at this ⊢; exact this.intSlice) (by have := HW6.out; rw [← HN.out] at this ⊢; exact this.intSlice)).mono ?_
  rintro e W7 ⟨rfl, hb7⟩
  have HR7 := hid (HR6.out.keep hb7)
  have HH7 := hid (HH6.out.below hb7)
  have HV7 := hid (HV6.out.below hb7)
  have HG7 := hid (HG6.out.below hb7)
  have HU7 := hid (HU6.out.below hb7)
  have HX7 := hid (HX6.out.below hb7)
  clear hb7 HR6 HH6 HV6 HG6 HU6 HW6 HX6 hRR
  go_wp2_with fail
  refine (hrInts_any (v := .slice aug ny cug) (v' := .slice auw ny cuw) (bs := Y) W7 (by have := HNY.out; have := HLn.out; omega) (by have := HU7.out; rw [← HNY.out] at this ⊢; exact this.intSlice) (by have := HX7.out; rw [← HNY.out] at this ⊢; exact this.intSlice)).mono ?_
  rintro e W8 ⟨rfl, hb8⟩
  have HR8 := hid (HR7.out.keep hb8)
  have HH8 := hid (HH7.out.below hb8)
  have HV8 := hid (HV7.out.below hb8)
  have HG8 := hid (HG7.out.below hb8)
  have HU8 := hid (HU7.out.below hb8)
  clear hb8 HR7 HH7 HV7 HG7 HU7 HX7
  obtain ⟨d0, d1, d2, d3, d4, d5, d6, d7, d8, d9⟩ := HV8.out.cells
  cases ok with
  | false =>
    go_wp2_with fail
    go_ret
    exact ⟨rfl, HR8.out.below⟩
  | true =>
    obtain ⟨s1, s2, S1, S2, fr, hA, hH, ht⟩ := HF.out.2 rfl
    have HTc : Hid (H.touched < 9223372036854775808) := by show _ < _; rw [hH]; have := HR8.out.tc; dsimp only; omega
    have hsc : scanA A H 4000 = some s2 := by rw [hA, hH]; exact fr.scan
    have hst := (scan_toldC A H HTc.out (by rw [HN.out]; exact HLn.out.1) 4000).2
    rw [hsc, HN.out] at hst
    obtain ⟨H2, hH2⟩ : ∃ H2, ansH (some s2) = H2 := ⟨_, rfl⟩
    obtain ⟨A2, hA2⟩ : ∃ A2, ansW (some s2) = A2 := ⟨_, rfl⟩
    have hfs : (some s2).isSome = true := rfl
    rw [hH2, hA2, hfs] at hst
    have HSt := hid hst
    have eA2 : A2 = s2.ws := by rw [← hA2]; rfl
    have eH2 : H2 = { s2.h with touched := touchZ s2 } := by rw [← hH2]; rfl
    obtain ⟨K, GG⟩ := graph_good fr.ok2 fr.roots (by rw [HNY.out]; exact HLn.out.2)
    have hK := GG.ends
    have hcnt := fr.words K hK
    have hKl := (graph_words (ws := s2.ws) (met := (tellsRun s2.ws Y Y.length []).1) K).1
    have hfin : s2.h.scan = s2.h.bottom := fr.done
    have hflp : s2.h.flips = h.flips + 1 := fr.flips
    rw [← eA2] at hcnt hKl
    rw [← eA2, ← eH2] at GG
    have HGc := hid GG.calls
    have HOl := hid GG.olen
    have HFl := hid GG.flen
    have eb : s2.h.bottom = H2.bottom := by rw [eH2]
    have et : s2.h.to = H2.to := by rw [eH2]
    have es : s2.h.scan = H2.scan := by rw [eH2]
    have ef : s2.h.flips = H2.flips := by rw [eH2]
    rw [eb, et] at hcnt
    rw [es, eb] at hfin
    rw [ef] at hflp
    obtain ⟨n2, hn2⟩ : ∃ n, A2.length = n := ⟨_, rfl⟩
    have HN2 : Hid (n2 ≤ 8000 ∧ 0 < n2) := by
      have h1 := fr.len2
      have h2 := HR8.out.l8
      have h3 := HR8.out.l0
      rw [← eA2] at h1
      show _ ∧ _
      omega
    obtain ⟨os, hos⟩ : ∃ os, (graphRun A2 K (tellsRun A2 Y Y.length []).1).2 = os := ⟨_, rfl⟩
    obtain ⟨ys, hys⟩ : ∃ ys, (tellsRun A2 Y Y.length []).2 = ys := ⟨_, rfl⟩
    rw [hos] at hcnt hKl HOl HFl
    rw [hos, hys, hn2, HNY.out] at HGc
    rw [← hKl] at hcnt
    have HOrd : Hid (Ordered H2 n2) := by
      have := fr.ok2.ord
      rw [← eA2, ← eH2, hn2] at this
      exact this
    have HNz : Hid (n ≠ 0 ∧ ny ≠ 0) := by
      have h1 := fr.len1
      have h2 := fr.ylen
      have h3 := HR8.out.l0
      have h4 := HR8.out.rl
      have h5 := HN.out
      have h6 := HNY.out
      rw [hA] at h5
      show _ ∧ _
      omega
    have HCnt := hid hcnt
    have HFin := hid hfin
    have HFlp := hid hflp
    clear hsc hst hH2 hfs eA2 eH2 GG hK hcnt hKl hfin hflp eb et es ef hos hys fr hA hH ht HF hA2 HO
    have hn0 := HNz.out
    obtain ⟨gg, hgg⟩ : ∃ gg, ag = some ⟨gg, 0, none⟩ := by
      obtain ⟨ad, cc, e5, h5⟩ := HG8.out
      cases e5
      obtain ⟨gg, e6, -⟩ := h5.resolve_left hn0.1
      exact ⟨gg, e6⟩
    obtain ⟨gu, hgu⟩ : ∃ gu, aug = some ⟨gu, 0, none⟩ := by
      obtain ⟨ad, cc, e5, h5⟩ := HU8.out
      cases e5
      obtain ⟨gg, e6, -⟩ := h5.resolve_left hn0.2
      exact ⟨gg, e6⟩
    subst hgg hgu
    clear hn0
    go_wp2_with fail
    clear d0 d1 d2 d3 d4 d5 d6 d7 d8 d9
    refine (HSt.out _ gg cg W8 HCg.out HG8.out).mono ?_
    rintro e W9 ⟨⟨a2, c2, rfl, hv2, hc2⟩, hb9⟩
    rw [hn2] at hv2 hc2 ⊢
    unfold heapV
    dsimp only
    have hbE := (Below.refl W9.heap.size W9).alloc (Nat.le_refl _) (.cells #[.slice a2 n2 c2, .int .i64 H2.size, .int .i64 H2.to, .int .i64 H2.bottom, .int .i64 H2.top, .int .i64 H2.scan, .int .i64 H2.fb, .int .i64 H2.ft, .int .i64 H2.flips, .int .i64 H2.touched] 25)
    have hbF := hb9.trans (hbE.mono hb9.size)
    have HRA := hid (HR8.out.keep hbF)
    have HHA := hid (HH8.out.below hbF)
    have HUA := hid (HU8.out.below hbF)
    have HVA := hid (hv2.below hbE)
    have HC2 := hid hc2
    have HBA : Hid (HeapBlk _ W9.heap.size (.slice a2 n2 c2) H2) := HeapBlk.new W9 (.slice a2 n2 c2) H2
    obtain ⟨ga, hga⟩ : ∃ ga, a2 = some ⟨ga, 0, none⟩ := by
      obtain ⟨ad, cc, e5, h5⟩ := hv2
      cases e5
      obtain ⟨gg, e6, -⟩ := h5.resolve_left (by have := HN2.out; omega)
      exact ⟨gg, e6⟩
    subst hga
    clear hb9 hbE hbF hv2 hc2 HR8 HH8 HV8 HG8 HU8 HSt
    obtain ⟨d0, d1, d2, d3, d4, d5, d6, d7, d8, d9⟩ := HBA.out.cells
    go_wp2_with fail
    clear d0 d1 d2 d3 d4 d5 d6 d7 d8 d9
    obtain ⟨uv, huv⟩ : ∃ v, W9.heap.size = v := ⟨_, rfl⟩
    obtain ⟨WA, hWA⟩ : ∃ X, W9.alloc (.cells #[.slice (some ⟨ga, 0, none⟩) n2 c2, .int .i64 H2.size, .int .i64 H2.to, .int .i64 H2.bottom, .int .i64 H2.top, .int .i64 H2.scan, .int .i64 H2.fb, .int .i64 H2.ft, .int .i64 H2.flips, .int .i64 H2.touched] 25) = X := ⟨_, rfl⟩
    rw [hWA] at HRA HHA HUA HVA HBA ⊢
    rw [huv] at HBA ⊢
    clear huv hWA
    refine (HGc.out _ ga c2 _ gu cug WA HC2.out HVA.out HUA.out).mono ?_
    rintro e WG ⟨⟨vl, ul, fl, rfl, hol, -, -, -⟩, hbg⟩
    obtain ⟨al, cl, hvle, -⟩ := id hol.row
    subst hvle
    have HRG := hid (HRA.out.keep hbg)
    have HHG := hid (HHA.out.below hbg)
    have HBG := hid (HBA.out.below hbg)
    have HOG := hid hol
    clear hol hbg HRA HHA HUA HVA HBA HGc
    obtain ⟨no, hno⟩ : ∃ no, os.length = no := ⟨_, rfl⟩
    have HNo := hid hno
    rw [hno]
    clear hno
    go_wp2_with fail
    go_loopw [16, 17] (fun nn i wr => ∃ (k : Nat) (x : Int), k ≤ no ∧ i = .int .i64 k ∧ nn = .int .i64 x ∧ Hid (x = sumS (fun i => 1 + ((fieldsOf os i).length : Int)) k) ∧ Hid (Below WG.heap.size WG wr)) (fun _ i _ => no - (intOf i).toNat)
    case atStart => exact ⟨0, 0, Nat.zero_le _, rfl, rfl, rfl, Below.refl _ _⟩
    case round =>
      obtain ⟨k, x, hk, rfl, rfl, HXs, HBw⟩ := hrel
      have HSm : Hid (∀ m, m ≤ no → 0 ≤ sumS (fun i => 1 + ((fieldsOf os i).length : Int)) m ∧ sumS (fun i => 1 + ((fieldsOf os i).length : Int)) m ≤ 6 * m) := fun m hm => sum_small m (fun i hi => by
        have := HFl.out i (by have := HNo.out; omega)
        omega)
      have hno8 : no ≤ 8000 := by have := HNo.out; have := HOl.out; omega
      by_cases hkl : (k : Int) < (no : Int)
      · have hk2 : k < os.length := by have := HNo.out; omega
        obtain ⟨gl, hgl, hcl⟩ : ∃ gl, al = some ⟨gl, 0, none⟩ ∧ wr.cell? ⟨gl, k * 2 + 1, none⟩ = some (fl k) := by
          obtain ⟨ad, cc, e5, h5⟩ := (HOG.out.below HBw.out).row
          cases e5
          obtain ⟨gl, e6, -, hr⟩ := h5.resolve_left (by omega)
          refine ⟨gl, e6, ?_⟩
          have := hr.cell (i := k * 2 + 1) (by omega)
          rw [objF_fields] at this
          exact this
        subst hgl
        obtain ⟨nf, hnf⟩ : ∃ nf, (fieldsOf os k).length = nf := ⟨_, rfl⟩
        obtain ⟨af, cf, hff⟩ : ∃ af cf, fl k = .slice af nf cf := by
          obtain ⟨ad, cc, e5, -⟩ := HOG.out.fld k hk2
          exact ⟨ad, cc, by rw [e5, hnf]⟩
        rw [hff] at hcl
        have h5 := HFl.out k hk2
        have hsm := HSm.out k (by omega)
        have hxs := HXs.out
        have hw1 : Hid (wrap64 (x + 1) = x + 1) := by show _ = _; unfold wrap64; omega
        have hw2 : Hid (wrap64 (x + 1 + (nf : Int)) = x + 1 + (nf : Int)) := by show _ = _; unfold wrap64; omega
        have hw3 : Hid (wrap64 ((k : Int) + 1) = ((k + 1 : Nat) : Int)) := by show _ = _; unfold wrap64; push_cast; omega
        have HXn : Hid (x + 1 + (nf : Int) = sumS (fun i => 1 + ((fieldsOf os i).length : Int)) (k + 1)) := by
          show _ = _
          rw [show sumS (fun i => 1 + ((fieldsOf os i).length : Int)) (k + 1) = sumS (fun i => 1 + ((fieldsOf os i).length : Int)) k + (1 + ((fieldsOf os k).length : Int)) from rfl, ← hxs, hnf]
          omega
        have hi0 : (0 : Int) ≤ (k : Int) := by omega
        have hs : no - (intOf (.int .i64 ((k + 1 : Nat) : Int))).toNat < no - (intOf (.int .i64 (k : Int))).toNat := by simp only [intOf, Int.toNat_natCast]; omega
        clear hnf hff h5 hsm hxs hno8 HSm HXs
        go_wp2_with fail
        try rw [hw1.out]
        try rw [hw2.out]
        try rw [hw3.out]
        exact ⟨⟨k + 1, _, by omega, rfl, rfl, HXn.out, HBw.out⟩, hs⟩
      · have hkn : k = no := by omega
        have HHw := hid (HHG.out.below HBw.out)
        have HBu := hid (HBG.out.below HBw.out)
        have HRw := hid (HRG.out.keep HBw.out)
        have ord := HOrd.out
        obtain ⟨p1, p2, p3, p4, p5, p6, p7, p8, p9, p10, -⟩ := ord
        have hxs := HXs.out
        have hcn := HCnt.out
        rw [HNo.out] at hcn
        have hxe : x = H2.bottom - H2.to := by rw [hxs, hkn]; exact hcn
        have hw1 : wrap64 (H2.bottom - H2.to) = H2.bottom - H2.to := by unfold wrap64; omega
        have hw2 : wrap64 (h.flips + 1) = H2.flips := by
          have h1 := HFlp.out
          have h2 := HRw.out.fl
          unfold wrap64
          omega
        have q1 : (wrap64 (H2.bottom - H2.to) == x) = true := by rw [hw1, hxe]; simp
        have q2 : (H2.scan == H2.bottom) = true := by rw [HFin.out]; simp
        have q3 : (H2.flips == wrap64 (h.flips + 1)) = true := by rw [hw2]; simp
        obtain ⟨c0, c1, c2, c3, c4, c5, c6, c7, c8, c9⟩ := HHw.out.cells
        obtain ⟨d0, d1, d2, d3, d4, d5, d6, d7, d8, d9⟩ := HBu.out.cells
        clear p1 p2 p3 p4 p5 p6 p7 p8 p9 p10 hxs hcn hxe hw1 hw2 hno8 HSm HXs
        go_wp2_with fail
        go_ret
        exact ⟨rfl, HRw.out.below⟩
end Go.Proofs.Ytebpgglegnljgaa

/- At every bytes the promise on what is freed holds: just what is reached lies there; the bytes unchanged; no condition. -/
namespace Go.Proofs.Ytebpgglegnljgaa.fnHeapFrees
open Go.ChangeShapes Go.WideShapes Go.ChangeAt Go.RowKit
set_option linter.unusedVariables false

theorem own : ownKnob Try.prog.godebug = none := by kernel_rfl

theorem spot_none {W : World} {a : Addr} {v : Value} (h : W.cell? a = some v) : a.spot = none := by
  unfold World.cell? at h
  split at h
  · by_cases hs : a.spot.isSome
    · simp [hs] at h
    · simpa using hs
  · cases h

theorem block_lt {W : World} {a : Addr} {v : Value} (h : W.cell? a = some v) : a.block < W.heap.size := by
  unfold World.cell? at h
  split at h
  · rename_i e
    obtain ⟨hlt, _⟩ := Array.getElem?_eq_some_iff.mp e
    exact hlt
  · cases h

theorem le_of_max {n : Nat} (h : n ≤ maxLen) : n ≤ 9223372036854775807 := by
  unfold maxLen at h
  omega

theorem cells_u8 : Try.prog.cellsOf 5 = 1 := by kernel_rfl
theorem laidOut : laidOutB Try.prog = true := by kernel_rfl

theorem open_bytes {H : Type} {enc : TypeId × Value → H} {W : World} {sp : Nat → Bool} {held : Bool} {fuel : Nat} {v : Value} {x : DataW H × List MemPlace}
    (h : DataW.trod enc Try.prog W 0 sp held fuel 22 [v] = some x) :
    ∃ a0 len cap, v = .slice a0 len cap ∧ len ≤ cap ∧ len ≤ maxLen ∧ BytesAt W a0 len := by
  rcases open_ints Try.underlying22 Try.underlying5 cells_u8 h with ⟨hc, _⟩ | ⟨a, len, cap, zs, hc, _, hl, hm, hz, _, hcell, hwf⟩
  · simp at hc
    subst hc
    exact ⟨none, 0, 0, rfl, Nat.le_refl _, Nat.zero_le _, fun h => absurd h (by omega)⟩
  · simp at hc
    subst hc
    have hlm : len ≤ zs.length := by rw [hz]; split <;> omega
    refine ⟨some a, len, cap, rfl, hl, by omega, fun h0 => ?_⟩
    have hc0 := hcell 0 (by omega)
    have hs := spot_none hc0
    have hb := block_lt hc0
    obtain ⟨b, off, spot⟩ := a
    have hspot : spot = none := by simpa [Addr.add] using hs
    subst hspot
    refine ⟨b, off, rfl, by simpa [Addr.add] using hb, fun i hi => ?_⟩
    have hci := hcell i (by omega)
    have e : (Addr.add ⟨b, off, none⟩ i) = ⟨b, off + i, none⟩ := by
      unfold Addr.add
      split
      · rename_i h
        subst h
        rfl
      · rfl
    rw [e] at hci
    have hin : zs.getD i 0 ∈ zs := by
      rw [List.getD, List.getElem?_eq_getElem (show i < zs.length by omega)]
      exact List.getElem_mem _
    have hw := hwf _ hin
    simp only [Lit.wf, Bool.and_eq_true, decide_eq_true_eq] at hw
    exact ⟨_, hci, hw.1, hw.2⟩

set_option maxRecDepth 100000 in
theorem lifted (os : Os) (started : os.Started) (H : Type) (enc : TypeId × Value → H) :
    ReturnsInHanded {} Try.checked os 4 .any (Rows.fnHeapFreesSpec.pre6 enc Try.prog Try.f4 Rows.fnHeapFreesRow.domain false) (Rows.fnHeapFreesSpec.post enc Try.prog Try.f4 false true false false) := by
  refine returnsInHanded_of_change (C := Try.checked) own started (by kernel_rfl) Try.func4
    (ChangeSpec.witness6 (enc := enc) (C := Try.checked) false ⟨#[], #[.slice none 0 0], []⟩ 8 (by kernel_rfl) (by kernel_rfl) (by kernel_rfl) (by kernel_rfl)) ?_
  intro W base args ds gs before hval0 hW hcnd _
  have hval : ∀ (j : Nat) t v, Try.f4.params[j]? = some t → args[j]? = some v → Value.okWide Try.prog W .any base t v := hval0
  have hW' := hW
  obtain ⟨p, q, hA0, hV, rfl, hfz, hnd⟩ := hW
  have hA : DataW.TrodAll enc Try.prog W 0 (fun _ => true) true Try.f4.params.toList args.toList ds p := hA0
  rw [Try.params4] at hA hval
  obtain ⟨v0, vs0, d0, ds0, p0, q0, hargs, rfl, rfl, h0, r0⟩ := trodAll_cons hA
  obtain ⟨rfl, rfl, rfl⟩ := trodAll_nil r0
  obtain rfl : args = #[v0] := by cases args; simp_all
  obtain ⟨rfl, rfl⟩ := trodVars_none hV
  clear hA0 hval0
  simp only [List.append_nil] at hW'
  have hlt : ∀ y ∈ p0, y.block < W.heap.size := fun y hy => by simpa using hW'.lt y (by simpa using hy)
  have h0k := h0
  obtain ⟨fuel, hf⟩ := h0
  obtain ⟨a1, len1, cap1, rfl⟩ := okWide_slice Try.underlying22 (hval 0 22 v0 rfl rfl)
  obtain ⟨a0, len, cap, hv, hl, hm, hB⟩ := open_bytes (by simpa [Value.cells] using hf)
  cases hv
  refine (frees_walk _ _ _ W hl hB).mono fun e W' ⟨he, hg⟩ => ?_
  subst he
  refine ⟨_, rfl, _, _, _, [], p0, [], hW', ?_, ?_, rfl, hg.frame _, fun h => by cases h⟩
  · exact trodAll_cons_mk (shut_bool Try.underlying4 _) trodAll_mk0
  · exact trodAll_mk1 (Below.trod laidOut (by kernel_rfl) (of_decide_eq_true (by kernel_rfl)) h0k hg hlt)

theorem over : Rows.fnHeapFreesRow.holds Try.pinned (OpenSpec.ofChange Rows.fnHeapFreesSpec) :=
  OpenClaim.holds_of_wide 4 Try.f4 rfl rfl rfl rfl rfl rfl rfl ⟨rfl, rfl, rfl, rfl, rfl⟩ rfl rfl rfl rfl rfl (by kernel_rfl) Try.func4 (by kernel_rfl)
    (of_decide_eq_true (by kernel_rfl)) (by unfold Func.isWrapper; first | (rw [if_pos (by decide +kernel)]; kernel_rfl) | (rw [if_neg (by decide +kernel)]; exact ⟨rfl, rfl⟩))
    (fun os started H enc _ => lifted os started H enc)

theorem proved : Rows.FnHeapFreesSaid :=
  over
#print axioms proved
end Go.Proofs.Ytebpgglegnljgaa.fnHeapFrees
