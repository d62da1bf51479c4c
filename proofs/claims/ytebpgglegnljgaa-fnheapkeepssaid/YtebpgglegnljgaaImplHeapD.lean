/- The program's look at one object of a heap that was laid out. -/
import Derived.Test.YtebpgglegnljgaaImplHeapI
namespace Go.Proofs.Ytebpgglegnljgaa
open Go.RowKit

set_option maxHeartbeats 4000000 in
set_option maxRecDepth 100000 in
theorem objectOk_calls (b off cap gb gcap N a : Nat) (ws S : List Int) (h : HpN) (w : World) (ho : Ordered h N) (hcap : N ≤ cap) (hN : Noted ws S) (hs : ISt b off gb N ws S w) (ha : S.getD a 0 ≠ 0) :
    Calls Try.prog 61 #[layV (.slice (some ⟨b, off, none⟩) N cap) h (.slice (some ⟨gb, 0, none⟩) N gcap), .int .i64 a] w fun e w' => e = .returned (.bool (implAt ws S h a)) ∧ Below w.heap.size w w' := by
  obtain ⟨ha1, ha2, ha3⟩ := hN.2 a ha
  have hwl := hs.wlen
  have hn3 : 3 ≤ sizeN (ws.getD a 0) := by
    have e1 := size_three (ws.getD a 0)
    have e2 := sizeN_cast (ws.getD a 0)
    omega
  have HFi := hid (fun (w' : World) (s' : ISt b off gb N ws S w') => fieldsAt_calls b off N cap a (sizeN (ws.getD a 0)) (ws.getD a 0) w' (sizeN_cast _).symm hn3 (by omega) hcap (by obtain ⟨o1, o2, o3, _⟩ := ho; omega) s'.blt (s'.words a (by omega)))
  have HOb := hid (fun (w' : World) (s' : ISt b off gb N ws S w') => objectAt_calls b off N cap a (ws.getD a 0) w' (by omega) s'.blt (s'.words a (by omega)))
  have HWi := hid (fun (w' : World) => within_calls (.slice (some ⟨b, off, none⟩) N cap) h a h.to w' (by obtain ⟨o1, o2, o3, o4, _⟩ := ho; omega) (by obtain ⟨o1, o2, o3, o4, _⟩ := ho; omega) (by obtain ⟨o1, o2, o3, o4, _⟩ := ho; omega) ho.2.1)
  have hkk : kindOr (ws.getD a 0) = ws.getD a 0 % 16 := by
    unfold kindOr
    rw [if_neg]
    have e1 := size_three (ws.getD a 0)
    have e2 := sizeN_cast (ws.getD a 0)
    omega
  rw [hkk] at HOb
  have HOt := hid (fun (w' : World) => other_calls (.slice (some ⟨b, off, none⟩) N cap) h w' (by obtain ⟨o1, o2, o3, o4, _⟩ := ho; omega) (by obtain ⟨o1, o2, o3, o4, _⟩ := ho; omega) (by obtain ⟨o1, o2, o3, o4, _⟩ := ho; omega) ho.2.1)
  have HLd := hid (fun (w' : World) (s' : ISt b off gb N ws S w') (x : Int) (sp : Int) (hsp : sp = h.to ∨ sp = h.size - h.to) => leads_st (gcap := gcap) s' (.slice (some ⟨b, off, none⟩) N cap) h ho x sp hsp)
  have HWo := hid (fun (w' : World) (s' : ISt b off gb N ws S w') (x : Int) => wordOk_st (gcap := gcap) s' (.slice (some ⟨b, off, none⟩) N cap) h ho x)
  have hinv : (decide (h.to ≤ (a : Int) ∧ (a : Int) < h.to + h.size)) = inZ h a := rfl
  rw [hinv] at HWi
  have HO := hid ho
  have HSt := hid hs
  clear hs ho hinv hkk
  by_cases hm : ws.getD a 0 % 16 = 15
  · have HA : Hid (implAt ws S h a = implMoved ws S h a) := if_pos hm
    rw [hm] at HOb
    clear hm
    generalize sizeN (ws.getD a 0) = n at *
    generalize sizeZ (ws.getD a 0) = sz at *
    obtain ⟨nf, rfl⟩ : ∃ nf, n = nf + 1 := ⟨n - 1, by omega⟩
    rw [Nat.add_sub_cancel] at HFi
    obtain ⟨g1, g2, g3, g4, g5, g6, g7, g8, g9⟩ := h
    unfold layV heapV at *
    dsimp only at *
    generalize hIn : inZ ⟨g1, g2, g3, g4, g5, g6, g7, g8, g9⟩ (a : Int) = used at *
    generalize hAt : implAt ws S ⟨g1, g2, g3, g4, g5, g6, g7, g8, g9⟩ a = R at *
    have HIn := hid hIn
    clear hIn hAt
    go_enter Try.func61, Try.ntmps61
    go_wp2_with fail
    have hO0 : OSt w b off gb N ws S (.slice (some ⟨b, off, none⟩) N cap) ⟨g1, g2, g3, g4, g5, g6, g7, g8, g9⟩ (.slice (some ⟨gb, 0, none⟩) N gcap) (w.alloc (.cells #[.slice (some ⟨b, off, none⟩) N cap, .int .i64 g1, .int .i64 g2, .int .i64 g3, .int .i64 g4, .int .i64 g5, .int .i64 g6, .int .i64 g7, .int .i64 g8, .int .i64 g9, .slice (some ⟨gb, 0, none⟩) N gcap] 58)) :=
      ⟨HSt.out.kept ((Below.refl _ _).alloc (Nat.le_refl _) _), LayBlk.new w (.slice (some ⟨b, off, none⟩) N cap) ⟨g1, g2, g3, g4, g5, g6, g7, g8, g9⟩ (.slice (some ⟨gb, 0, none⟩) N gcap), (Below.refl _ _).alloc (Nat.le_refl _) _⟩
    have HO0 := hid hO0
    clear hO0 HSt
    refine (HFi.out _ HO0.out.st).mono ?_
    rintro e W1 ⟨rfl, hb1⟩
    have HO1 := hid (HO0.out.keep hb1)
    clear hb1 HO0 HFi
    obtain ⟨c0, c1, c2, c3, c4, c5, c6, c7, c8, c9, c10⟩ := HO1.out.blk.cells
    dsimp only at c0 c1 c2 c3 c4 c5 c6 c7 c8 c9 c10
    go_wp2_with fail
    clear c0 c1 c2 c3 c4 c5 c6 c7 c8 c9 c10
    refine (HWi.out _).mono ?_
    rintro e W2 ⟨rfl, hb2⟩
    have HO2 := hid (HO1.out.keep hb2)
    clear hb2 HO1 HWi
    obtain ⟨c0, c1, c2, c3, c4, c5, c6, c7, c8, c9, c10⟩ := HO2.out.blk.cells
    dsimp only at c0 c1 c2 c3 c4 c5 c6 c7 c8 c9 c10
    go_wp2_with fail
    clear c0 c1 c2 c3 c4 c5 c6 c7 c8 c9 c10
    refine (HOb.out _ HO2.out.st).mono ?_
    rintro e W3 ⟨rfl, hb3⟩
    have HO3 := hid (HO2.out.keep hb3)
    clear hb3 HO2 HOb
    obtain ⟨c0, c1, c2, c3, c4, c5, c6, c7, c8, c9, c10⟩ := HO3.out.blk.cells
    dsimp only at c0 c1 c2 c3 c4 c5 c6 c7 c8 c9 c10
    have cy := HO3.out.st.words (a + 1) (by omega)
    have ca := HO3.out.st.sizes a (by omega)
    rw [Nat.zero_add] at ca
    obtain ⟨v0, v1, v2, v3, v4, v5, v6, v7, v8, v9, v10⟩ := HO3.out.blk.later (B := W3.heap.size) (heap_lt HO3.out.blk)
    dsimp only at v0 v1 v2 v3 v4 v5 v6 v7 v8 v9 v10
    have hb3 := HO3.out.st.blt
    have hg3 := HO3.out.st.glt
    have HLx := hid (fun x : Later W3.heap.size W3 => HLd.out x.w (HO3.out.st.kept x.h) (ws.getD (a + 1) 0) g2 (Or.inl rfl))
    unfold implMoved at HA
    dsimp only at HA
    generalize ws.getD (a + 1) 0 = y at *
    have vy : ∀ x : Later W3.heap.size W3, x.w.cell? ⟨b, off + (a + 1), none⟩ = some (.int .i64 y) := fun x => x.cell hb3 cy
    have va : ∀ x : Later W3.heap.size W3, x.w.cell? ⟨gb, a, none⟩ = some (.int .i64 (S.getD a 0)) := fun x => x.cell hg3 ca
    have hln : 0 < nf := by omega
    have hla : (a : Int) < (N : Int) := by omega
    clear ha2 ha3 ha cy ca
    cases used
    · cases hL : leadsZ S g1 y g2 with
      | false =>
        rw [hL] at HLx
        have HR : Hid (R = false) := HA.out.trans (by rw [HIn.out, hL]; rfl)
        clear hL
        go_wp2_with fail
        clear c0 c1 c2 c3 c4 c5 c6 c7 c8 c9 c10
        refine wp_region_calm W3.heap.size (by kernel_rfl) (by kernel_rfl) ?_
        repeat (go_big_quiet_step (first | (rename_i x; go_at_call 51; refine (HLx.out x).mono ?_; rintro e w5 ⟨rfl, hb5⟩; exact ⟨rfl, ⟨w5, x.h.trans (hb5.mono x.h.size)⟩, rfl⟩)))
        refine wpQuiet_nil ?_
        rintro w5 ⟨x, rfl⟩
        have HBx := hid (HO3.out.keep x.h)
        clear v0 v1 v2 v3 v4 v5 v6 v7 v8 v9 v10 vy va
        go_wp2_with fail
        go_ret
        exact ⟨by rw [HR.out]; rfl, HBx.out.below⟩
      | true =>
        rw [hL] at HLx
        obtain ⟨k1, k2, k3, k4⟩ := leadsZ_at hL
        have hkk : 0 ≤ y / 8 ∧ y / 8 < (N : Int) := by obtain ⟨o1, o2, o3, o4, _⟩ := HO.out; dsimp only at *; omega
        obtain ⟨k, hk⟩ := Int.eq_ofNat_of_zero_le hkk.1
        have hkN : k < N := by omega
        have HNum : Hid (∀ w, Calls Try.prog 52 #[.int .i64 y] w fun e w' => e = .returned (.int .i64 (k : Int)) ∧ w = w') := fun w => by
          have := implNum_calls y w
          unfold numZ at this
          rw [hk] at this
          exact this
        have HR : Hid (R = decide (S.getD k 0 = S.getD a 0)) := HA.out.trans (by rw [HIn.out, hL, hk, Int.toNat_natCast]; rfl)
        have ck := HO3.out.st.sizes k hkN
        rw [Nat.zero_add] at ck
        have vk : ∀ x : Later W3.heap.size W3, x.w.cell? ⟨gb, k, none⟩ = some (.int .i64 (S.getD k 0)) := fun x => x.cell hg3 ck
        clear hL k1 k2 k3 k4 hkk hk ck
        generalize S.getD k 0 = p at *
        generalize S.getD a 0 = q at *
        go_wp2_with fail
        clear c0 c1 c2 c3 c4 c5 c6 c7 c8 c9 c10
        refine wp_region_calm W3.heap.size (by kernel_rfl) (by kernel_rfl) ?_
        repeat (go_big_quiet_step (first | (rename_i x; go_at_call 51; refine (HLx.out x).mono ?_; rintro e w5 ⟨rfl, hb5⟩; exact ⟨rfl, ⟨w5, x.h.trans (hb5.mono x.h.size)⟩, rfl⟩) | (rename_i x; go_at_call 52; refine (HNum.out _).mono ?_; rintro e w5 ⟨rfl, rfl⟩; exact ⟨rfl, x, rfl⟩)))
        refine wpQuiet_nil ?_
        rintro w5 ⟨x, rfl⟩
        have HBx := hid (HO3.out.keep x.h)
        clear v0 v1 v2 v3 v4 v5 v6 v7 v8 v9 v10 vy va vk
        go_wp2_with fail
        go_ret
        refine ⟨?_, HBx.out.below⟩
        rw [HR.out]
        show Ending.returned (.bool (p == q)) = _
        by_cases hpq : p = q
        · simp [hpq]
        · simp [hpq]
    · have HR : Hid (R = false) := HA.out.trans (by rw [HIn.out]; rfl)
      go_wp2_with fail
      clear c0 c1 c2 c3 c4 c5 c6 c7 c8 c9 c10
      refine wp_region_calm W3.heap.size (by kernel_rfl) (by kernel_rfl) ?_
      repeat (go_big_quiet_step (first | (rename_i x; go_at_call 51; refine (HLx.out x).mono ?_; rintro e w5 ⟨rfl, hb5⟩; exact ⟨rfl, ⟨w5, x.h.trans (hb5.mono x.h.size)⟩, rfl⟩)))
      refine wpQuiet_nil ?_
      rintro w5 ⟨x, rfl⟩
      have HBx := hid (HO3.out.keep x.h)
      clear v0 v1 v2 v3 v4 v5 v6 v7 v8 v9 v10 vy va
      go_wp2_with fail
      go_ret
      exact ⟨by rw [HR.out]; rfl, HBx.out.below⟩
  · have HA : Hid (implAt ws S h a = (List.range (sizeN (ws.getD a 0) - 1)).all (fun i => implField S h (oldI h a) (ws.getD (a + (i + 1)) 0))) := if_neg hm
    have hk15 : (ws.getD a 0 % 16 == 15) = false := by simpa using hm
    have hle6 := sizeN_le (ws.getD a 0)
    clear hm
    generalize ws.getD a 0 % 16 = K at *
    generalize sizeN (ws.getD a 0) = n at *
    generalize sizeZ (ws.getD a 0) = sz at *
    obtain ⟨nf, rfl⟩ : ∃ nf, n = nf + 1 := ⟨n - 1, by omega⟩
    rw [Nat.add_sub_cancel] at HFi HA
    have HNF : Hid (nf ≤ 5) := by show _ ≤ _; omega
    clear hle6
    have hold : oldI h a = (!inZ h a || decide (h.scan ≤ (a : Int) ∧ (a : Int) < h.bottom)) := rfl
    generalize oldI h a = old at *
    generalize implAt ws S h a = R at *
    obtain ⟨g1, g2, g3, g4, g5, g6, g7, g8, g9⟩ := h
    unfold layV heapV at *
    dsimp only at *
    generalize hIn : inZ ⟨g1, g2, g3, g4, g5, g6, g7, g8, g9⟩ (a : Int) = used at *
    have HOld := hid hold
    clear hIn hold
    go_enter Try.func61, Try.ntmps61
    go_wp2_with fail
    have hO0 : OSt w b off gb N ws S (.slice (some ⟨b, off, none⟩) N cap) ⟨g1, g2, g3, g4, g5, g6, g7, g8, g9⟩ (.slice (some ⟨gb, 0, none⟩) N gcap) (w.alloc (.cells #[.slice (some ⟨b, off, none⟩) N cap, .int .i64 g1, .int .i64 g2, .int .i64 g3, .int .i64 g4, .int .i64 g5, .int .i64 g6, .int .i64 g7, .int .i64 g8, .int .i64 g9, .slice (some ⟨gb, 0, none⟩) N gcap] 58)) :=
      ⟨HSt.out.kept ((Below.refl _ _).alloc (Nat.le_refl _) _), LayBlk.new w (.slice (some ⟨b, off, none⟩) N cap) ⟨g1, g2, g3, g4, g5, g6, g7, g8, g9⟩ (.slice (some ⟨gb, 0, none⟩) N gcap), (Below.refl _ _).alloc (Nat.le_refl _) _⟩
    have HO0 := hid hO0
    clear hO0 HSt
    refine (HFi.out _ HO0.out.st).mono ?_
    rintro e W1 ⟨rfl, hb1⟩
    have HO1 := hid (HO0.out.keep hb1)
    clear hb1 HO0 HFi
    obtain ⟨c0, c1, c2, c3, c4, c5, c6, c7, c8, c9, c10⟩ := HO1.out.blk.cells
    dsimp only at c0 c1 c2 c3 c4 c5 c6 c7 c8 c9 c10
    go_wp2_with fail
    clear c0 c1 c2 c3 c4 c5 c6 c7 c8 c9 c10
    refine (HWi.out _).mono ?_
    rintro e W2 ⟨rfl, hb2⟩
    have HO2 := hid (HO1.out.keep hb2)
    clear hb2 HO1 HWi
    obtain ⟨c0, c1, c2, c3, c4, c5, c6, c7, c8, c9, c10⟩ := HO2.out.blk.cells
    dsimp only at c0 c1 c2 c3 c4 c5 c6 c7 c8 c9 c10
    go_wp2_with fail
    clear c0 c1 c2 c3 c4 c5 c6 c7 c8 c9 c10
    refine (HOb.out _ HO2.out.st).mono ?_
    rintro e W3 ⟨rfl, hb3⟩
    have HO3 := hid (HO2.out.keep hb3)
    clear hb3 HO2 HOb
    obtain ⟨c0, c1, c2, c3, c4, c5, c6, c7, c8, c9, c10⟩ := HO3.out.blk.cells
    dsimp only at c0 c1 c2 c3 c4 c5 c6 c7 c8 c9 c10
    have hln : 0 < nf := by omega
    have hnf5 : nf ≤ 5 := HNF.out
    cases used
    · have ho1 : old = true := by rw [HOld.out]; rfl
      subst ho1
      go_wp2_with fail
      clear c0 c1 c2 c3 c4 c5 c6 c7 c8 c9 c10
      refine fieldsLoop b off cap gb gcap N a nf (cap - (a + 1)) ws S ⟨g1, g2, g3, g4, g5, g6, g7, g8, g9⟩ true w W3 HO.out (by omega) hnf5 HO3.out _ _ _ _ _ _ _ _ _ _ _ _ _ _ _ _ _ _ _ _ _ _ _ _ _ _ _ _ _ _ _ _ _ _ _ _ _ _ _ _ _ _ _ _ _ _ _ _ _ _ _ _ _ _ _ _ _ _ _ _ _ _ _ _ _ _ _ _ _ _ _ _ _ _ _ _ _ _ _ _ _ _ _ _ _ _ _ _ _ _ _ _ _ _ _ _ _ ?_ ?_
      · intro tmps w' h1 h2 h3
        simp only [Exit.inBlock, Exit.then]
        exact bodyPost_ret (results_tmp (fn := Try.f61) rfl _ _ _) rfl ⟨by rw [h1, HA.out, h2], h3⟩
      · intro d4 d11 d80 d81 d82 d83 d84 d85 d86 d87 d88 d89 d90 d91 d92 d93 d94 d95 d96 d97 d98 d99 d100 w' hall hbl
        have HAll := hid hall
        have HBl := hid hbl
        clear hall hbl
        go_wp2_with fail
        go_ret
        exact ⟨by rw [HA.out, HAll.out]; rfl, HBl.out⟩
    · by_cases hq1 : g5 ≤ (a : Int)
      · by_cases hq2 : (a : Int) < g3
        · have ho1 : old = true := by rw [HOld.out, decide_eq_true ⟨hq1, hq2⟩]; rfl
          subst ho1
          go_wp2_with fail
          clear c0 c1 c2 c3 c4 c5 c6 c7 c8 c9 c10
          refine fieldsLoop b off cap gb gcap N a nf (cap - (a + 1)) ws S ⟨g1, g2, g3, g4, g5, g6, g7, g8, g9⟩ true w W3 HO.out (by omega) hnf5 HO3.out _ _ _ _ _ _ _ _ _ _ _ _ _ _ _ _ _ _ _ _ _ _ _ _ _ _ _ _ _ _ _ _ _ _ _ _ _ _ _ _ _ _ _ _ _ _ _ _ _ _ _ _ _ _ _ _ _ _ _ _ _ _ _ _ _ _ _ _ _ _ _ _ _ _ _ _ _ _ _ _ _ _ _ _ _ _ _ _ _ _ _ _ _ _ _ _ _ ?_ ?_
          · intro tmps w' h1 h2 h3
            simp only [Exit.inBlock, Exit.then]
            exact bodyPost_ret (results_tmp (fn := Try.f61) rfl _ _ _) rfl ⟨by rw [h1, HA.out, h2], h3⟩
          · intro d4 d11 d80 d81 d82 d83 d84 d85 d86 d87 d88 d89 d90 d91 d92 d93 d94 d95 d96 d97 d98 d99 d100 w' hall hbl
            have HAll := hid hall
            have HBl := hid hbl
            clear hall hbl
            go_wp2_with fail
            go_ret
            exact ⟨by rw [HA.out, HAll.out]; rfl, HBl.out⟩
        · have ho1 : old = false := by rw [HOld.out, decide_eq_false (fun e => hq2 e.2)]; rfl
          subst ho1
          have hd3 : decide ((a : Int) < g3) = false := decide_eq_false hq2
          go_wp2_with fail
          clear c0 c1 c2 c3 c4 c5 c6 c7 c8 c9 c10
          refine fieldsLoop b off cap gb gcap N a nf (cap - (a + 1)) ws S ⟨g1, g2, g3, g4, g5, g6, g7, g8, g9⟩ false w W3 HO.out (by omega) hnf5 HO3.out _ _ _ _ _ _ _ _ _ _ _ _ _ _ _ _ _ _ _ _ _ _ _ _ _ _ _ _ _ _ _ _ _ _ _ _ _ _ _ _ _ _ _ _ _ _ _ _ _ _ _ _ _ _ _ _ _ _ _ _ _ _ _ _ _ _ _ _ _ _ _ _ _ _ _ _ _ _ _ _ _ _ _ _ _ _ _ _ _ _ _ _ _ _ _ _ _ ?_ ?_
          · intro tmps w' h1 h2 h3
            simp only [Exit.inBlock, Exit.then]
            exact bodyPost_ret (results_tmp (fn := Try.f61) rfl _ _ _) rfl ⟨by rw [h1, HA.out, h2], h3⟩
          · intro d4 d11 d80 d81 d82 d83 d84 d85 d86 d87 d88 d89 d90 d91 d92 d93 d94 d95 d96 d97 d98 d99 d100 w' hall hbl
            have HAll := hid hall
            have HBl := hid hbl
            clear hall hbl
            go_wp2_with fail
            go_ret
            exact ⟨by rw [HA.out, HAll.out]; rfl, HBl.out⟩
      · have ho1 : old = false := by rw [HOld.out, decide_eq_false (fun e => hq1 e.1)]; rfl
        subst ho1
        go_wp2_with fail
        clear c0 c1 c2 c3 c4 c5 c6 c7 c8 c9 c10
        refine fieldsLoop b off cap gb gcap N a nf (cap - (a + 1)) ws S ⟨g1, g2, g3, g4, g5, g6, g7, g8, g9⟩ false w W3 HO.out (by omega) hnf5 HO3.out _ _ _ _ _ _ _ _ _ _ _ _ _ _ _ _ _ _ _ _ _ _ _ _ _ _ _ _ _ _ _ _ _ _ _ _ _ _ _ _ _ _ _ _ _ _ _ _ _ _ _ _ _ _ _ _ _ _ _ _ _ _ _ _ _ _ _ _ _ _ _ _ _ _ _ _ _ _ _ _ _ _ _ _ _ _ _ _ _ _ _ _ _ _ _ _ _ ?_ ?_
        · intro tmps w' h1 h2 h3
          simp only [Exit.inBlock, Exit.then]
          exact bodyPost_ret (results_tmp (fn := Try.f61) rfl _ _ _) rfl ⟨by rw [h1, HA.out, h2], h3⟩
        · intro d4 d11 d80 d81 d82 d83 d84 d85 d86 d87 d88 d89 d90 d91 d92 d93 d94 d95 d96 d97 d98 d99 d100 w' hall hbl
          have HAll := hid hall
          have HBl := hid hbl
          clear hall hbl
          go_wp2_with fail
          go_ret
          exact ⟨by rw [HA.out, HAll.out]; rfl, HBl.out⟩
end Go.Proofs.Ytebpgglegnljgaa
