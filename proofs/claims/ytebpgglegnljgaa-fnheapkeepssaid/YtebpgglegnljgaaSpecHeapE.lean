/- The specification's HeapOk where the numbers are in order. -/
import Derived.Test.YtebpgglegnljgaaSpecHeapL
namespace Go.Proofs.Ytebpgglegnljgaa
open Go.RowKit

theorem zeros_noted (ws : List Int) : Noted ws (List.replicate ws.length 0) := by
  refine ⟨by simp, fun a ha => absurd ?_ ha⟩
  simp only [List.getD, List.getElem?_replicate]
  split <;> rfl

theorem specLay_noted {ws S : List Int} {h : HpN} {N : Nat} (hN : ws.length = N) (ho : Ordered h N) (hs : specLay ws h = some S) : Noted ws S := by
  obtain ⟨o1, o2, o3, o4, o5, o6, o7, o8, o9, o10, o11, o12, o13⟩ := ho
  unfold specLay at hs
  cases h1 : lay ws h.to.toNat h.bottom.toNat (List.replicate ws.length 0) with
  | none =>
    rw [h1] at hs
    cases hs
  | some S1 =>
    rw [h1] at hs
    have n1 := lay_noted (by omega) (zeros_noted ws) h1
    dsimp only at hs
    cases h2 : lay ws h.top.toNat (h.to + h.size).toNat S1 with
    | none =>
      rw [h2] at hs
      cases hs
    | some S2 =>
      rw [h2] at hs
      have n2 := lay_noted (by omega) n1 h2
      dsimp only at hs
      split at hs
      · cases h3 : lay ws (h.size - h.to).toNat h.fb.toNat S2 with
        | none =>
          rw [h3] at hs
          cases hs
        | some S3 =>
          rw [h3] at hs
          have n3 := lay_noted (by omega) n2 h3
          exact lay_noted (by omega) n3 hs
      · cases hs
        exact n2

set_option maxHeartbeats 8000000 in
set_option maxRecDepth 1000000 in
theorem specOk_calls (b off cap N : Nat) (ws : List Int) (h : HpN) (w : World) (hN : ws.length = N) (ho : Ordered h N)
    (hb : b < w.heap.size) (hw : ∀ k, k < N → w.cell? ⟨b, off + k, none⟩ = some (.int .i64 (ws.getD k 0))) :
    Calls Try.prog 35 #[heapV (.slice (some ⟨b, off, none⟩) N cap) h] w fun e w' => e = .returned (.bool (specOk ws h)) ∧ Below w.heap.size w w' := by
  have HO := hid ho
  have HW := hid hw
  have hR : specOk ws h = match specLay ws h with
    | none => false
    | some S => !(decide (h.scan < h.bottom) && S.getD h.scan.toNat 0 == 0) && specObjs ws S h N := by rw [← hN]; rfl
  have HR := hid hR
  generalize specOk ws h = R at *
  have HG := hid (fun (w : World) hb hw => specBegins_calls b off cap N ws h w hN ho hb hw)
  have HLen := hid hN
  obtain ⟨o1, o2, o3, o4, o5, o6, o7, o8, o9, o10, o11, o12, o13⟩ := ho
  obtain ⟨g1, g2, g3, g4, g5, g6, g7, g8, g9⟩ := h
  unfold heapV at *
  dsimp only at *
  clear hw hR hN
  rcases o4 with rfl | hto
  · simp only [Int.zero_add, Int.sub_zero] at o10 o11 o13
    have O7 := hid o7
    have O8 := hid o8
    have O9 := hid o9
    have O10 := hid o10
    have O11 := hid o11
    have O12 := hid o12
    have O13 := hid o13
    clear o7 o8 o9 o10 o11 o12 o13
    go_enter Try.func35, Try.ntmps35
    go_wp2_with fail
    refine (specFrom_calls _ ⟨_, _, g3, g4, g5, g6, g7, g8, g9⟩ _ (by dsimp only; omega) (by dsimp only; omega) (by dsimp only; omega) (by dsimp only; omega)).mono ?_
    rintro e W1 ⟨rfl, hb1⟩
    obtain ⟨eA, hbw⟩ := one_kept hb1
    obtain ⟨c0, c1, c2, c3, c4, c5, c6, c7, c8, c9⟩ := HeapBlk.cells (h := ⟨_, _, g3, g4, g5, g6, g7, g8, g9⟩) eA
    dsimp only at c0 c1 c2 c3 c4 c5 c6 c7 c8 c9
    have HBW := hid hbw
    have HK := hid (show HeapBlk W1 w.heap.size _ ⟨g1, 0, g3, g4, g5, g6, g7, g8, g9⟩ from eA)
    clear hb1 hbw eA o3 o5 o6
    have o7 := O7.out
    have o8 := O8.out
    have o9 := O9.out
    have o10 := O10.out
    have o11 := O11.out
    have o12 := O12.out
    have o13 := O13.out
    go_wp2_with fail
    clear o7 o8 o9 o10 o11 o12 o13
    refine (HG.out _ (Nat.lt_of_lt_of_le hb HBW.out.size) (fun k hk => (HBW.out.cell (p := ⟨b, off + k, none⟩) hb).trans (HW.out k hk))).mono ?_
    rintro e W2 ⟨⟨gb, gcap, ok, rfl, hlow, hgl, hres⟩, hb2⟩
    obtain ⟨d0, d1, d2, d3, d4, d5, d6, d7, d8, d9⟩ := HeapBlk.cells (h := ⟨g1, 0, g3, g4, g5, g6, g7, g8, g9⟩) (HeapBlk.below HK.out hb2)
    dsimp only at d0 d1 d2 d3 d4 d5 d6 d7 d8 d9
    clear c0 c1 c2 c3 c4 c5 c6 c7 c8 c9
    rcases hres with ⟨hn, rfl⟩ | ⟨S, hS, rfl, hSl, hSr⟩
    · have HBW2 := hid (HBW.out.trans (hb2.mono HBW.out.size))
      have HX : Hid (R = false) := HR.out.trans (by rw [hn])
      clear hb2
      go_wp2_with fail
      go_ret
      exact ⟨by rw [HX.out]; rfl, HBW2.out⟩
    · have HX : Hid (R = (!(decide (g5 < g3) && S.getD g5.toNat 0 == 0) && specObjs ws S ⟨g1, 0, g3, g4, g5, g6, g7, g8, g9⟩ N)) := HR.out.trans (by rw [hS])
      have HB : Hid (BSt w b off w.heap.size gb N ws (.slice (some ⟨b, off, none⟩) N cap) ⟨g1, 0, g3, g4, g5, g6, g7, g8, g9⟩ S W2) :=
        ⟨Nat.lt_of_lt_of_le hb (HBW.out.trans (hb2.mono HBW.out.size)).size, fun k hk => ((HBW.out.trans (hb2.mono HBW.out.size)).cell (p := ⟨b, off + k, none⟩) hb).trans (HW.out k hk), HeapBlk.below HK.out hb2, hSl, hSr, by have := HBW.out.size; omega, by have := heap_lt HK.out; omega, by have := HBW.out.size; omega, HBW.out.trans (hb2.mono HBW.out.size)⟩
      have HSome := hid hS
      clear HBW HK HW HR HG hb2 hS hSl hSr hlow hgl
      by_cases hsc : g5 < g3
      · obtain ⟨sc, hsc5⟩ := Int.eq_ofNat_of_zero_le (show 0 ≤ g5 by have := O7.out; omega)
        have hscN : sc < N := by obtain ⟨o1, o2, o3, o4, o5, o6, o7, o8, o9, o10, o11, o12, o13⟩ := HO.out; dsimp only at *; omega
        have q0 := HB.out.row.cell (i := sc) hscN
        unfold boolCells at q0
        rw [hsc5, Int.toNat_natCast, ← hsc5, decide_eq_true hsc, Bool.true_and] at HX
        subst hsc5
        cases hz : (S.getD sc 0 != 0)
        · rw [hz] at q0
          have hz0 : (S.getD sc 0 == 0) = true := by simpa using hz
          rw [hz0] at HX
          go_wp2_with fail
          go_ret
          exact ⟨by rw [HX.out]; rfl, HB.out.below⟩
        · rw [hz] at q0
          have hz0 : (S.getD sc 0 == 0) = false := by simpa using hz
          rw [hz0] at HX
          clear hz0 hz
          go_wp2_with fail
          refine specLoop b off cap gb gcap w.heap.size N ws S ⟨g1, 0, g3, g4, (sc : Int), g6, g7, g8, g9⟩ w W2 HLen.out HO.out (specLay_noted HLen.out HO.out HSome.out) HB.out _ ?_ ?_ _ _ _ _ _ _ _ _ _ _ _ _ _ _ _ _ _ _ _ _ _ _ _ _ _ _ _ _ _ _ _ _ _ _ _ _ _ _ _ _ _ _ _ _ _ _ _ _ _ _ _ _ _ _ _ _ _ _ _ _ _ _ _ _ _ _ _ _ _ _ _ _ _ _ _ _ _ _ _ _ _ _ _ _ _ _ _ _ _ _ _ _ _ _ _ _ _ _ _ _ _ _ _ _ _ _ _ _ _ _ _ _ _ _ _ _ _ _ _ _ _ _ _ _ _ _ _ _ _ _ _ _ _ _ _ _ _ _ _ _ _ _ _ _ _ _ _ _ _ _ _ _ _ _ _ _ _ _ _ _ _ _ _ _ _ _ _ _ _ _ _ _ _ _ _ _ _ _ _ _ _ _ _ _ _ _ _ _ _ _ _ _ _ _ _ _ _ _ _ _ _ _ _ _ _ _ _ _ _ _ _ _ _ _ _ _ _ _ _ _ _ _ _ _ _ _ _ _ _ _ _ _ _ _ _ _ _ _
          · intro tmps w' h1 h2 h3
            simp only [Exit.inBlock, Exit.then]
            exact bodyPost_ret (results_tmp (fn := Try.f35) rfl _ _ _) rfl ⟨by rw [h1, HX.out, h2]; simp, h3⟩
          · intro d0 d1 d2 d3 d4 d5 d6 d7 d8 d9 d10 d11 d12 d13 d14 d15 d16 d17 d18 d19 d20 d21 d22 d23 d24 d25 d26 d27 d28 d29 d30 d31 d32 d33 d34 d35 d36 d37 d38 d39 d40 d41 d42 d43 d44 d45 d46 d47 d48 d49 d50 d51 d52 d53 d54 d55 d56 d57 d58 d59 d60 d61 d62 d63 d64 d65 d66 d67 d68 d69 d70 d71 d72 d73 d74 d75 d76 d77 d78 d79 d80 d81 d82 d83 d84 d85 d86 d87 d88 d89 d90 d91 d92 d93 d94 d95 d96 d97 d98 d99 d100 d101 d102 d103 d104 d105 d106 d107 d108 d109 d110 d111 d112 d113 d114 d115 d116 d117 d118 d119 d120 d121 d122 d123 d124 d125 d126 d127 d128 d129 d130 d131 d132 d133 d134 d135 d136 d137 d138 d139 d140 d141 d142 d143 d144 d145 d146 d147 d148 d149 d150 d151 d152 d153 d154 d155 d156 d157 d158 d159 d160 d161 d162 d163 d164 d165 d166 d167 d168 d169 d170 d171 d172 d173 d174 d175 d176 d177 d178 d179 d180 d181 d182 d183 d184 d185 d186 d187 d188 d189 d190 d191 d192 d193 d194 d195 d196 d197 d198 d199 d200 d201 d202 d203 d204 d205 d206 d207 d208 d209 d210 d211 d212 d213 d214 d215 d216 d217 d218 d219 d220 d221 d222 d223 d224 d225 d226 d227 d228 d229 d230 d231 d232 d233 d234 d235 d236 d237 d238 d239 d240 w' hall hbl
            have HAll := hid hall
            have HBl := hid hbl
            clear hall hbl
            go_wp2_with fail
            go_ret
            exact ⟨by rw [HX.out, HAll.out]; simp, HBl.out⟩
      · rw [decide_eq_false hsc, Bool.false_and] at HX
        go_wp2_with fail
        refine specLoop b off cap gb gcap w.heap.size N ws S ⟨g1, 0, g3, g4, g5, g6, g7, g8, g9⟩ w W2 HLen.out HO.out (specLay_noted HLen.out HO.out HSome.out) HB.out _ ?_ ?_ _ _ _ _ _ _ _ _ _ _ _ _ _ _ _ _ _ _ _ _ _ _ _ _ _ _ _ _ _ _ _ _ _ _ _ _ _ _ _ _ _ _ _ _ _ _ _ _ _ _ _ _ _ _ _ _ _ _ _ _ _ _ _ _ _ _ _ _ _ _ _ _ _ _ _ _ _ _ _ _ _ _ _ _ _ _ _ _ _ _ _ _ _ _ _ _ _ _ _ _ _ _ _ _ _ _ _ _ _ _ _ _ _ _ _ _ _ _ _ _ _ _ _ _ _ _ _ _ _ _ _ _ _ _ _ _ _ _ _ _ _ _ _ _ _ _ _ _ _ _ _ _ _ _ _ _ _ _ _ _ _ _ _ _ _ _ _ _ _ _ _ _ _ _ _ _ _ _ _ _ _ _ _ _ _ _ _ _ _ _ _ _ _ _ _ _ _ _ _ _ _ _ _ _ _ _ _ _ _ _ _ _ _ _ _ _ _ _ _ _ _ _ _ _ _ _ _ _ _ _ _ _ _ _ _ _ _ _
        · intro tmps w' h1 h2 h3
          simp only [Exit.inBlock, Exit.then]
          exact bodyPost_ret (results_tmp (fn := Try.f35) rfl _ _ _) rfl ⟨by rw [h1, HX.out, h2]; simp, h3⟩
        · intro d0 d1 d2 d3 d4 d5 d6 d7 d8 d9 d10 d11 d12 d13 d14 d15 d16 d17 d18 d19 d20 d21 d22 d23 d24 d25 d26 d27 d28 d29 d30 d31 d32 d33 d34 d35 d36 d37 d38 d39 d40 d41 d42 d43 d44 d45 d46 d47 d48 d49 d50 d51 d52 d53 d54 d55 d56 d57 d58 d59 d60 d61 d62 d63 d64 d65 d66 d67 d68 d69 d70 d71 d72 d73 d74 d75 d76 d77 d78 d79 d80 d81 d82 d83 d84 d85 d86 d87 d88 d89 d90 d91 d92 d93 d94 d95 d96 d97 d98 d99 d100 d101 d102 d103 d104 d105 d106 d107 d108 d109 d110 d111 d112 d113 d114 d115 d116 d117 d118 d119 d120 d121 d122 d123 d124 d125 d126 d127 d128 d129 d130 d131 d132 d133 d134 d135 d136 d137 d138 d139 d140 d141 d142 d143 d144 d145 d146 d147 d148 d149 d150 d151 d152 d153 d154 d155 d156 d157 d158 d159 d160 d161 d162 d163 d164 d165 d166 d167 d168 d169 d170 d171 d172 d173 d174 d175 d176 d177 d178 d179 d180 d181 d182 d183 d184 d185 d186 d187 d188 d189 d190 d191 d192 d193 d194 d195 d196 d197 d198 d199 d200 d201 d202 d203 d204 d205 d206 d207 d208 d209 d210 d211 d212 d213 d214 d215 d216 d217 d218 d219 d220 d221 d222 d223 d224 d225 d226 d227 d228 d229 d230 d231 d232 d233 d234 d235 d236 d237 d238 d239 d240 w' hall hbl
          have HAll := hid hall
          have HBl := hid hbl
          clear hall hbl
          go_wp2_with fail
          go_ret
          exact ⟨by rw [HX.out, HAll.out]; simp, HBl.out⟩
  · have hto := hto.symm
    subst hto
    simp only [Int.sub_self, Int.zero_add] at o11 o13
    have O7 := hid o7
    have O8 := hid o8
    have O9 := hid o9
    have O10 := hid o10
    have O11 := hid o11
    have O12 := hid o12
    have O13 := hid o13
    clear o7 o8 o9 o10 o11 o12 o13
    go_enter Try.func35, Try.ntmps35
    go_wp2_with fail
    refine (specFrom_calls _ ⟨_, _, g3, g4, g5, g6, g7, g8, g9⟩ _ (by dsimp only; omega) (by dsimp only; omega) (by dsimp only; omega) (by dsimp only; omega)).mono ?_
    rintro e W1 ⟨rfl, hb1⟩
    obtain ⟨eA, hbw⟩ := one_kept hb1
    obtain ⟨c0, c1, c2, c3, c4, c5, c6, c7, c8, c9⟩ := HeapBlk.cells (h := ⟨_, _, g3, g4, g5, g6, g7, g8, g9⟩) eA
    dsimp only at c0 c1 c2 c3 c4 c5 c6 c7 c8 c9
    have HBW := hid hbw
    have HK := hid (show HeapBlk W1 w.heap.size _ ⟨g1, g1, g3, g4, g5, g6, g7, g8, g9⟩ from eA)
    clear hb1 hbw eA o3 o5 o6
    have o7 := O7.out
    have o8 := O8.out
    have o9 := O9.out
    have o10 := O10.out
    have o11 := O11.out
    have o12 := O12.out
    have o13 := O13.out
    go_wp2_with fail
    clear o7 o8 o9 o10 o11 o12 o13
    refine (HG.out _ (Nat.lt_of_lt_of_le hb HBW.out.size) (fun k hk => (HBW.out.cell (p := ⟨b, off + k, none⟩) hb).trans (HW.out k hk))).mono ?_
    rintro e W2 ⟨⟨gb, gcap, ok, rfl, hlow, hgl, hres⟩, hb2⟩
    obtain ⟨d0, d1, d2, d3, d4, d5, d6, d7, d8, d9⟩ := HeapBlk.cells (h := ⟨g1, g1, g3, g4, g5, g6, g7, g8, g9⟩) (HeapBlk.below HK.out hb2)
    dsimp only at d0 d1 d2 d3 d4 d5 d6 d7 d8 d9
    clear c0 c1 c2 c3 c4 c5 c6 c7 c8 c9
    rcases hres with ⟨hn, rfl⟩ | ⟨S, hS, rfl, hSl, hSr⟩
    · have HBW2 := hid (HBW.out.trans (hb2.mono HBW.out.size))
      have HX : Hid (R = false) := HR.out.trans (by rw [hn])
      clear hb2
      go_wp2_with fail
      go_ret
      exact ⟨by rw [HX.out]; rfl, HBW2.out⟩
    · have HX : Hid (R = (!(decide (g5 < g3) && S.getD g5.toNat 0 == 0) && specObjs ws S ⟨g1, g1, g3, g4, g5, g6, g7, g8, g9⟩ N)) := HR.out.trans (by rw [hS])
      have HB : Hid (BSt w b off w.heap.size gb N ws (.slice (some ⟨b, off, none⟩) N cap) ⟨g1, g1, g3, g4, g5, g6, g7, g8, g9⟩ S W2) :=
        ⟨Nat.lt_of_lt_of_le hb (HBW.out.trans (hb2.mono HBW.out.size)).size, fun k hk => ((HBW.out.trans (hb2.mono HBW.out.size)).cell (p := ⟨b, off + k, none⟩) hb).trans (HW.out k hk), HeapBlk.below HK.out hb2, hSl, hSr, by have := HBW.out.size; omega, by have := heap_lt HK.out; omega, by have := HBW.out.size; omega, HBW.out.trans (hb2.mono HBW.out.size)⟩
      have HSome := hid hS
      clear HBW HK HW HR HG hb2 hS hSl hSr hlow hgl
      by_cases hsc : g5 < g3
      · obtain ⟨sc, hsc5⟩ := Int.eq_ofNat_of_zero_le (show 0 ≤ g5 by have := O7.out; omega)
        have hscN : sc < N := by obtain ⟨o1, o2, o3, o4, o5, o6, o7, o8, o9, o10, o11, o12, o13⟩ := HO.out; dsimp only at *; omega
        have q0 := HB.out.row.cell (i := sc) hscN
        unfold boolCells at q0
        rw [hsc5, Int.toNat_natCast, ← hsc5, decide_eq_true hsc, Bool.true_and] at HX
        subst hsc5
        cases hz : (S.getD sc 0 != 0)
        · rw [hz] at q0
          have hz0 : (S.getD sc 0 == 0) = true := by simpa using hz
          rw [hz0] at HX
          go_wp2_with fail
          go_ret
          exact ⟨by rw [HX.out]; rfl, HB.out.below⟩
        · rw [hz] at q0
          have hz0 : (S.getD sc 0 == 0) = false := by simpa using hz
          rw [hz0] at HX
          clear hz0 hz
          go_wp2_with fail
          refine specLoop b off cap gb gcap w.heap.size N ws S ⟨g1, g1, g3, g4, (sc : Int), g6, g7, g8, g9⟩ w W2 HLen.out HO.out (specLay_noted HLen.out HO.out HSome.out) HB.out _ ?_ ?_ _ _ _ _ _ _ _ _ _ _ _ _ _ _ _ _ _ _ _ _ _ _ _ _ _ _ _ _ _ _ _ _ _ _ _ _ _ _ _ _ _ _ _ _ _ _ _ _ _ _ _ _ _ _ _ _ _ _ _ _ _ _ _ _ _ _ _ _ _ _ _ _ _ _ _ _ _ _ _ _ _ _ _ _ _ _ _ _ _ _ _ _ _ _ _ _ _ _ _ _ _ _ _ _ _ _ _ _ _ _ _ _ _ _ _ _ _ _ _ _ _ _ _ _ _ _ _ _ _ _ _ _ _ _ _ _ _ _ _ _ _ _ _ _ _ _ _ _ _ _ _ _ _ _ _ _ _ _ _ _ _ _ _ _ _ _ _ _ _ _ _ _ _ _ _ _ _ _ _ _ _ _ _ _ _ _ _ _ _ _ _ _ _ _ _ _ _ _ _ _ _ _ _ _ _ _ _ _ _ _ _ _ _ _ _ _ _ _ _ _ _ _ _ _ _ _ _ _ _ _ _ _ _ _ _ _ _ _
          · intro tmps w' h1 h2 h3
            simp only [Exit.inBlock, Exit.then]
            exact bodyPost_ret (results_tmp (fn := Try.f35) rfl _ _ _) rfl ⟨by rw [h1, HX.out, h2]; simp, h3⟩
          · intro d0 d1 d2 d3 d4 d5 d6 d7 d8 d9 d10 d11 d12 d13 d14 d15 d16 d17 d18 d19 d20 d21 d22 d23 d24 d25 d26 d27 d28 d29 d30 d31 d32 d33 d34 d35 d36 d37 d38 d39 d40 d41 d42 d43 d44 d45 d46 d47 d48 d49 d50 d51 d52 d53 d54 d55 d56 d57 d58 d59 d60 d61 d62 d63 d64 d65 d66 d67 d68 d69 d70 d71 d72 d73 d74 d75 d76 d77 d78 d79 d80 d81 d82 d83 d84 d85 d86 d87 d88 d89 d90 d91 d92 d93 d94 d95 d96 d97 d98 d99 d100 d101 d102 d103 d104 d105 d106 d107 d108 d109 d110 d111 d112 d113 d114 d115 d116 d117 d118 d119 d120 d121 d122 d123 d124 d125 d126 d127 d128 d129 d130 d131 d132 d133 d134 d135 d136 d137 d138 d139 d140 d141 d142 d143 d144 d145 d146 d147 d148 d149 d150 d151 d152 d153 d154 d155 d156 d157 d158 d159 d160 d161 d162 d163 d164 d165 d166 d167 d168 d169 d170 d171 d172 d173 d174 d175 d176 d177 d178 d179 d180 d181 d182 d183 d184 d185 d186 d187 d188 d189 d190 d191 d192 d193 d194 d195 d196 d197 d198 d199 d200 d201 d202 d203 d204 d205 d206 d207 d208 d209 d210 d211 d212 d213 d214 d215 d216 d217 d218 d219 d220 d221 d222 d223 d224 d225 d226 d227 d228 d229 d230 d231 d232 d233 d234 d235 d236 d237 d238 d239 d240 w' hall hbl
            have HAll := hid hall
            have HBl := hid hbl
            clear hall hbl
            go_wp2_with fail
            go_ret
            exact ⟨by rw [HX.out, HAll.out]; simp, HBl.out⟩
      · rw [decide_eq_false hsc, Bool.false_and] at HX
        go_wp2_with fail
        refine specLoop b off cap gb gcap w.heap.size N ws S ⟨g1, g1, g3, g4, g5, g6, g7, g8, g9⟩ w W2 HLen.out HO.out (specLay_noted HLen.out HO.out HSome.out) HB.out _ ?_ ?_ _ _ _ _ _ _ _ _ _ _ _ _ _ _ _ _ _ _ _ _ _ _ _ _ _ _ _ _ _ _ _ _ _ _ _ _ _ _ _ _ _ _ _ _ _ _ _ _ _ _ _ _ _ _ _ _ _ _ _ _ _ _ _ _ _ _ _ _ _ _ _ _ _ _ _ _ _ _ _ _ _ _ _ _ _ _ _ _ _ _ _ _ _ _ _ _ _ _ _ _ _ _ _ _ _ _ _ _ _ _ _ _ _ _ _ _ _ _ _ _ _ _ _ _ _ _ _ _ _ _ _ _ _ _ _ _ _ _ _ _ _ _ _ _ _ _ _ _ _ _ _ _ _ _ _ _ _ _ _ _ _ _ _ _ _ _ _ _ _ _ _ _ _ _ _ _ _ _ _ _ _ _ _ _ _ _ _ _ _ _ _ _ _ _ _ _ _ _ _ _ _ _ _ _ _ _ _ _ _ _ _ _ _ _ _ _ _ _ _ _ _ _ _ _ _ _ _ _ _ _ _ _ _ _ _ _ _ _
        · intro tmps w' h1 h2 h3
          simp only [Exit.inBlock, Exit.then]
          exact bodyPost_ret (results_tmp (fn := Try.f35) rfl _ _ _) rfl ⟨by rw [h1, HX.out, h2]; simp, h3⟩
        · intro d0 d1 d2 d3 d4 d5 d6 d7 d8 d9 d10 d11 d12 d13 d14 d15 d16 d17 d18 d19 d20 d21 d22 d23 d24 d25 d26 d27 d28 d29 d30 d31 d32 d33 d34 d35 d36 d37 d38 d39 d40 d41 d42 d43 d44 d45 d46 d47 d48 d49 d50 d51 d52 d53 d54 d55 d56 d57 d58 d59 d60 d61 d62 d63 d64 d65 d66 d67 d68 d69 d70 d71 d72 d73 d74 d75 d76 d77 d78 d79 d80 d81 d82 d83 d84 d85 d86 d87 d88 d89 d90 d91 d92 d93 d94 d95 d96 d97 d98 d99 d100 d101 d102 d103 d104 d105 d106 d107 d108 d109 d110 d111 d112 d113 d114 d115 d116 d117 d118 d119 d120 d121 d122 d123 d124 d125 d126 d127 d128 d129 d130 d131 d132 d133 d134 d135 d136 d137 d138 d139 d140 d141 d142 d143 d144 d145 d146 d147 d148 d149 d150 d151 d152 d153 d154 d155 d156 d157 d158 d159 d160 d161 d162 d163 d164 d165 d166 d167 d168 d169 d170 d171 d172 d173 d174 d175 d176 d177 d178 d179 d180 d181 d182 d183 d184 d185 d186 d187 d188 d189 d190 d191 d192 d193 d194 d195 d196 d197 d198 d199 d200 d201 d202 d203 d204 d205 d206 d207 d208 d209 d210 d211 d212 d213 d214 d215 d216 d217 d218 d219 d220 d221 d222 d223 d224 d225 d226 d227 d228 d229 d230 d231 d232 d233 d234 d235 d236 d237 d238 d239 d240 w' hall hbl
          have HAll := hid hall
          have HBl := hid hbl
          clear hall hbl
          go_wp2_with fail
          go_ret
          exact ⟨by rw [HX.out, HAll.out]; simp, HBl.out⟩
end Go.Proofs.Ytebpgglegnljgaa
