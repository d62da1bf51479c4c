/- The specification's loop over all objects of a heap. -/
import Derived.Test.YtebpgglegnljgaaSpecHeapI
namespace Go.Proofs.Ytebpgglegnljgaa
open Go.RowKit

theorem objs_true {ws S : List Int} {h : HpN} {N : Nat} (H : ∀ k, k < N → S.getD k 0 = 0 ∨ specAt ws S h k = true) : specObjs ws S h N = true := by
  unfold specObjs
  rw [List.all_eq_true]
  intro k hk
  rcases H k (List.mem_range.1 hk) with e | e
  · rw [e]
    rfl
  · simp [e]

theorem objs_false {ws S : List Int} {h : HpN} {N a : Nat} (ha : a < N) (h0 : S.getD a 0 ≠ 0) (hf : specAt ws S h a = false) : specObjs ws S h N = false := by
  unfold specObjs
  rw [List.all_eq_false]
  exact ⟨a, List.mem_range.2 ha, by simp [hf]; simpa using h0⟩

set_option maxHeartbeats 4000000 in
set_option maxRecDepth 1000000 in
theorem specLoop (b off cap gb gcap bH N : Nat) (ws S : List Int) (h : HpN) (w W : World) (hN : ws.length = N) (ho : Ordered h N) (hS : Noted ws S) (hB : BSt w b off bH gb N ws (.slice (some ⟨b, off, none⟩) N cap) h S W)
    (Q0 : Exit → Act → World → Prop)
    (hret : ∀ (tmps : Array Value) (w' : World), tmps.getD 2 undef = .bool false → specObjs ws S h N = false → Below w.heap.size w w' → Q0 .ret ⟨tmps, []⟩ w')
    (hexit : ∀ (d0 d1 d2 d3 d4 d5 d6 d7 d8 d9 d10 d11 d12 d13 d14 d15 d16 d17 d18 d19 d20 d21 d22 d23 d24 d25 d26 d27 d28 d29 d30 d31 d32 d33 d34 d35 d36 d37 d38 d39 d40 d41 d42 d43 d44 d45 d46 d47 d48 d49 d50 d51 d52 d53 d54 d55 d56 d57 d58 d59 d60 d61 d62 d63 d64 d65 d66 d67 d68 d69 d70 d71 d72 d73 d74 d75 d76 d77 d78 d79 d80 d81 d82 d83 d84 d85 d86 d87 d88 d89 d90 d91 d92 d93 d94 d95 d96 d97 d98 d99 d100 d101 d102 d103 d104 d105 d106 d107 d108 d109 d110 d111 d112 d113 d114 d115 d116 d117 d118 d119 d120 d121 d122 d123 d124 d125 d126 d127 d128 d129 d130 d131 d132 d133 d134 d135 d136 d137 d138 d139 d140 d141 d142 d143 d144 d145 d146 d147 d148 d149 d150 d151 d152 d153 d154 d155 d156 d157 d158 d159 d160 d161 d162 d163 d164 d165 d166 d167 d168 d169 d170 d171 d172 d173 d174 d175 d176 d177 d178 d179 d180 d181 d182 d183 d184 d185 d186 d187 d188 d189 d190 d191 d192 d193 d194 d195 d196 d197 d198 d199 d200 d201 d202 d203 d204 d205 d206 d207 d208 d209 d210 d211 d212 d213 d214 d215 d216 d217 d218 d219 d220 d221 d222 d223 d224 d225 d226 d227 d228 d229 d230 d231 d232 d233 d234 d235 d236 d237 d238 d239 d240 : Value) (w' : World), specObjs ws S h N = true → Below w.heap.size w w' → Q0 (.exit 0) ⟨(List.toArray (d0 :: d1 :: d2 :: d3 :: d4 :: d5 :: d6 :: d7 :: d8 :: d9 :: d10 :: d11 :: d12 :: d13 :: d14 :: d15 :: d16 :: d17 :: d18 :: d19 :: d20 :: d21 :: d22 :: d23 :: d24 :: d25 :: d26 :: d27 :: d28 :: d29 :: d30 :: d31 :: d32 :: d33 :: d34 :: d35 :: d36 :: d37 :: d38 :: d39 :: d40 :: d41 :: d42 :: d43 :: d44 :: d45 :: d46 :: d47 :: d48 :: d49 :: d50 :: d51 :: d52 :: d53 :: d54 :: d55 :: d56 :: d57 :: d58 :: d59 :: d60 :: d61 :: d62 :: d63 :: d64 :: d65 :: d66 :: d67 :: d68 :: d69 :: d70 :: d71 :: d72 :: d73 :: d74 :: d75 :: d76 :: d77 :: d78 :: d79 :: d80 :: d81 :: d82 :: d83 :: d84 :: d85 :: d86 :: d87 :: d88 :: d89 :: d90 :: d91 :: d92 :: d93 :: d94 :: d95 :: d96 :: d97 :: d98 :: d99 :: d100 :: d101 :: d102 :: d103 :: d104 :: d105 :: d106 :: d107 :: d108 :: d109 :: d110 :: d111 :: d112 :: d113 :: d114 :: d115 :: d116 :: d117 :: d118 :: d119 :: d120 :: d121 :: d122 :: d123 :: d124 :: d125 :: d126 :: d127 :: d128 :: d129 :: d130 :: d131 :: d132 :: d133 :: d134 :: d135 :: d136 :: d137 :: d138 :: d139 :: d140 :: d141 :: d142 :: d143 :: d144 :: d145 :: d146 :: d147 :: d148 :: d149 :: d150 :: d151 :: d152 :: d153 :: d154 :: d155 :: d156 :: d157 :: d158 :: d159 :: d160 :: d161 :: d162 :: d163 :: d164 :: d165 :: d166 :: d167 :: d168 :: d169 :: d170 :: d171 :: d172 :: d173 :: d174 :: d175 :: d176 :: d177 :: d178 :: d179 :: d180 :: d181 :: d182 :: d183 :: d184 :: d185 :: d186 :: d187 :: d188 :: d189 :: d190 :: d191 :: d192 :: d193 :: d194 :: d195 :: d196 :: d197 :: d198 :: d199 :: d200 :: d201 :: d202 :: d203 :: d204 :: d205 :: d206 :: d207 :: d208 :: d209 :: d210 :: d211 :: d212 :: d213 :: d214 :: d215 :: d216 :: d217 :: d218 :: d219 :: d220 :: d221 :: d222 :: d223 :: d224 :: d225 :: d226 :: d227 :: d228 :: d229 :: d230 :: d231 :: d232 :: d233 :: d234 :: d235 :: d236 :: d237 :: d238 :: d239 :: d240 :: [])), []⟩ w')
    (c0 c2 c3 c5 c7 c8 c9 c10 c11 c12 c13 c14 c15 c16 c17 c18 c19 c20 c21 c22 c23 c24 c25 c26 c27 c28 c29 c30 c31 c32 c33 c34 c35 c36 c37 c38 c39 c40 c41 c42 c43 c44 c45 c46 c47 c48 c49 c50 c51 c52 c53 c54 c55 c56 c57 c58 c59 c60 c61 c62 c63 c64 c65 c66 c67 c68 c69 c70 c71 c72 c73 c74 c75 c76 c77 c78 c79 c80 c81 c82 c83 c84 c85 c86 c87 c88 c89 c90 c91 c92 c93 c94 c95 c96 c97 c98 c99 c100 c101 c102 c103 c104 c105 c106 c107 c108 c109 c110 c111 c112 c113 c114 c115 c116 c117 c118 c119 c120 c121 c122 c123 c124 c125 c126 c127 c128 c129 c130 c131 c132 c133 c134 c135 c136 c137 c138 c139 c140 c141 c142 c143 c144 c145 c146 c147 c148 c149 c150 c151 c152 c153 c154 c155 c156 c157 c158 c159 c160 c161 c162 c163 c164 c165 c166 c167 c168 c169 c170 c171 c172 c173 c174 c175 c176 c177 c178 c179 c180 c181 c182 c183 c184 c185 c186 c187 c188 c189 c190 c191 c192 c193 c194 c195 c196 c197 c198 c199 c200 c201 c202 c203 c204 c205 c206 c207 c208 c209 c210 c211 c212 c213 c214 c215 c216 c217 c218 c219 c220 c221 c222 c223 c224 c225 c226 c227 c228 c229 c230 c231 c232 c233 c234 c235 c236 c237 c238 c239 c240 : Value) : Code.wp Try.prog (Code.loop specBody) Q0 ⟨(List.toArray (c0 :: .pointer (some ⟨bH, 0, none⟩) :: c2 :: c3 :: .slice (some ⟨gb, 0, none⟩) N gcap :: c5 :: .int .i64 0 :: c7 :: c8 :: c9 :: c10 :: c11 :: c12 :: c13 :: c14 :: c15 :: c16 :: c17 :: c18 :: c19 :: c20 :: c21 :: c22 :: c23 :: c24 :: c25 :: c26 :: c27 :: c28 :: c29 :: c30 :: c31 :: c32 :: c33 :: c34 :: c35 :: c36 :: c37 :: c38 :: c39 :: c40 :: c41 :: c42 :: c43 :: c44 :: c45 :: c46 :: c47 :: c48 :: c49 :: c50 :: c51 :: c52 :: c53 :: c54 :: c55 :: c56 :: c57 :: c58 :: c59 :: c60 :: c61 :: c62 :: c63 :: c64 :: c65 :: c66 :: c67 :: c68 :: c69 :: c70 :: c71 :: c72 :: c73 :: c74 :: c75 :: c76 :: c77 :: c78 :: c79 :: c80 :: c81 :: c82 :: c83 :: c84 :: c85 :: c86 :: c87 :: c88 :: c89 :: c90 :: c91 :: c92 :: c93 :: c94 :: c95 :: c96 :: c97 :: c98 :: c99 :: c100 :: c101 :: c102 :: c103 :: c104 :: c105 :: c106 :: c107 :: c108 :: c109 :: c110 :: c111 :: c112 :: c113 :: c114 :: c115 :: c116 :: c117 :: c118 :: c119 :: c120 :: c121 :: c122 :: c123 :: c124 :: c125 :: c126 :: c127 :: c128 :: c129 :: c130 :: c131 :: c132 :: c133 :: c134 :: c135 :: c136 :: c137 :: c138 :: c139 :: c140 :: c141 :: c142 :: c143 :: c144 :: c145 :: c146 :: c147 :: c148 :: c149 :: c150 :: c151 :: c152 :: c153 :: c154 :: c155 :: c156 :: c157 :: c158 :: c159 :: c160 :: c161 :: c162 :: c163 :: c164 :: c165 :: c166 :: c167 :: c168 :: c169 :: c170 :: c171 :: c172 :: c173 :: c174 :: c175 :: c176 :: c177 :: c178 :: c179 :: c180 :: c181 :: c182 :: c183 :: c184 :: c185 :: c186 :: c187 :: c188 :: c189 :: c190 :: c191 :: c192 :: c193 :: c194 :: c195 :: c196 :: c197 :: c198 :: c199 :: c200 :: c201 :: c202 :: c203 :: c204 :: c205 :: c206 :: c207 :: c208 :: c209 :: c210 :: c211 :: c212 :: c213 :: c214 :: c215 :: c216 :: c217 :: c218 :: c219 :: c220 :: c221 :: c222 :: c223 :: c224 :: c225 :: c226 :: c227 :: c228 :: c229 :: c230 :: c231 :: c232 :: c233 :: c234 :: c235 :: c236 :: c237 :: c238 :: c239 :: c240 :: [])), []⟩ W := by
  have HL := hid (fun (w' : World) (x : Int) (old : Bool) (hB' : BSt w b off bH gb N ws (.slice (some ⟨b, off, none⟩) N cap) h S w') =>
    specLeads_calls b off cap gb gcap ws S h x old w' (by rw [hN]; exact ho) (hB'.len.trans hN.symm) hB'.blt (by rw [hN]; exact hB'.words) hB'.row.lt (by rw [hB'.len]; exact fun k hk => hB'.row.cell hk))
  rw [hN, hB.len] at HL
  have HO := hid ho
  have HS := hid hS
  have HB0 := hid hB
  have HN := hid hN
  have HRet := hid hret
  have HExit := hid hexit
  clear ho hS hB hN hret hexit
  obtain ⟨g1, g2, g3, g4, g5, g6, g7, g8, g9⟩ := h
  unfold heapV at HL
  dsimp only at *
  conv => arg 2; arg 1; whnf
  go_loopw [6] (fun i wr => ∃ a : Nat, i = .int .i64 a ∧ Hid (BSt w b off bH gb N ws (.slice (some ⟨b, off, none⟩) N cap) ⟨g1, g2, g3, g4, g5, g6, g7, g8, g9⟩ S wr ∧ a ≤ N ∧ ∀ k, k < a → S.getD k 0 = 0 ∨ specAt ws S ⟨g1, g2, g3, g4, g5, g6, g7, g8, g9⟩ k = true)) (fun i _ => N - (intOf i).toNat)
  case atStart => exact ⟨0, rfl, HB0.out, Nat.zero_le _, fun k hk => absurd hk (by omega)⟩
  case round =>
    obtain ⟨a, rfl, HI⟩ := hrel
    clear HB0
    obtain ⟨c0, c1, c2, c3, c4, c5, c6, c7, c8, c9⟩ := HI.out.1.blk.cells
    dsimp only at c0 c1 c2 c3 c4 c5 c6 c7 c8 c9
    by_cases hlt : (a : Int) < (N : Int)
    · have hwa : wrap64 ((a : Int) + 1) = ((a + 1 : Nat) : Int) := wrap_inc (n := N) (by omega) (by obtain ⟨o1, o2, o3, _⟩ := HO.out; dsimp only at *; omega)
      have HWA := hid hwa
      clear hwa
      have q0 := HI.out.1.row.cell (i := a) (by omega)
      unfold boolCells at q0
      have hs : Hid (N - (intOf (.int .i64 ((a + 1 : Nat) : Int))).toNat < N - (intOf (.int .i64 (a : Int))).toNat) := by simp only [intOf, Int.toNat_natCast]; show _ < _; omega
      by_cases hS0 : S.getD a 0 = 0
      · rw [hS0] at q0
        go_wp2_with fail
        rw [HWA.out]
        exact ⟨⟨a + 1, rfl, HI.out.1, by omega, fun k hk => by
          by_cases hka : k < a
          · exact HI.out.2.2 k hka
          · rw [show k = a by omega]
            exact Or.inl hS0⟩, hs.out⟩
      · have hq : (S.getD a 0 != 0) = true := by simpa using hS0
        rw [hq] at q0
        obtain ⟨_, hsz, hin⟩ := HS.out.2 a hS0
        have cw := HI.out.1.words a (by omega)
        have hg0 : 0 ≤ g2 := by obtain ⟨o1, o2, o3, o4, _⟩ := HO.out; dsimp only at *; omega
        have hg1 : g2 ≤ 4000 := by obtain ⟨o1, o2, o3, o4, _⟩ := HO.out; dsimp only at *; omega
        have hg2 : g1 ≤ 4000 := HO.out.2.1
        have hg3 : 20 ≤ g1 := HO.out.1
        have h3 := size_three (ws.getD a 0)
        have hb15 := and15 (ws.getD a 0)
        have HSZ := hid hsz
        have HIN := hid hin
        clear hsz hin
        have ES := hid (sizeN_cast (ws.getD a 0)).symm
        have HS0 := hid hS0
        clear hS0 hq
        by_cases hmv : ws.getD a 0 % 16 = 15
        · have HAt : Hid (specAt ws S ⟨g1, g2, g3, g4, g5, g6, g7, g8, g9⟩ a = specMoved ws S ⟨g1, g2, g3, g4, g5, g6, g7, g8, g9⟩ a) := if_pos hmv
          have hbm : (bits .and .i64 (ws.getD a 0) 15 == 15) = true := by rw [hb15, hmv]; rfl
          have h1N : a + 1 < N := by
            have e1 := HSZ.out
            have e2 := HS0.out
            have e3 := HIN.out
            have e4 := ES.out
            have e5 := HN.out
            omega
          have hn1 : (1 : Int) < (sizeN (ws.getD a 0) : Int) := by
            have e1 := HSZ.out
            have e2 := HS0.out
            have e4 := ES.out
            omega
          have h1N' : (a : Int) + 1 < (N : Int) := by omega
          have hw1 : wrap64 ((a : Int) + 1) = (a : Int) + 1 := by have := HWA.out; rw [this]; push_cast; rfl
          have cw1 := HI.out.1.words (a + 1) h1N
          have HLx := hid (fun x : Later wr.heap.size wr => HL.out x.w (ws.getD (a + 1) 0) false (HI.out.1.keep x.h))
          unfold specMoved at HAt
          have hbH := heap_lt HI.out.1.blk
          have hbL := HI.out.1.blt
          generalize hx0 : ws.getD a 0 = x0 at *
          generalize hy0 : ws.getD (a + 1) 0 = y at *
          clear hx0 hy0 hb15 hmv h3 HSZ
          generalize sizeN x0 = n at *
          have v0 : ∀ x : Later wr.heap.size wr, x.w.cell? ⟨bH, 0, none⟩ = some (.slice (some ⟨b, off, none⟩) N cap) := fun x => x.cell hbH c0
          have v1 : ∀ x : Later wr.heap.size wr, x.w.cell? ⟨bH, 1, none⟩ = some (.int .i64 g1) := fun x => x.cell hbH c1
          have v2 : ∀ x : Later wr.heap.size wr, x.w.cell? ⟨bH, 2, none⟩ = some (.int .i64 g2) := fun x => x.cell hbH c2
          have v3 : ∀ x : Later wr.heap.size wr, x.w.cell? ⟨bH, 3, none⟩ = some (.int .i64 g3) := fun x => x.cell hbH c3
          have v4 : ∀ x : Later wr.heap.size wr, x.w.cell? ⟨bH, 4, none⟩ = some (.int .i64 g4) := fun x => x.cell hbH c4
          have v5 : ∀ x : Later wr.heap.size wr, x.w.cell? ⟨bH, 5, none⟩ = some (.int .i64 g5) := fun x => x.cell hbH c5
          have v6 : ∀ x : Later wr.heap.size wr, x.w.cell? ⟨bH, 6, none⟩ = some (.int .i64 g6) := fun x => x.cell hbH c6
          have v7 : ∀ x : Later wr.heap.size wr, x.w.cell? ⟨bH, 7, none⟩ = some (.int .i64 g7) := fun x => x.cell hbH c7
          have v8 : ∀ x : Later wr.heap.size wr, x.w.cell? ⟨bH, 8, none⟩ = some (.int .i64 g8) := fun x => x.cell hbH c8
          have v9 : ∀ x : Later wr.heap.size wr, x.w.cell? ⟨bH, 9, none⟩ = some (.int .i64 g9) := fun x => x.cell hbH c9
          have vw : ∀ x : Later wr.heap.size wr, x.w.cell? ⟨b, off + (a + 1), none⟩ = some (.int .i64 y) := fun x => x.cell hbL cw1
          clear cw1
          by_cases hi1 : g2 ≤ (a : Int)
          · by_cases hi2 : (a : Int) < g2 + g1
            · have hin1 : inZ ⟨g1, g2, g3, g4, g5, g6, g7, g8, g9⟩ a = true := by show decide _ = true; rw [decide_eq_true (show g2 ≤ (a : Int) ∧ (a : Int) < g2 + g1 from by omega)]
              have HIn1 := hid hin1
              clear hin1
              go_wp2_with (first | (go_at_call 65; refine (specSize_calls _ _).mono ?_; rintro e w2 ⟨rfl, rfl⟩; rw [ES.out]))
              refine wp_region_calm wr.heap.size (by kernel_rfl) (by kernel_rfl) ?_
              repeat (go_big_quiet_step (fail))
              refine wpQuiet_nil ?_
              rintro w5 ⟨x, rfl⟩
              have HBx := hid (HI.out.1.keep x.h)
              clear v0 v1 v2 v3 v4 v5 v6 v7 v8 v9 vw c0 c1 c2 c3 c4 c5 c6 c7 c8 c9 q0 cw
              go_wp2_with fail
              exact HRet.out _ x.w rfl (objs_false (by omega) HS0.out (HAt.out.trans (by rw [HIn1.out]; rfl))) HBx.out.below
            · have hd2 : decide ((a : Int) < g2 + g1) = false := decide_eq_false hi2
              have hnin : inZ ⟨g1, g2, g3, g4, g5, g6, g7, g8, g9⟩ a = false := by show decide _ = false; rw [decide_eq_false (show ¬ (g2 ≤ (a : Int) ∧ (a : Int) < g2 + g1) from by omega)]
              have HNin := hid hnin
              clear hnin
              cases hL : specLeads ws S ⟨g1, g2, g3, g4, g5, g6, g7, g8, g9⟩ y false with
              | false =>
                rw [hL] at HLx
                have HLf := hid hL
                clear hL
                go_wp2_with (first | (go_at_call 65; refine (specSize_calls _ _).mono ?_; rintro e w2 ⟨rfl, rfl⟩; rw [ES.out]))
                refine wp_region_calm wr.heap.size (by kernel_rfl) (by kernel_rfl) ?_
                repeat (go_big_quiet_step (first
                  | (rename_i x; go_at_call 66; refine (HLx.out x).mono ?_; rintro e w5 ⟨rfl, hb5⟩; exact ⟨rfl, ⟨w5, x.h.trans (hb5.mono x.h.size)⟩, rfl⟩)
                  | (rename_i x; go_at_call 37; refine (HTag.out _).mono ?_; rintro e w5 ⟨rfl, rfl⟩; exact ⟨rfl, x, rfl⟩)
                  | (rename_i x; go_at_call 54; refine (HNum.out _).mono ?_; rintro e w5 ⟨rfl, rfl⟩; exact ⟨rfl, x, rfl⟩)
                  | (rename_i x; go_at_call 65; refine (HSz.out _).mono ?_; rintro e w5 ⟨rfl, rfl⟩; exact ⟨rfl, x, rfl⟩)))
                refine wpQuiet_nil ?_
                rintro w5 ⟨x, rfl⟩
                have HBx := hid (HI.out.1.keep x.h)
                clear v0 v1 v2 v3 v4 v5 v6 v7 v8 v9 vw c0 c1 c2 c3 c4 c5 c6 c7 c8 c9 q0 cw
                go_wp2_with fail
                exact HRet.out _ x.w rfl (objs_false (by omega) HS0.out (HAt.out.trans (by rw [HLf.out, Bool.and_false]; rfl))) HBx.out.below
              | true =>
                rw [hL] at HLx
                have HLt := hid hL
                by_cases ht : y % 8 = 0
                · have HTag : Hid (∀ w, Calls Try.prog 37 #[.int .i64 y] w fun e w' => e = .returned (.int .i64 0) ∧ w = w') := fun w => by
                    have := specTag_calls y w
                    unfold tagZ at this
                    rw [ht] at this
                    exact this
                  have hkk : 0 ≤ y / 8 ∧ y / 8 < (ws.length : Int) := by
                    unfold specLeads at hL
                    rw [if_neg (by simpa using ht)] at hL
                    split at hL
                    · cases hL
                    · omega
                  have HTz := hid ht
                  clear hL ht
                  obtain ⟨k, hk⟩ := Int.eq_ofNat_of_zero_le hkk.1
                  have hkN : k < N := by have := HN.out; omega
                  have HKy := hid hk
                  have HNum : Hid (∀ w, Calls Try.prog 54 #[.int .i64 y] w fun e w' => e = .returned (.int .i64 (k : Int)) ∧ w = w') := fun w => by
                    have := specNum_calls y w
                    unfold numZ at this
                    rw [hk] at this
                    exact this
                  have cz := HI.out.1.words k hkN
                  have HSz := hid (fun w => specSize_calls (ws.getD k 0) w)
                  have hbb := HI.out.1.blt
                  have vz : ∀ x : Later wr.heap.size wr, x.w.cell? ⟨b, off + k, none⟩ = some (.int .i64 (ws.getD k 0)) := fun x => x.cell hbb cz
                  clear cz hkk hk hbb
                  have HZ : Hid ((ws.getD (y / 8).toNat 0) = ws.getD k 0) := by show _ = _; rw [HKy.out, Int.toNat_natCast]
                  generalize ws.getD k 0 = z at *
                  by_cases hsz : sizeZ z = sizeZ x0
                  · have HQ := hid hsz
                    rw [hsz, ES.out] at HSz
                    clear hsz
                    go_wp2_with (first | (go_at_call 65; refine (specSize_calls _ _).mono ?_; rintro e w2 ⟨rfl, rfl⟩; rw [ES.out]))
                    refine wp_region_calm wr.heap.size (by kernel_rfl) (by kernel_rfl) ?_
                    repeat (go_big_quiet_step (first
                      | (rename_i x; go_at_call 66; refine (HLx.out x).mono ?_; rintro e w5 ⟨rfl, hb5⟩; exact ⟨rfl, ⟨w5, x.h.trans (hb5.mono x.h.size)⟩, rfl⟩)
                      | (rename_i x; go_at_call 37; refine (HTag.out _).mono ?_; rintro e w5 ⟨rfl, rfl⟩; exact ⟨rfl, x, rfl⟩)
                      | (rename_i x; go_at_call 54; refine (HNum.out _).mono ?_; rintro e w5 ⟨rfl, rfl⟩; exact ⟨rfl, x, rfl⟩)
                      | (rename_i x; go_at_call 65; refine (HSz.out _).mono ?_; rintro e w5 ⟨rfl, rfl⟩; exact ⟨rfl, x, rfl⟩)))
                    refine wpQuiet_nil ?_
                    rintro w5 ⟨x, rfl⟩
                    have HBx := hid (HI.out.1.keep x.h)
                    clear vz v0 v1 v2 v3 v4 v5 v6 v7 v8 v9 vw c0 c1 c2 c3 c4 c5 c6 c7 c8 c9 q0 cw
                    go_wp2_with fail
                    refine wp_loop_rounds 1 ?_
                    rw [rounds_succ]
                    go_wp2_with fail
                    first | rw [HWA.out] | rw [show ((a : Int) + 1) = ((a + 1 : Nat) : Int) by push_cast; rfl]
                    exact ⟨⟨a + 1, rfl, HBx.out, by omega, fun k hk => by
                      by_cases hka : k < a
                      · exact HI.out.2.2 k hka
                      · rw [show k = a by omega]
                        exact Or.inr (HAt.out.trans (by rw [HNin.out, HLt.out, HTz.out, HZ.out, HQ.out]; simp))⟩, hs.out⟩
                  · have HQ := hid hsz
                    have hz1 : (sizeZ z == (n : Int)) = false := by rw [← ES.out]; simpa using hsz
                    have hz2 : ¬ sizeZ z = (n : Int) := by rw [← ES.out]; exact hsz
                    have hz3 : (sizeZ z != (n : Int)) = true := by rw [← ES.out]; simpa using hsz
                    have HF : Hid (specAt ws S ⟨g1, g2, g3, g4, g5, g6, g7, g8, g9⟩ a = false) := HAt.out.trans (by rw [HZ.out, decide_eq_false HQ.out, Bool.and_false])
                    clear hsz HQ HAt
                    generalize hmz : sizeZ z = mz at *
                    clear hmz
                    go_wp2_with (first | (go_at_call 65; refine (specSize_calls _ _).mono ?_; rintro e w2 ⟨rfl, rfl⟩; rw [ES.out]))
                    refine wp_region_calm wr.heap.size (by kernel_rfl) (by kernel_rfl) ?_
                    repeat (go_big_quiet_step (first
                      | (rename_i x; go_at_call 66; refine (HLx.out x).mono ?_; rintro e w5 ⟨rfl, hb5⟩; exact ⟨rfl, ⟨w5, x.h.trans (hb5.mono x.h.size)⟩, rfl⟩)
                      | (rename_i x; go_at_call 37; refine (HTag.out _).mono ?_; rintro e w5 ⟨rfl, rfl⟩; exact ⟨rfl, x, rfl⟩)
                      | (rename_i x; go_at_call 54; refine (HNum.out _).mono ?_; rintro e w5 ⟨rfl, rfl⟩; exact ⟨rfl, x, rfl⟩)
                      | (rename_i x; go_at_call 65; refine (HSz.out _).mono ?_; rintro e w5 ⟨rfl, rfl⟩; exact ⟨rfl, x, rfl⟩)))
                    refine wpQuiet_nil ?_
                    rintro w5 ⟨x, rfl⟩
                    have HBx := hid (HI.out.1.keep x.h)
                    clear vz v0 v1 v2 v3 v4 v5 v6 v7 v8 v9 vw c0 c1 c2 c3 c4 c5 c6 c7 c8 c9 q0 cw
                    go_wp2_with fail
                    exact HRet.out _ x.w rfl (objs_false (by omega) HS0.out HF.out) HBx.out.below
                · have ht0 : (tagZ y == 0) = false := by unfold tagZ; simpa using ht
                  have ht1 : ¬ tagZ y = 0 := ht
                  have ht2 : (tagZ y != 0) = true := by unfold tagZ; simpa using ht
                  have HTag := hid (fun w => specTag_calls y w)
                  have HTz := hid ht
                  clear hL ht
                  generalize tagZ y = t at *
                  go_wp2_with (first | (go_at_call 65; refine (specSize_calls _ _).mono ?_; rintro e w2 ⟨rfl, rfl⟩; rw [ES.out]))
                  refine wp_region_calm wr.heap.size (by kernel_rfl) (by kernel_rfl) ?_
                  repeat (go_big_quiet_step (first
                    | (rename_i x; go_at_call 66; refine (HLx.out x).mono ?_; rintro e w5 ⟨rfl, hb5⟩; exact ⟨rfl, ⟨w5, x.h.trans (hb5.mono x.h.size)⟩, rfl⟩)
                    | (rename_i x; go_at_call 37; refine (HTag.out _).mono ?_; rintro e w5 ⟨rfl, rfl⟩; exact ⟨rfl, x, rfl⟩)
                    | (rename_i x; go_at_call 54; refine (HNum.out _).mono ?_; rintro e w5 ⟨rfl, rfl⟩; exact ⟨rfl, x, rfl⟩)
                    | (rename_i x; go_at_call 65; refine (HSz.out _).mono ?_; rintro e w5 ⟨rfl, rfl⟩; exact ⟨rfl, x, rfl⟩)))
                  refine wpQuiet_nil ?_
                  rintro w5 ⟨x, rfl⟩
                  have HBx := hid (HI.out.1.keep x.h)
                  clear v0 v1 v2 v3 v4 v5 v6 v7 v8 v9 vw c0 c1 c2 c3 c4 c5 c6 c7 c8 c9 q0 cw
                  go_wp2_with fail
                  exact HRet.out _ x.w rfl (objs_false (by omega) HS0.out (HAt.out.trans (by rw [decide_eq_false HTz.out, Bool.and_false, Bool.false_and]))) HBx.out.below
          · have hnin : inZ ⟨g1, g2, g3, g4, g5, g6, g7, g8, g9⟩ a = false := by show decide _ = false; rw [decide_eq_false (show ¬ (g2 ≤ (a : Int) ∧ (a : Int) < g2 + g1) from by omega)]
            have HNin := hid hnin
            clear hnin
            cases hL : specLeads ws S ⟨g1, g2, g3, g4, g5, g6, g7, g8, g9⟩ y false with
            | false =>
              rw [hL] at HLx
              have HLf := hid hL
              clear hL
              go_wp2_with (first | (go_at_call 65; refine (specSize_calls _ _).mono ?_; rintro e w2 ⟨rfl, rfl⟩; rw [ES.out]))
              refine wp_region_calm wr.heap.size (by kernel_rfl) (by kernel_rfl) ?_
              repeat (go_big_quiet_step (first
                | (rename_i x; go_at_call 66; refine (HLx.out x).mono ?_; rintro e w5 ⟨rfl, hb5⟩; exact ⟨rfl, ⟨w5, x.h.trans (hb5.mono x.h.size)⟩, rfl⟩)
                | (rename_i x; go_at_call 37; refine (HTag.out _).mono ?_; rintro e w5 ⟨rfl, rfl⟩; exact ⟨rfl, x, rfl⟩)
                | (rename_i x; go_at_call 54; refine (HNum.out _).mono ?_; rintro e w5 ⟨rfl, rfl⟩; exact ⟨rfl, x, rfl⟩)
                | (rename_i x; go_at_call 65; refine (HSz.out _).mono ?_; rintro e w5 ⟨rfl, rfl⟩; exact ⟨rfl, x, rfl⟩)))
              refine wpQuiet_nil ?_
              rintro w5 ⟨x, rfl⟩
              have HBx := hid (HI.out.1.keep x.h)
              clear v0 v1 v2 v3 v4 v5 v6 v7 v8 v9 vw c0 c1 c2 c3 c4 c5 c6 c7 c8 c9 q0 cw
              go_wp2_with fail
              exact HRet.out _ x.w rfl (objs_false (by omega) HS0.out (HAt.out.trans (by rw [HLf.out, Bool.and_false]; rfl))) HBx.out.below
            | true =>
              rw [hL] at HLx
              have HLt := hid hL
              by_cases ht : y % 8 = 0
              · have HTag : Hid (∀ w, Calls Try.prog 37 #[.int .i64 y] w fun e w' => e = .returned (.int .i64 0) ∧ w = w') := fun w => by
                  have := specTag_calls y w
                  unfold tagZ at this
                  rw [ht] at this
                  exact this
                have hkk : 0 ≤ y / 8 ∧ y / 8 < (ws.length : Int) := by
                  unfold specLeads at hL
                  rw [if_neg (by simpa using ht)] at hL
                  split at hL
                  · cases hL
                  · omega
                have HTz := hid ht
                clear hL ht
                obtain ⟨k, hk⟩ := Int.eq_ofNat_of_zero_le hkk.1
                have hkN : k < N := by have := HN.out; omega
                have HKy := hid hk
                have HNum : Hid (∀ w, Calls Try.prog 54 #[.int .i64 y] w fun e w' => e = .returned (.int .i64 (k : Int)) ∧ w = w') := fun w => by
                  have := specNum_calls y w
                  unfold numZ at this
                  rw [hk] at this
                  exact this
                have cz := HI.out.1.words k hkN
                have HSz := hid (fun w => specSize_calls (ws.getD k 0) w)
                have hbb := HI.out.1.blt
                have vz : ∀ x : Later wr.heap.size wr, x.w.cell? ⟨b, off + k, none⟩ = some (.int .i64 (ws.getD k 0)) := fun x => x.cell hbb cz
                clear cz hkk hk hbb
                have HZ : Hid ((ws.getD (y / 8).toNat 0) = ws.getD k 0) := by show _ = _; rw [HKy.out, Int.toNat_natCast]
                generalize ws.getD k 0 = z at *
                by_cases hsz : sizeZ z = sizeZ x0
                · have HQ := hid hsz
                  rw [hsz, ES.out] at HSz
                  clear hsz
                  go_wp2_with (first | (go_at_call 65; refine (specSize_calls _ _).mono ?_; rintro e w2 ⟨rfl, rfl⟩; rw [ES.out]))
                  refine wp_region_calm wr.heap.size (by kernel_rfl) (by kernel_rfl) ?_
                  repeat (go_big_quiet_step (first
                    | (rename_i x; go_at_call 66; refine (HLx.out x).mono ?_; rintro e w5 ⟨rfl, hb5⟩; exact ⟨rfl, ⟨w5, x.h.trans (hb5.mono x.h.size)⟩, rfl⟩)
                    | (rename_i x; go_at_call 37; refine (HTag.out _).mono ?_; rintro e w5 ⟨rfl, rfl⟩; exact ⟨rfl, x, rfl⟩)
                    | (rename_i x; go_at_call 54; refine (HNum.out _).mono ?_; rintro e w5 ⟨rfl, rfl⟩; exact ⟨rfl, x, rfl⟩)
                    | (rename_i x; go_at_call 65; refine (HSz.out _).mono ?_; rintro e w5 ⟨rfl, rfl⟩; exact ⟨rfl, x, rfl⟩)))
                  refine wpQuiet_nil ?_
                  rintro w5 ⟨x, rfl⟩
                  have HBx := hid (HI.out.1.keep x.h)
                  clear vz v0 v1 v2 v3 v4 v5 v6 v7 v8 v9 vw c0 c1 c2 c3 c4 c5 c6 c7 c8 c9 q0 cw
                  go_wp2_with fail
                  refine wp_loop_rounds 1 ?_
                  rw [rounds_succ]
                  go_wp2_with fail
                  first | rw [HWA.out] | rw [show ((a : Int) + 1) = ((a + 1 : Nat) : Int) by push_cast; rfl]
                  exact ⟨⟨a + 1, rfl, HBx.out, by omega, fun k hk => by
                    by_cases hka : k < a
                    · exact HI.out.2.2 k hka
                    · rw [show k = a by omega]
                      exact Or.inr (HAt.out.trans (by rw [HNin.out, HLt.out, HTz.out, HZ.out, HQ.out]; simp))⟩, hs.out⟩
                · have HQ := hid hsz
                  have hz1 : (sizeZ z == (n : Int)) = false := by rw [← ES.out]; simpa using hsz
                  have hz2 : ¬ sizeZ z = (n : Int) := by rw [← ES.out]; exact hsz
                  have hz3 : (sizeZ z != (n : Int)) = true := by rw [← ES.out]; simpa using hsz
                  have HF : Hid (specAt ws S ⟨g1, g2, g3, g4, g5, g6, g7, g8, g9⟩ a = false) := HAt.out.trans (by rw [HZ.out, decide_eq_false HQ.out, Bool.and_false])
                  clear hsz HQ HAt
                  generalize hmz : sizeZ z = mz at *
                  clear hmz
                  go_wp2_with (first | (go_at_call 65; refine (specSize_calls _ _).mono ?_; rintro e w2 ⟨rfl, rfl⟩; rw [ES.out]))
                  refine wp_region_calm wr.heap.size (by kernel_rfl) (by kernel_rfl) ?_
                  repeat (go_big_quiet_step (first
                    | (rename_i x; go_at_call 66; refine (HLx.out x).mono ?_; rintro e w5 ⟨rfl, hb5⟩; exact ⟨rfl, ⟨w5, x.h.trans (hb5.mono x.h.size)⟩, rfl⟩)
                    | (rename_i x; go_at_call 37; refine (HTag.out _).mono ?_; rintro e w5 ⟨rfl, rfl⟩; exact ⟨rfl, x, rfl⟩)
                    | (rename_i x; go_at_call 54; refine (HNum.out _).mono ?_; rintro e w5 ⟨rfl, rfl⟩; exact ⟨rfl, x, rfl⟩)
                    | (rename_i x; go_at_call 65; refine (HSz.out _).mono ?_; rintro e w5 ⟨rfl, rfl⟩; exact ⟨rfl, x, rfl⟩)))
                  refine wpQuiet_nil ?_
                  rintro w5 ⟨x, rfl⟩
                  have HBx := hid (HI.out.1.keep x.h)
                  clear vz v0 v1 v2 v3 v4 v5 v6 v7 v8 v9 vw c0 c1 c2 c3 c4 c5 c6 c7 c8 c9 q0 cw
                  go_wp2_with fail
                  exact HRet.out _ x.w rfl (objs_false (by omega) HS0.out HF.out) HBx.out.below
              · have ht0 : (tagZ y == 0) = false := by unfold tagZ; simpa using ht
                have ht1 : ¬ tagZ y = 0 := ht
                have ht2 : (tagZ y != 0) = true := by unfold tagZ; simpa using ht
                have HTag := hid (fun w => specTag_calls y w)
                have HTz := hid ht
                clear hL ht
                generalize tagZ y = t at *
                go_wp2_with (first | (go_at_call 65; refine (specSize_calls _ _).mono ?_; rintro e w2 ⟨rfl, rfl⟩; rw [ES.out]))
                refine wp_region_calm wr.heap.size (by kernel_rfl) (by kernel_rfl) ?_
                repeat (go_big_quiet_step (first
                  | (rename_i x; go_at_call 66; refine (HLx.out x).mono ?_; rintro e w5 ⟨rfl, hb5⟩; exact ⟨rfl, ⟨w5, x.h.trans (hb5.mono x.h.size)⟩, rfl⟩)
                  | (rename_i x; go_at_call 37; refine (HTag.out _).mono ?_; rintro e w5 ⟨rfl, rfl⟩; exact ⟨rfl, x, rfl⟩)
                  | (rename_i x; go_at_call 54; refine (HNum.out _).mono ?_; rintro e w5 ⟨rfl, rfl⟩; exact ⟨rfl, x, rfl⟩)
                  | (rename_i x; go_at_call 65; refine (HSz.out _).mono ?_; rintro e w5 ⟨rfl, rfl⟩; exact ⟨rfl, x, rfl⟩)))
                refine wpQuiet_nil ?_
                rintro w5 ⟨x, rfl⟩
                have HBx := hid (HI.out.1.keep x.h)
                clear v0 v1 v2 v3 v4 v5 v6 v7 v8 v9 vw c0 c1 c2 c3 c4 c5 c6 c7 c8 c9 q0 cw
                go_wp2_with fail
                exact HRet.out _ x.w rfl (objs_false (by omega) HS0.out (HAt.out.trans (by rw [decide_eq_false HTz.out, Bool.and_false, Bool.false_and]))) HBx.out.below
        · have hbm : (bits .and .i64 (ws.getD a 0) 15 == 15) = false := by rw [hb15]; simpa using hmv
          have HAt : Hid (specAt ws S ⟨g1, g2, g3, g4, g5, g6, g7, g8, g9⟩ a = (List.range (sizeN (ws.getD a 0) - 1)).all (fun i => specLeads ws S ⟨g1, g2, g3, g4, g5, g6, g7, g8, g9⟩ (ws.getD (a + (i + 1)) 0) (oldZ ⟨g1, g2, g3, g4, g5, g6, g7, g8, g9⟩ a))) := if_neg hmv
          clear hb15 hmv h3 HSZ
          generalize hx : ws.getD a 0 = x at *
          clear hx
          generalize sizeN x = n at *
          by_cases hi1 : g2 ≤ (a : Int)
          · by_cases hi2 : (a : Int) < g2 + g1
            · go_wp2_with (first | (go_at_call 65; refine (specSize_calls _ _).mono ?_; rintro e w2 ⟨rfl, rfl⟩; rw [ES.out]))
              refine wp_region_calm wr.heap.size (by kernel_rfl) (by kernel_rfl) ?_
              repeat (go_big_quiet_step (fail))
              refine wpQuiet_nil ?_
              rintro w5 ⟨x, rfl⟩
              have HBx := hid (HI.out.1.keep x.h)
              clear c0 c1 c2 c3 c4 c5 c6 c7 c8 c9 q0 cw
              go_wp2_with fail
              refine specInner b off cap gb gcap bH N a n ws S ⟨g1, g2, g3, g4, g5, g6, g7, g8, g9⟩ true (by show _ = decide _; rw [decide_eq_true (show g2 ≤ (a : Int) ∧ (a : Int) < g2 + g1 from by omega)]) w x.w HN.out HO.out (by rw [← HN.out]; exact HIN.out) HBx.out _ _ _ _ _ _ _ _ _ _ _ _ _ _ _ _ _ _ _ _ _ _ _ _ _ _ _ _ _ _ _ _ _ _ _ _ _ _ _ _ _ _ _ _ _ _ _ _ _ _ _ _ _ _ _ _ _ _ _ _ _ _ _ _ _ _ _ _ _ _ _ _ _ _ _ _ _ _ _ _ _ _ _ _ _ _ _ _ _ _ _ _ _ _ _ _ _ _ _ _ _ _ _ _ _ _ _ _ _ _ _ _ _ _ _ _ _ _ _ _ _ _ _ _ _ _ _ _ _ _ _ _ _ _ _ _ _ _ _ _ _ _ _ _ _ _ _ _ _ _ _ _ _ _ _ _ _ _ _ _ _ _ _ _ _ _ _ _ _ _ _ _ _ _ _ _ _ _ _ _ _ _ _ _ _ _ _ _ _ _ _ _ _ _ _ _ _ _ _ _ _ _ _ _ _ _ _ _ _ _ _ _ _ _ _ _ _ _ _ _ _ _ _ _ _ _ _ _ _ _ _ _ _ _ _ ?_ ?_
              · intro tmps w' h1 h2 h3
                simp only [Exit.inBlock, Exit.then]
                exact HRet.out tmps w' h1 (objs_false (by omega) HS0.out (HAt.out.trans h2)) h3
              · intro d2 d10 d11 d206 d207 d208 d209 d210 d211 d212 d213 d214 d215 d216 d217 d218 d219 d220 d221 d222 d223 d224 d225 d226 d227 d228 d229 d230 d231 d232 d233 d234 d235 d236 d237 d238 d239 d240 w' hall hB'
                have HBy := hid hB'
                have HAll := hid hall
                clear hB' hall
                go_wp2_with fail
                first | rw [HWA.out] | rw [show ((a : Int) + 1) = ((a + 1 : Nat) : Int) by push_cast; rfl]
                exact ⟨⟨a + 1, rfl, HBy.out, by omega, fun k hk => by
                  by_cases hka : k < a
                  · exact HI.out.2.2 k hka
                  · rw [show k = a by omega]
                    exact Or.inr (HAt.out.trans HAll.out)⟩, hs.out⟩

            · go_wp2_with (first | (go_at_call 65; refine (specSize_calls _ _).mono ?_; rintro e w2 ⟨rfl, rfl⟩; rw [ES.out]))
              refine wp_region_calm wr.heap.size (by kernel_rfl) (by kernel_rfl) ?_
              repeat (go_big_quiet_step (fail))
              refine wpQuiet_nil ?_
              rintro w5 ⟨x, rfl⟩
              have HBx := hid (HI.out.1.keep x.h)
              clear c0 c1 c2 c3 c4 c5 c6 c7 c8 c9 q0 cw
              go_wp2_with fail
              refine specInner b off cap gb gcap bH N a n ws S ⟨g1, g2, g3, g4, g5, g6, g7, g8, g9⟩ false (by show _ = decide _; rw [decide_eq_false (show ¬ (g2 ≤ (a : Int) ∧ (a : Int) < g2 + g1) from by omega)]) w x.w HN.out HO.out (by rw [← HN.out]; exact HIN.out) HBx.out _ _ _ _ _ _ _ _ _ _ _ _ _ _ _ _ _ _ _ _ _ _ _ _ _ _ _ _ _ _ _ _ _ _ _ _ _ _ _ _ _ _ _ _ _ _ _ _ _ _ _ _ _ _ _ _ _ _ _ _ _ _ _ _ _ _ _ _ _ _ _ _ _ _ _ _ _ _ _ _ _ _ _ _ _ _ _ _ _ _ _ _ _ _ _ _ _ _ _ _ _ _ _ _ _ _ _ _ _ _ _ _ _ _ _ _ _ _ _ _ _ _ _ _ _ _ _ _ _ _ _ _ _ _ _ _ _ _ _ _ _ _ _ _ _ _ _ _ _ _ _ _ _ _ _ _ _ _ _ _ _ _ _ _ _ _ _ _ _ _ _ _ _ _ _ _ _ _ _ _ _ _ _ _ _ _ _ _ _ _ _ _ _ _ _ _ _ _ _ _ _ _ _ _ _ _ _ _ _ _ _ _ _ _ _ _ _ _ _ _ _ _ _ _ _ _ _ _ _ _ _ _ _ _ _ ?_ ?_
              · intro tmps w' h1 h2 h3
                simp only [Exit.inBlock, Exit.then]
                exact HRet.out tmps w' h1 (objs_false (by omega) HS0.out (HAt.out.trans h2)) h3
              · intro d2 d10 d11 d206 d207 d208 d209 d210 d211 d212 d213 d214 d215 d216 d217 d218 d219 d220 d221 d222 d223 d224 d225 d226 d227 d228 d229 d230 d231 d232 d233 d234 d235 d236 d237 d238 d239 d240 w' hall hB'
                have HBy := hid hB'
                have HAll := hid hall
                clear hB' hall
                go_wp2_with fail
                first | rw [HWA.out] | rw [show ((a : Int) + 1) = ((a + 1 : Nat) : Int) by push_cast; rfl]
                exact ⟨⟨a + 1, rfl, HBy.out, by omega, fun k hk => by
                  by_cases hka : k < a
                  · exact HI.out.2.2 k hka
                  · rw [show k = a by omega]
                    exact Or.inr (HAt.out.trans HAll.out)⟩, hs.out⟩

          · go_wp2_with (first | (go_at_call 65; refine (specSize_calls _ _).mono ?_; rintro e w2 ⟨rfl, rfl⟩; rw [ES.out]))
            refine wp_region_calm wr.heap.size (by kernel_rfl) (by kernel_rfl) ?_
            repeat (go_big_quiet_step (fail))
            refine wpQuiet_nil ?_
            rintro w5 ⟨x, rfl⟩
            have HBx := hid (HI.out.1.keep x.h)
            clear c0 c1 c2 c3 c4 c5 c6 c7 c8 c9 q0 cw
            go_wp2_with fail
            refine specInner b off cap gb gcap bH N a n ws S ⟨g1, g2, g3, g4, g5, g6, g7, g8, g9⟩ false (by show _ = decide _; rw [decide_eq_false (show ¬ (g2 ≤ (a : Int) ∧ (a : Int) < g2 + g1) from by omega)]) w x.w HN.out HO.out (by rw [← HN.out]; exact HIN.out) HBx.out _ _ _ _ _ _ _ _ _ _ _ _ _ _ _ _ _ _ _ _ _ _ _ _ _ _ _ _ _ _ _ _ _ _ _ _ _ _ _ _ _ _ _ _ _ _ _ _ _ _ _ _ _ _ _ _ _ _ _ _ _ _ _ _ _ _ _ _ _ _ _ _ _ _ _ _ _ _ _ _ _ _ _ _ _ _ _ _ _ _ _ _ _ _ _ _ _ _ _ _ _ _ _ _ _ _ _ _ _ _ _ _ _ _ _ _ _ _ _ _ _ _ _ _ _ _ _ _ _ _ _ _ _ _ _ _ _ _ _ _ _ _ _ _ _ _ _ _ _ _ _ _ _ _ _ _ _ _ _ _ _ _ _ _ _ _ _ _ _ _ _ _ _ _ _ _ _ _ _ _ _ _ _ _ _ _ _ _ _ _ _ _ _ _ _ _ _ _ _ _ _ _ _ _ _ _ _ _ _ _ _ _ _ _ _ _ _ _ _ _ _ _ _ _ _ _ _ _ _ _ _ _ _ _ _ ?_ ?_
            · intro tmps w' h1 h2 h3
              simp only [Exit.inBlock, Exit.then]
              exact HRet.out tmps w' h1 (objs_false (by omega) HS0.out (HAt.out.trans h2)) h3
            · intro d2 d10 d11 d206 d207 d208 d209 d210 d211 d212 d213 d214 d215 d216 d217 d218 d219 d220 d221 d222 d223 d224 d225 d226 d227 d228 d229 d230 d231 d232 d233 d234 d235 d236 d237 d238 d239 d240 w' hall hB'
              have HBy := hid hB'
              have HAll := hid hall
              clear hB' hall
              go_wp2_with fail
              first | rw [HWA.out] | rw [show ((a : Int) + 1) = ((a + 1 : Nat) : Int) by push_cast; rfl]
              exact ⟨⟨a + 1, rfl, HBy.out, by omega, fun k hk => by
                by_cases hka : k < a
                · exact HI.out.2.2 k hka
                · rw [show k = a by omega]
                  exact Or.inr (HAt.out.trans HAll.out)⟩, hs.out⟩

    · go_wp2_with fail
      exact HExit.out _ _ _ _ _ _ _ _ _ _ _ _ _ _ _ _ _ _ _ _ _ _ _ _ _ _ _ _ _ _ _ _ _ _ _ _ _ _ _ _ _ _ _ _ _ _ _ _ _ _ _ _ _ _ _ _ _ _ _ _ _ _ _ _ _ _ _ _ _ _ _ _ _ _ _ _ _ _ _ _ _ _ _ _ _ _ _ _ _ _ _ _ _ _ _ _ _ _ _ _ _ _ _ _ _ _ _ _ _ _ _ _ _ _ _ _ _ _ _ _ _ _ _ _ _ _ _ _ _ _ _ _ _ _ _ _ _ _ _ _ _ _ _ _ _ _ _ _ _ _ _ _ _ _ _ _ _ _ _ _ _ _ _ _ _ _ _ _ _ _ _ _ _ _ _ _ _ _ _ _ _ _ _ _ _ _ _ _ _ _ _ _ _ _ _ _ _ _ _ _ _ _ _ _ _ _ _ _ _ _ _ _ _ _ _ _ _ _ _ _ _ _ _ _ _ _ _ _ _ _ _ _ _ _ _ _ _ _ _ _ _ wr (objs_true (fun k hk => HI.out.2.2 k (by omega))) HI.out.1.below
end Go.Proofs.Ytebpgglegnljgaa
