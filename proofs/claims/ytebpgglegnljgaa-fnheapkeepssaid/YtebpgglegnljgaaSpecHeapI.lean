/- The specification's loop over the fields of an object. -/
import Derived.Test.YtebpgglegnljgaaSpecHeapD
import Derived.Test.YtebpgglegnljgaaCalm
namespace Go.Proofs.Ytebpgglegnljgaa
open Go.RowKit

def firstLoop : Code → Option Code
  | .loop c => some c
  | .seq a b => match firstLoop a with
    | some c => some c
    | none => firstLoop b
  | .block _ c => firstLoop c
  | .scope c => firstLoop c
  | .cond _ a b => match firstLoop a with
    | some c => some c
    | none => firstLoop b
  | _ => none

noncomputable def specBody : Code := ((Try.f35.body.bind firstLoop).getD .skip)
noncomputable def specInBody : Code := ((firstLoop specBody).getD .skip)

theorem all_upto {P : Nat → Bool} {m : Nat} (H : ∀ k, k < m → P k = true) : (List.range m).all P = true := by
  rw [List.all_eq_true]
  exact fun k hk => H k (List.mem_range.1 hk)

theorem all_not {P : Nat → Bool} {m j : Nat} (hj : j < m) (hf : P j = false) : (List.range m).all P = false := by
  rw [List.all_eq_false]
  exact ⟨j, List.mem_range.2 hj, by simp [hf]⟩

set_option maxHeartbeats 4000000 in
set_option maxRecDepth 1000000 in
theorem specInner (b off cap gb gcap bH N a n : Nat) (ws S : List Int) (h : HpN) (inb : Bool) (hinb : inb = inZ h a) (w W : World) (hN : ws.length = N) (ho : Ordered h N) (ha : a + n ≤ N) (hB : BSt w b off bH gb N ws (.slice (some ⟨b, off, none⟩) N cap) h S W)
    (Q0 : Exit → Act → World → Prop) (c0 c2 c3 c5 c11 c12 c13 c14 c15 c16 c17 c18 c19 c20 c21 c22 c23 c24 c25 c26 c27 c28 c29 c30 c31 c32 c33 c34 c35 c36 c37 c38 c39 c40 c41 c42 c43 c44 c45 c46 c47 c48 c49 c50 c51 c52 c53 c54 c55 c56 c57 c58 c59 c60 c61 c62 c63 c64 c65 c66 c67 c68 c69 c70 c71 c72 c73 c74 c75 c76 c77 c78 c79 c80 c81 c82 c83 c84 c85 c86 c87 c88 c89 c90 c91 c92 c93 c94 c95 c96 c97 c98 c99 c100 c101 c102 c103 c104 c105 c106 c107 c108 c109 c110 c111 c112 c113 c114 c115 c116 c117 c118 c119 c120 c121 c122 c123 c124 c125 c126 c127 c128 c129 c130 c131 c132 c133 c134 c135 c136 c137 c138 c139 c140 c141 c142 c143 c144 c145 c146 c147 c148 c149 c150 c151 c152 c153 c154 c155 c156 c157 c158 c159 c160 c161 c162 c163 c164 c165 c166 c167 c168 c169 c170 c171 c172 c173 c174 c175 c176 c177 c178 c179 c180 c181 c182 c183 c184 c185 c186 c187 c188 c189 c190 c191 c192 c193 c194 c195 c196 c197 c198 c199 c200 c201 c202 c203 c204 c205 c206 c207 c208 c209 c210 c211 c212 c213 c214 c215 c216 c217 c218 c219 c220 c221 c222 c223 c224 c225 c226 c227 c228 c229 c230 c231 c232 c233 c234 c235 c236 c237 c238 c239 c240 : Value)
    (hret : ∀ (tmps : Array Value) (w' : World), tmps.getD 2 undef = .bool false → (List.range (n - 1)).all (fun i => specLeads ws S h (ws.getD (a + (i + 1)) 0) (oldZ h a)) = false → Below w.heap.size w w' → Q0 .ret ⟨tmps, []⟩ w')
    (hexit : ∀ (d2 d10 d11 d206 d207 d208 d209 d210 d211 d212 d213 d214 d215 d216 d217 d218 d219 d220 d221 d222 d223 d224 d225 d226 d227 d228 d229 d230 d231 d232 d233 d234 d235 d236 d237 d238 d239 d240 : Value) (w' : World), (List.range (n - 1)).all (fun i => specLeads ws S h (ws.getD (a + (i + 1)) 0) (oldZ h a)) = true → BSt w b off bH gb N ws (.slice (some ⟨b, off, none⟩) N cap) h S w' → Q0 (.exit 2) ⟨(List.toArray (c0 :: .pointer (some ⟨bH, 0, none⟩) :: d2 :: c3 :: .slice (some ⟨gb, 0, none⟩) N gcap :: c5 :: .int .i64 (a : Int) :: .bool inb :: .int .i64 (n : Int) :: .bool false :: d10 :: d11 :: c12 :: c13 :: c14 :: c15 :: c16 :: c17 :: c18 :: c19 :: c20 :: c21 :: c22 :: c23 :: c24 :: c25 :: c26 :: c27 :: c28 :: c29 :: c30 :: c31 :: c32 :: c33 :: c34 :: c35 :: c36 :: c37 :: c38 :: c39 :: c40 :: c41 :: c42 :: c43 :: c44 :: c45 :: c46 :: c47 :: c48 :: c49 :: c50 :: c51 :: c52 :: c53 :: c54 :: c55 :: c56 :: c57 :: c58 :: c59 :: c60 :: c61 :: c62 :: c63 :: c64 :: c65 :: c66 :: c67 :: c68 :: c69 :: c70 :: c71 :: c72 :: c73 :: c74 :: c75 :: c76 :: c77 :: c78 :: c79 :: c80 :: c81 :: c82 :: c83 :: c84 :: c85 :: c86 :: c87 :: c88 :: c89 :: c90 :: c91 :: c92 :: c93 :: c94 :: c95 :: c96 :: c97 :: c98 :: c99 :: c100 :: c101 :: c102 :: c103 :: c104 :: c105 :: c106 :: c107 :: c108 :: c109 :: c110 :: c111 :: c112 :: c113 :: c114 :: c115 :: c116 :: c117 :: c118 :: c119 :: c120 :: c121 :: c122 :: c123 :: c124 :: c125 :: c126 :: c127 :: c128 :: c129 :: c130 :: c131 :: c132 :: c133 :: c134 :: c135 :: c136 :: c137 :: c138 :: c139 :: c140 :: c141 :: c142 :: c143 :: c144 :: c145 :: c146 :: c147 :: c148 :: c149 :: c150 :: c151 :: c152 :: c153 :: c154 :: c155 :: c156 :: c157 :: c158 :: c159 :: c160 :: c161 :: c162 :: c163 :: c164 :: c165 :: c166 :: c167 :: c168 :: c169 :: c170 :: c171 :: c172 :: c173 :: c174 :: c175 :: c176 :: c177 :: c178 :: c179 :: c180 :: c181 :: c182 :: c183 :: c184 :: c185 :: c186 :: c187 :: c188 :: c189 :: c190 :: c191 :: c192 :: c193 :: c194 :: c195 :: c196 :: c197 :: c198 :: c199 :: c200 :: c201 :: c202 :: c203 :: c204 :: c205 :: d206 :: d207 :: d208 :: d209 :: d210 :: d211 :: d212 :: d213 :: d214 :: d215 :: d216 :: d217 :: d218 :: d219 :: d220 :: d221 :: d222 :: d223 :: d224 :: d225 :: d226 :: d227 :: d228 :: d229 :: d230 :: d231 :: d232 :: d233 :: d234 :: d235 :: d236 :: d237 :: d238 :: d239 :: d240 :: [])), []⟩ w')
    : Code.wp Try.prog (Code.loop specInBody) Q0 ⟨(List.toArray (c0 :: .pointer (some ⟨bH, 0, none⟩) :: c2 :: c3 :: .slice (some ⟨gb, 0, none⟩) N gcap :: c5 :: .int .i64 (a : Int) :: .bool inb :: .int .i64 (n : Int) :: .bool false :: .int .i64 1 :: c11 :: c12 :: c13 :: c14 :: c15 :: c16 :: c17 :: c18 :: c19 :: c20 :: c21 :: c22 :: c23 :: c24 :: c25 :: c26 :: c27 :: c28 :: c29 :: c30 :: c31 :: c32 :: c33 :: c34 :: c35 :: c36 :: c37 :: c38 :: c39 :: c40 :: c41 :: c42 :: c43 :: c44 :: c45 :: c46 :: c47 :: c48 :: c49 :: c50 :: c51 :: c52 :: c53 :: c54 :: c55 :: c56 :: c57 :: c58 :: c59 :: c60 :: c61 :: c62 :: c63 :: c64 :: c65 :: c66 :: c67 :: c68 :: c69 :: c70 :: c71 :: c72 :: c73 :: c74 :: c75 :: c76 :: c77 :: c78 :: c79 :: c80 :: c81 :: c82 :: c83 :: c84 :: c85 :: c86 :: c87 :: c88 :: c89 :: c90 :: c91 :: c92 :: c93 :: c94 :: c95 :: c96 :: c97 :: c98 :: c99 :: c100 :: c101 :: c102 :: c103 :: c104 :: c105 :: c106 :: c107 :: c108 :: c109 :: c110 :: c111 :: c112 :: c113 :: c114 :: c115 :: c116 :: c117 :: c118 :: c119 :: c120 :: c121 :: c122 :: c123 :: c124 :: c125 :: c126 :: c127 :: c128 :: c129 :: c130 :: c131 :: c132 :: c133 :: c134 :: c135 :: c136 :: c137 :: c138 :: c139 :: c140 :: c141 :: c142 :: c143 :: c144 :: c145 :: c146 :: c147 :: c148 :: c149 :: c150 :: c151 :: c152 :: c153 :: c154 :: c155 :: c156 :: c157 :: c158 :: c159 :: c160 :: c161 :: c162 :: c163 :: c164 :: c165 :: c166 :: c167 :: c168 :: c169 :: c170 :: c171 :: c172 :: c173 :: c174 :: c175 :: c176 :: c177 :: c178 :: c179 :: c180 :: c181 :: c182 :: c183 :: c184 :: c185 :: c186 :: c187 :: c188 :: c189 :: c190 :: c191 :: c192 :: c193 :: c194 :: c195 :: c196 :: c197 :: c198 :: c199 :: c200 :: c201 :: c202 :: c203 :: c204 :: c205 :: c206 :: c207 :: c208 :: c209 :: c210 :: c211 :: c212 :: c213 :: c214 :: c215 :: c216 :: c217 :: c218 :: c219 :: c220 :: c221 :: c222 :: c223 :: c224 :: c225 :: c226 :: c227 :: c228 :: c229 :: c230 :: c231 :: c232 :: c233 :: c234 :: c235 :: c236 :: c237 :: c238 :: c239 :: c240 :: [])), []⟩ W := by
  have HL := hid (fun (w' : World) (x : Int) (old : Bool) (hB' : BSt w b off bH gb N ws (.slice (some ⟨b, off, none⟩) N cap) h S w') =>
    specLeads_calls b off cap gb gcap ws S h x old w' (by rw [hN]; exact ho) (hB'.len.trans hN.symm) hB'.blt (by rw [hN]; exact hB'.words) hB'.row.lt (by rw [hB'.len]; exact fun k hk => hB'.row.cell hk))
  have HO := hid ho
  have HB0 := hid hB
  have HN := hid hN
  have HRet := hid hret
  have HExit := hid hexit
  rw [hN, hB.len] at HL
  have HInb := hid hinb
  clear ho hB hN hret hexit hinb
  obtain ⟨g1, g2, g3, g4, g5, g6, g7, g8, g9⟩ := h
  unfold heapV at HL
  dsimp only at *
  conv => arg 2; arg 1; whnf
  go_loopw [10] (fun i wr => ∃ j : Nat, i = .int .i64 ((j + 1 : Nat) : Int) ∧ Hid (BSt w b off bH gb N ws (.slice (some ⟨b, off, none⟩) N cap) ⟨g1, g2, g3, g4, g5, g6, g7, g8, g9⟩ S wr ∧ (n = 0 ∨ j + 1 ≤ n) ∧ ∀ k, k < j → specLeads ws S ⟨g1, g2, g3, g4, g5, g6, g7, g8, g9⟩ (ws.getD (a + (k + 1)) 0) (oldZ ⟨g1, g2, g3, g4, g5, g6, g7, g8, g9⟩ a) = true)) (fun i _ => n - (intOf i).toNat)
  case atStart => exact ⟨0, rfl, HB0.out, by omega, fun k hk => absurd hk (by omega)⟩
  case round =>
    obtain ⟨j, rfl, HI⟩ := hrel
    clear HB0
    obtain ⟨c0, c1, c2, c3, c4, c5, c6, c7, c8, c9⟩ := HI.out.1.blk.cells
    dsimp only at c0 c1 c2 c3 c4 c5 c6 c7 c8 c9
    generalize hj1 : j + 1 = j1 at *
    have HJ1 := hid hj1
    clear hj1
    by_cases hlt : (j1 : Int) < (n : Int)
    · have cw := HI.out.1.words (a + j1) (by omega)
      have hold : oldZ ⟨g1, g2, g3, g4, g5, g6, g7, g8, g9⟩ a = (!inb || decide (g5 ≤ (a : Int) ∧ (a : Int) < g3)) := by rw [HInb.out]; rfl
      have HOld := hid hold
      clear hold
      generalize oldZ ⟨g1, g2, g3, g4, g5, g6, g7, g8, g9⟩ a = old at *
      have ha8 : (a : Int) + (j1 : Int) ≤ 8000 := by obtain ⟨o1, o2, o3, _⟩ := HO.out; dsimp only at *; omega
      have hs : Hid (n - (intOf (.int .i64 ((j1 + 1 : Nat) : Int))).toNat < n - (intOf (.int .i64 (j1 : Int))).toNat) := by simp only [intOf, Int.toNat_natCast]; show _ < _; omega
      have HWJ := hid (show wrap64 ((j1 : Int) + 1) = ((j1 + 1 : Nat) : Int) from wrap_inc (n := N) (by omega) (by obtain ⟨o1, o2, o3, _⟩ := HO.out; dsimp only at *; omega))
      have hbH := heap_lt HI.out.1.blk
      have hbL := HI.out.1.blt
      have HP : Hid (specLeads ws S ⟨g1, g2, g3, g4, g5, g6, g7, g8, g9⟩ (ws.getD (a + (j + 1)) 0) old = specLeads ws S ⟨g1, g2, g3, g4, g5, g6, g7, g8, g9⟩ (ws.getD (a + j1) 0) old) := by rw [← HJ1.out]; rfl
      have HLx := hid (fun x : Later wr.heap.size wr => HL.out x.w (ws.getD (a + j1) 0) old (HI.out.1.keep x.h))
      clear HL
      generalize specLeads ws S ⟨g1, g2, g3, g4, g5, g6, g7, g8, g9⟩ (ws.getD (a + j1) 0) old = P at *
      generalize ws.getD (a + j1) 0 = y at *
      have v0 : ∀ x : Later wr.heap.size wr, x.w.cell? ⟨bH, 0, none⟩ = some (.slice (some ⟨b, off, none⟩) N cap) := fun x => x.cell hbH c0
      have v1 : ∀ x : Later wr.heap.size wr, x.w.cell? ⟨bH, 1, none⟩ = some (.int .i64 g1) := fun x => x.cell hbH c1
      have v2 : ∀ x : Later wr.heap.size wr, x.w.cell? ⟨bH, 2, none⟩ = some (.int .i64 g2) := fun x => x.cell hbH c2
      have v3 : ∀ x : Later wr.heap.size wr, x.w.cell? ⟨bH, 3, none⟩ = some (.int .i64 g3) := fun x => x.cell hbH c3
      have v4 : ∀ x : Later wr.heap.size wr, x.w.cell? ⟨bH, 4, none⟩ = some (.int .i64 g4) := fun x => x.cell hbH c4
      have v5 : ∀ x : Later wr.heap.size wr, x.w.cell? ⟨bH, 5, none⟩ = some (.int .i64 g5) := fun x => x.cell hbH c5
      have v6 : ∀ x : Later wr.heap.size wr, x.w.cell? ⟨bH, 6, none⟩ = some (.int .i64 g6) := fun x => x.cell hbH c6
      have v7 : ∀ x : Later wr.heap.size wr, x.w.cell? ⟨bH, 7, none⟩ = some (.int .i64 g7) := fun x => x.cell hbH c7
      have v8 : ∀ x : Later wr.heap.size wr, x.w.cell? ⟨bH, 8, none⟩ = some (.int .i64 g8) := fun x => x.cell hbH c8
      have v9 : ∀ x : Later wr.heap.size wr, x.w.cell? ⟨bH, 9, none⟩ = some (.int .i64 g9) := fun x => x.cell hbH c9
      have vw : ∀ x : Later wr.heap.size wr, x.w.cell? ⟨b, off + (a + j1), none⟩ = some (.int .i64 y) := fun x => x.cell hbL cw
      cases inb
      · have ho1 : old = true := by rw [HOld.out]; rfl
        subst ho1
        go_wp2_with fail
        clear c1 c2 c3 c4 c5 c6 c7 c8 c9 c0 cw
        refine wp_region_calm wr.heap.size (by kernel_rfl) (by kernel_rfl) ?_
        repeat (go_big_quiet_step (first
          | (rename_i x; go_at_call 66; refine (HLx.out x).mono ?_; rintro e w5 ⟨rfl, hb5⟩; exact ⟨rfl, ⟨w5, x.h.trans (hb5.mono x.h.size)⟩, rfl⟩)))
        refine wpQuiet_nil ?_
        rintro w5 ⟨x, rfl⟩
        have HBx := hid (HI.out.1.keep x.h)
        clear v0 v1 v2 v3 v4 v5 v6 v7 v8 v9 vw
        cases P
        · go_wp2_with fail
          exact HRet.out _ x.w rfl (all_not (j := j) (by have := HJ1.out; omega) HP.out) HBx.out.below
        · go_wp2_with fail
          try rw [HWJ.out]
          refine ⟨⟨j + 1, by rw [HJ1.out]; push_cast; rfl, HBx.out, by have := HJ1.out; omega, fun k hk => ?_⟩, ?_⟩
          · by_cases hkj : k < j
            · exact HI.out.2.2 k hkj
            · rw [show k = j by omega]
              exact HP.out
          · exact hs.out
      · by_cases hq1 : g5 ≤ (a : Int)
        · by_cases hq2 : (a : Int) < g3
          · have ho1 : old = true := by rw [HOld.out, decide_eq_true ⟨hq1, hq2⟩]; rfl
            subst ho1
            go_wp2_with fail
            clear c1 c2 c3 c4 c5 c6 c7 c8 c9 c0 cw
            refine wp_region_calm wr.heap.size (by kernel_rfl) (by kernel_rfl) ?_
            repeat (go_big_quiet_step (first
              | (rename_i x; go_at_call 66; refine (HLx.out x).mono ?_; rintro e w5 ⟨rfl, hb5⟩; exact ⟨rfl, ⟨w5, x.h.trans (hb5.mono x.h.size)⟩, rfl⟩)))
            refine wpQuiet_nil ?_
            rintro w5 ⟨x, rfl⟩
            have HBx := hid (HI.out.1.keep x.h)
            clear v0 v1 v2 v3 v4 v5 v6 v7 v8 v9 vw
            cases P
            · go_wp2_with fail
              exact HRet.out _ x.w rfl (all_not (j := j) (by have := HJ1.out; omega) HP.out) HBx.out.below
            · go_wp2_with fail
              try rw [HWJ.out]
              refine ⟨⟨j + 1, by rw [HJ1.out]; push_cast; rfl, HBx.out, by have := HJ1.out; omega, fun k hk => ?_⟩, ?_⟩
              · by_cases hkj : k < j
                · exact HI.out.2.2 k hkj
                · rw [show k = j by omega]
                  exact HP.out
              · exact hs.out
          · have ho1 : old = false := by rw [HOld.out, decide_eq_false (fun e => hq2 e.2)]; rfl
            subst ho1
            go_wp2_with fail
            clear c1 c2 c3 c4 c5 c6 c7 c8 c9 c0 cw
            refine wp_region_calm wr.heap.size (by kernel_rfl) (by kernel_rfl) ?_
            repeat (go_big_quiet_step (first
              | (rename_i x; go_at_call 66; refine (HLx.out x).mono ?_; rintro e w5 ⟨rfl, hb5⟩; exact ⟨rfl, ⟨w5, x.h.trans (hb5.mono x.h.size)⟩, rfl⟩)))
            refine wpQuiet_nil ?_
            rintro w5 ⟨x, rfl⟩
            have HBx := hid (HI.out.1.keep x.h)
            clear v0 v1 v2 v3 v4 v5 v6 v7 v8 v9 vw
            cases P
            · go_wp2_with fail
              exact HRet.out _ x.w rfl (all_not (j := j) (by have := HJ1.out; omega) HP.out) HBx.out.below
            · go_wp2_with fail
              try rw [HWJ.out]
              refine ⟨⟨j + 1, by rw [HJ1.out]; push_cast; rfl, HBx.out, by have := HJ1.out; omega, fun k hk => ?_⟩, ?_⟩
              · by_cases hkj : k < j
                · exact HI.out.2.2 k hkj
                · rw [show k = j by omega]
                  exact HP.out
              · exact hs.out
        · have ho1 : old = false := by rw [HOld.out, decide_eq_false (fun e => hq1 e.1)]; rfl
          subst ho1
          go_wp2_with fail
          clear c1 c2 c3 c4 c5 c6 c7 c8 c9 c0 cw
          refine wp_region_calm wr.heap.size (by kernel_rfl) (by kernel_rfl) ?_
          repeat (go_big_quiet_step (first
            | (rename_i x; go_at_call 66; refine (HLx.out x).mono ?_; rintro e w5 ⟨rfl, hb5⟩; exact ⟨rfl, ⟨w5, x.h.trans (hb5.mono x.h.size)⟩, rfl⟩)))
          refine wpQuiet_nil ?_
          rintro w5 ⟨x, rfl⟩
          have HBx := hid (HI.out.1.keep x.h)
          clear v0 v1 v2 v3 v4 v5 v6 v7 v8 v9 vw
          cases P
          · go_wp2_with fail
            exact HRet.out _ x.w rfl (all_not (j := j) (by have := HJ1.out; omega) HP.out) HBx.out.below
          · go_wp2_with fail
            try rw [HWJ.out]
            refine ⟨⟨j + 1, by rw [HJ1.out]; push_cast; rfl, HBx.out, by have := HJ1.out; omega, fun k hk => ?_⟩, ?_⟩
            · by_cases hkj : k < j
              · exact HI.out.2.2 k hkj
              · rw [show k = j by omega]
                exact HP.out
            · exact hs.out
    · go_wp2_with fail
      exact HExit.out _ _ _ _ _ _ _ _ _ _ _ _ _ _ _ _ _ _ _ _ _ _ _ _ _ _ _ _ _ _ _ _ _ _ _ _ _ _ wr (all_upto (fun k hk => HI.out.2.2 k (by have := HJ1.out; omega))) HI.out.1
end Go.Proofs.Ytebpgglegnljgaa
