/- The program's loop over all objects of a heap. -/
import Derived.Test.YtnoobonlmfgfhaaImplHeapS
namespace Go.Proofs.Ytnoobonlmfgfhaa
open Go.RowKit

noncomputable def objsBody : Code := ((Try.f40.body.bind implLoopOf).getD .skip)

theorem iobjs_true {ws S : List Int} {h : HpN} {N : Nat} (H : ∀ k, k < N → S.getD k 0 = 0 ∨ implAt ws S h k = true) : implObjs ws S h N = true := by
  unfold implObjs
  rw [List.all_eq_true]
  intro k hk
  rcases H k (List.mem_range.1 hk) with e | e
  · rw [e]
    rfl
  · simp [e]

theorem iobjs_false {ws S : List Int} {h : HpN} {N a : Nat} (ha : a < N) (h0 : S.getD a 0 ≠ 0) (hf : implAt ws S h a = false) : implObjs ws S h N = false := by
  unfold implObjs
  rw [List.all_eq_false]
  exact ⟨a, List.mem_range.2 ha, by simp [hf]; simpa using h0⟩

theorem LSt.ist {w W : World} {b off bR bL gb N : Nat} {ws : List Int} {v : Value} {h : HpN} {S : List Int} (s : LSt w b off bR bL gb N ws v h S W) : ISt b off gb N ws S W :=
  ⟨s.wlen, s.len, s.blt, s.words, s.row.lt, fun k hk => by rw [Nat.zero_add]; exact s.row.cell hk⟩

set_option maxHeartbeats 4000000 in
set_option maxRecDepth 1000000 in
theorem objsLoop (b off cap gb bR bL N : Nat) (ws S : List Int) (h : HpN) (w W : World) (ho : Ordered h N) (hcap : N ≤ cap) (hS : Noted ws S) (hB : LSt w b off bR bL gb N ws (.slice (some ⟨b, off, none⟩) N cap) h S W)
    (Q0 : Exit → Act → World → Prop) (c0 c1 c5 c6 c7 c8 c9 c10 c11 c12 c13 c14 c15 c16 c17 c18 c19 c20 c21 c22 c23 c24 c25 c26 c27 c28 c29 c30 c31 c32 c33 c34 c35 c36 c37 c38 c39 c40 c41 c42 c43 c44 c45 c46 c47 c48 c49 c50 c51 c52 c53 c54 c55 c56 c57 c58 c59 c60 c61 c62 c63 c64 c65 c66 c67 c68 c69 c70 c71 c72 c73 c77 c78 c79 c80 c81 c82 c83 c84 c85 c86 c87 c88 c89 c90 c91 : Value)
    (hret : ∀ (tmps : Array Value) (w' : World), tmps.getD 2 undef = .pointer (some ⟨bR, 0, none⟩) → tmps.getD 3 undef = .bool false → LayBlk w' bR (.slice none 0 0) ⟨0, 0, 0, 0, 0, 0, 0, 0, 0⟩ (.slice none 0 0) → implObjs ws S h N = false → Below w.heap.size w w' → Q0 .ret ⟨tmps, []⟩ w')
    (hexit : ∀ (d3 d5 d6 d76 d77 d78 d79 d80 d81 d82 d83 d84 d85 d86 d87 d88 d89 d90 : Value) (w' : World), implObjs ws S h N = true → LSt w b off bR bL gb N ws (.slice (some ⟨b, off, none⟩) N cap) h S w' → Q0 (.exit 0) ⟨(List.toArray (c0 :: c1 :: .pointer (some ⟨bR, 0, none⟩) :: d3 :: .pointer (some ⟨bL, 0, none⟩) :: d5 :: d6 :: c7 :: c8 :: c9 :: c10 :: c11 :: c12 :: c13 :: c14 :: c15 :: c16 :: c17 :: c18 :: c19 :: c20 :: c21 :: c22 :: c23 :: c24 :: c25 :: c26 :: c27 :: c28 :: c29 :: c30 :: c31 :: c32 :: c33 :: c34 :: c35 :: c36 :: c37 :: c38 :: c39 :: c40 :: c41 :: c42 :: c43 :: c44 :: c45 :: c46 :: c47 :: c48 :: c49 :: c50 :: c51 :: c52 :: c53 :: c54 :: c55 :: c56 :: c57 :: c58 :: c59 :: c60 :: c61 :: c62 :: c63 :: c64 :: c65 :: c66 :: c67 :: c68 :: c69 :: c70 :: c71 :: c72 :: c73 :: .slice (some ⟨gb, 0, none⟩) N N :: .int .i64 (N : Int) :: d76 :: d77 :: d78 :: d79 :: d80 :: d81 :: d82 :: d83 :: d84 :: d85 :: d86 :: d87 :: d88 :: d89 :: d90 :: c91 :: [])), []⟩ w')
    : Code.wp Try.prog (Code.loop objsBody) Q0 ⟨(List.toArray (c0 :: c1 :: .pointer (some ⟨bR, 0, none⟩) :: .bool false :: .pointer (some ⟨bL, 0, none⟩) :: c5 :: c6 :: c7 :: c8 :: c9 :: c10 :: c11 :: c12 :: c13 :: c14 :: c15 :: c16 :: c17 :: c18 :: c19 :: c20 :: c21 :: c22 :: c23 :: c24 :: c25 :: c26 :: c27 :: c28 :: c29 :: c30 :: c31 :: c32 :: c33 :: c34 :: c35 :: c36 :: c37 :: c38 :: c39 :: c40 :: c41 :: c42 :: c43 :: c44 :: c45 :: c46 :: c47 :: c48 :: c49 :: c50 :: c51 :: c52 :: c53 :: c54 :: c55 :: c56 :: c57 :: c58 :: c59 :: c60 :: c61 :: c62 :: c63 :: c64 :: c65 :: c66 :: c67 :: c68 :: c69 :: c70 :: c71 :: c72 :: c73 :: .slice (some ⟨gb, 0, none⟩) N N :: .int .i64 (N : Int) :: .int .i64 0 :: c77 :: c78 :: c79 :: c80 :: c81 :: c82 :: c83 :: c84 :: c85 :: c86 :: c87 :: c88 :: c89 :: c90 :: c91 :: [])), []⟩ W := by
  have HOb := hid (fun (w' : World) (a : Nat) (s' : ISt b off gb N ws S w') (ha : S.getD a 0 ≠ 0) => objectOk_calls b off cap gb N N a ws S h w' ho hcap hS s' ha)
  have HB0 := hid hB
  have HRet := hid hret
  have HExit := hid hexit
  have HNo := hid hS
  have hN8 : N ≤ 8000 := by obtain ⟨o1, o2, o3, _⟩ := ho; omega
  have HN8 := hid hN8
  clear ho hcap hS hB hret hexit hN8
  obtain ⟨g1, g2, g3, g4, g5, g6, g7, g8, g9⟩ := h
  unfold layV at HOb
  dsimp only at *
  conv => arg 2; arg 1; whnf
  go_loopw [76] (fun i wr => ∃ a : Nat, i = .int .i64 a ∧ Hid (LSt w b off bR bL gb N ws (.slice (some ⟨b, off, none⟩) N cap) ⟨g1, g2, g3, g4, g5, g6, g7, g8, g9⟩ S wr ∧ a ≤ N ∧ ∀ k, k < a → S.getD k 0 = 0 ∨ implAt ws S ⟨g1, g2, g3, g4, g5, g6, g7, g8, g9⟩ k = true)) (fun i _ => N - (intOf i).toNat)
  case atStart => exact ⟨0, rfl, HB0.out, Nat.zero_le _, fun k hk => absurd hk (by omega)⟩
  case round =>
    obtain ⟨a, rfl, HI⟩ := hrel
    clear HB0
    by_cases hlt : (a : Int) < (N : Int)
    · have HWA := hid (show wrap64 ((a : Int) + 1) = ((a + 1 : Nat) : Int) from wrap_inc (n := N) (by omega) (by have := HN8.out; omega))
      have q0 := HI.out.1.row.cell (i := a) (by omega)
      unfold intCells at q0
      have hs : Hid (N - (intOf (.int .i64 ((a + 1 : Nat) : Int))).toNat < N - (intOf (.int .i64 (a : Int))).toNat) := by simp only [intOf, Int.toNat_natCast]; show _ < _; omega
      by_cases hS0 : S.getD a 0 = 0
      · rw [hS0] at q0
        go_wp2_with fail
        rw [HWA.out]
        exact ⟨⟨a + 1, rfl, HI.out.1, by omega, fun k hk => by
          by_cases hka : k < a
          · exact HI.out.2.2 k hka
          · rw [show k = a by omega]
            exact Or.inl hS0⟩, hs.out⟩
      · have hpos : 0 < S.getD a 0 := by
          have e1 := HNo.out.2 a hS0
          have e2 := size_three (ws.getD a 0)
          omega
        have HSn : Hid (S.getD a 0 ≠ 0) := hS0
        have HOa := hid (HOb.out wr a HI.out.1.ist hS0)
        obtain ⟨l0, l1, l2, l3, l4, l5, l6, l7, l8, l9, l10⟩ := HI.out.1.blk.cells
        dsimp only at l0 l1 l2 l3 l4 l5 l6 l7 l8 l9 l10
        generalize hq : S.getD a 0 = q at q0 hpos
        clear hq
        generalize hP : implAt ws S ⟨g1, g2, g3, g4, g5, g6, g7, g8, g9⟩ a = p at *
        have HP := hid hP
        clear hS0 hP HOb
        go_wp2_with fail
        refine HOa.out.mono ?_
        rintro e W5 ⟨rfl, hb5⟩
        have HL5 := hid (HI.out.1.keep hb5)
        clear hb5 HOa l0 l1 l2 l3 l4 l5 l6 l7 l8 l9 l10 q0
        cases p
        · obtain ⟨z0, z1, z2, z3, z4, z5, z6, z7, z8, z9, z10⟩ := LayBlk.cells (h := ⟨0, 0, 0, 0, 0, 0, 0, 0, 0⟩) HL5.out.res
          dsimp only at z0 z1 z2 z3 z4 z5 z6 z7 z8 z9 z10
          have f0 := frozen_of_heap HL5.out.res 0
          have f1 := frozen_of_heap HL5.out.res 1
          have f2 := frozen_of_heap HL5.out.res 2
          have f3 := frozen_of_heap HL5.out.res 3
          have f4 := frozen_of_heap HL5.out.res 4
          have f5 := frozen_of_heap HL5.out.res 5
          have f6 := frozen_of_heap HL5.out.res 6
          have f7 := frozen_of_heap HL5.out.res 7
          have f8 := frozen_of_heap HL5.out.res 8
          have f9 := frozen_of_heap HL5.out.res 9
          have f10 := frozen_of_heap HL5.out.res 10
          go_wp2_with fail
          refine lay_use HL5.out.res (.slice none 0 0) ⟨0, 0, 0, 0, 0, 0, 0, 0, 0⟩ (.slice none 0 0) _ ?_
          intro W9 hL9 hb9 _ _
          exact HRet.out _ W9 rfl rfl hL9 (iobjs_false (by omega) HSn.out HP.out) (HL5.out.below.trans (hb9 _ HL5.out.lowR))
        · go_wp2_with fail
          rw [HWA.out]
          exact ⟨⟨a + 1, rfl, HL5.out, by omega, fun k hk => by
            by_cases hka : k < a
            · exact HI.out.2.2 k hka
            · rw [show k = a by omega]
              exact Or.inr HP.out⟩, hs.out⟩
    · go_wp2_with fail
      exact HExit.out _ _ _ _ _ _ _ _ _ _ _ _ _ _ _ _ _ _ wr (iobjs_true (fun k hk => HI.out.2.2 k (by omega))) HI.out.1
end Go.Proofs.Ytnoobonlmfgfhaa
