/- The program lays a heap out: what it does once it has room for its notes. -/
import Derived.Test.YtnoobonlmfgfhaaImplHeapL
import Derived.Deep.RegionHeld3
namespace Go.Proofs.Ytnoobonlmfgfhaa
open Go.RowKit

def afterRegion (n : Nat) : Code → Option Code
  | .seq (.region m _ _) b => if m = n then some b else afterRegion n b
  | .seq a b => match afterRegion n a with
    | some c => some c
    | none => afterRegion n b
  | .block _ c => afterRegion n c
  | .scope c => afterRegion n c
  | .cond _ a b => match afterRegion n a with
    | some c => some c
    | none => afterRegion n b
  | _ => none

noncomputable def layRest : Code := ((Try.f40.body.bind (afterRegion 3)).getD .skip)

/-- What is told behind it. -/
def LayTold (b off cap N : Nat) (ws : List Int) (h : HpN) (w : World) (e : Ending) (w' : World) : Prop :=
  ((implOk ws h = false ∧ e = .returned (.tuple #[noLay, .bool false])) ∨ (∃ S gb, implLay ws h = some S ∧ implOk ws h = true ∧ e = .returned (.tuple #[layV (.slice (some ⟨b, off, none⟩) N cap) h (.slice (some ⟨gb, 0, none⟩) N N), .bool true]) ∧ w.heap.size ≤ gb ∧ ISt b off gb N ws S w')) ∧ Below w.heap.size w w'

set_option maxHeartbeats 40000000 in
set_option maxRecDepth 1000000 in
theorem layRest_wp (b off cap gb bR bL N : Nat) (ws : List Int) (h : HpN) (w W0 : World) (hN : ws.length = N) (ho : Ordered h N) (hcap : N ≤ cap) (hb : b < w.heap.size) (hL0 : LSt w b off bR bL gb N ws (.slice (some ⟨b, off, none⟩) N cap) h (List.replicate N 0) W0)
    (e0 e5 e6 e7 e8 e9 e10 e11 e12 e13 e14 e15 e16 e17 e18 e19 e20 e21 e22 e23 e24 e25 e26 e27 e28 e29 e30 e31 e32 e33 e34 e35 e36 e37 e38 e39 e40 e41 e42 e43 e44 e45 e46 e47 e48 e49 e50 e51 e52 e53 e54 e55 e56 e57 e58 e59 e60 e61 e62 e63 e64 e65 e66 e67 e68 e69 e70 e71 e72 e73 e74 e75 e76 e77 e78 e79 e80 e81 e82 e83 e84 e85 e86 e87 e88 e89 e90 e91 : Value) : Code.wp Try.prog layRest (bodyPost Try.prog Try.f40 (LayTold b off cap N ws h w)) ⟨(List.toArray (e0 :: .pointer (some ⟨w.heap.size, 0, none⟩) :: .pointer (some ⟨bR, 0, none⟩) :: .bool false :: .pointer (some ⟨bL, 0, none⟩) :: e5 :: e6 :: e7 :: e8 :: e9 :: e10 :: e11 :: e12 :: e13 :: e14 :: e15 :: e16 :: e17 :: e18 :: e19 :: e20 :: e21 :: e22 :: e23 :: e24 :: e25 :: e26 :: e27 :: e28 :: e29 :: e30 :: e31 :: e32 :: e33 :: e34 :: e35 :: e36 :: e37 :: e38 :: e39 :: e40 :: e41 :: e42 :: e43 :: e44 :: e45 :: e46 :: e47 :: e48 :: e49 :: e50 :: e51 :: e52 :: e53 :: e54 :: e55 :: e56 :: e57 :: e58 :: e59 :: e60 :: e61 :: e62 :: e63 :: e64 :: e65 :: e66 :: e67 :: e68 :: e69 :: e70 :: e71 :: e72 :: e73 :: e74 :: e75 :: e76 :: e77 :: e78 :: e79 :: e80 :: e81 :: e82 :: e83 :: e84 :: e85 :: e86 :: e87 :: e88 :: e89 :: e90 :: e91 :: [])), []⟩ W0 := by
  have HO := hid ho
  have HN := hid hN
  have HCap := hid hcap
  have hN8 : N ≤ 8000 := by obtain ⟨o1, o2, o3, _⟩ := ho; omega
  have HL0 := hid hL0
  clear ho hN hcap hL0
  obtain ⟨g1, g2, g3, g4, g5, g6, g7, g8, g9⟩ := h
  conv => arg 2; whnf
  have HR0 : Hid (implLay ws ⟨g1, g2, g3, g4, g5, g6, g7, g8, g9⟩ = match lay ws g2.toNat g3.toNat (List.replicate N 0) with
    | none => none
    | some S1 => match lay ws g4.toNat (g2 + g1).toNat S1 with
      | none => none
      | some S2 => if g5 < g3 then
          (if S2.getD g5.toNat 0 = 0 then none else
            match lay ws (g1 - g2).toNat g6.toNat S2 with
            | none => none
            | some S3 => lay ws g7.toNat (g1 - g2 + g1).toNat S3)
        else some S2) := by show _ = _; rw [← HN.out]; rfl
  have hgg : 0 ≤ g2 ∧ g2 ≤ 4000 ∧ 20 ≤ g1 ∧ g1 ≤ 4000 := (by obtain ⟨o1, o2, o3, o4, o5, o6, o7, o8, o9, o10, o11, o12, o13⟩ := HO.out; dsimp only at *; omega)
  obtain ⟨hgg1, hgg2, hgg3, hgg4⟩ := hgg
  obtain ⟨c0, c1, c2, c3, c4, c5, c6, c7, c8, c9⟩ := HL0.out.heap.cells
  dsimp only at c0 c1 c2 c3 c4 c5 c6 c7 c8 c9
  obtain ⟨l0, l1, l2, l3, l4, l5, l6, l7, l8, l9, l10⟩ := HL0.out.blk.cells
  dsimp only at l0 l1 l2 l3 l4 l5 l6 l7 l8 l9 l10
  go_wp2_with fail
  clear c0 c1 c2 c3 c4 c5 c6 c7 c8 c9 l0 l1 l2 l3 l4 l5 l6 l7 l8 l9 l10
  refine (implLay_at b off cap gb N N _ _ ws _ ⟨g1, g2, g3, g4, g5, g6, g7, g8, g9⟩ _ HL0.out.len hN8 (by obtain ⟨o1, o2, o3, o4, o5, o6, o7, o8, o9, o10, o11, o12, o13⟩ := HO.out; dsimp only at *; omega) (by obtain ⟨o1, o2, o3, o4, o5, o6, o7, o8, o9, o10, o11, o12, o13⟩ := HO.out; dsimp only at *; omega) (by obtain ⟨o1, o2, o3, o4, o5, o6, o7, o8, o9, o10, o11, o12, o13⟩ := HO.out; dsimp only at *; omega) HL0.out.blt HL0.out.words HL0.out.ne HL0.out.row).mono ?_
  rintro e W1 ⟨⟨ok, rfl, hres⟩, hg⟩
  rcases hres with ⟨hn, rfl, _⟩ | ⟨S1, hs1, rfl, hl1, hr1⟩
  · have HRs := hid (show LayBlk W1 bR (.slice none 0 0) ⟨0, 0, 0, 0, 0, 0, 0, 0, 0⟩ (.slice none 0 0) from (hg.block _ (heap_lt HL0.out.res) (by simpa using HL0.out.ne2)).trans HL0.out.res)
    have HBw := hid (HL0.out.below.grown hg HL0.out.below.size (fun k hk => by cases hk; exact HL0.out.low))
    have HLow := hid HL0.out.lowR
    have HF : Hid (implOk ws ⟨g1, g2, g3, g4, g5, g6, g7, g8, g9⟩ = false) := by show _ = _; unfold implOk; rw [HR0.out, hn]
    obtain ⟨z0, z1, z2, z3, z4, z5, z6, z7, z8, z9, z10⟩ := LayBlk.cells (h := ⟨0, 0, 0, 0, 0, 0, 0, 0, 0⟩) HRs.out
    dsimp only at z0 z1 z2 z3 z4 z5 z6 z7 z8 z9 z10
    have f0 := frozen_of_heap HRs.out 0
    have f1 := frozen_of_heap HRs.out 1
    have f2 := frozen_of_heap HRs.out 2
    have f3 := frozen_of_heap HRs.out 3
    have f4 := frozen_of_heap HRs.out 4
    have f5 := frozen_of_heap HRs.out 5
    have f6 := frozen_of_heap HRs.out 6
    have f7 := frozen_of_heap HRs.out 7
    have f8 := frozen_of_heap HRs.out 8
    have f9 := frozen_of_heap HRs.out 9
    have f10 := frozen_of_heap HRs.out 10
    clear hg HL0
    go_wp2_with fail
    refine lay_use HRs.out (.slice none 0 0) ⟨0, 0, 0, 0, 0, 0, 0, 0, 0⟩ (.slice none 0 0) _ ?_
    intro W9 hL9 hb9 _ _
    obtain ⟨d0, d1, d2, d3, d4, d5, d6, d7, d8, d9, d10⟩ := hL9.cells
    dsimp only at d0 d1 d2 d3 d4 d5 d6 d7 d8 d9 d10
    exact bodyPost_ret (v := .tuple #[noLay, .bool false]) (by simp [results, Try.results40, go_sem, noLay, layV, d0, d1, d2, d3, d4, d5, d6, d7, d8, d9, d10]) rfl ⟨Or.inl ⟨HF.out, rfl⟩, HBw.out.trans (hb9 _ HLow.out)⟩
  have HL1 := hid (HL0.out.step hg hl1 hr1)
  have HR1 := hid (HR0.out.trans (by rw [hs1]))
  clear hg hl1 hr1 HL0 HR0
  obtain ⟨c0, c1, c2, c3, c4, c5, c6, c7, c8, c9⟩ := HL1.out.heap.cells
  dsimp only at c0 c1 c2 c3 c4 c5 c6 c7 c8 c9
  obtain ⟨l0, l1, l2, l3, l4, l5, l6, l7, l8, l9, l10⟩ := HL1.out.blk.cells
  dsimp only at l0 l1 l2 l3 l4 l5 l6 l7 l8 l9 l10
  go_wp2_with fail
  clear c0 c1 c2 c3 c4 c5 c6 c7 c8 c9 l0 l1 l2 l3 l4 l5 l6 l7 l8 l9 l10
  refine (implLay_at b off cap gb N N _ _ ws _ ⟨g1, g2, g3, g4, g5, g6, g7, g8, g9⟩ _ HL1.out.len hN8 (by obtain ⟨o1, o2, o3, o4, o5, o6, o7, o8, o9, o10, o11, o12, o13⟩ := HO.out; dsimp only at *; omega) (by obtain ⟨o1, o2, o3, o4, o5, o6, o7, o8, o9, o10, o11, o12, o13⟩ := HO.out; dsimp only at *; omega) (by obtain ⟨o1, o2, o3, o4, o5, o6, o7, o8, o9, o10, o11, o12, o13⟩ := HO.out; dsimp only at *; omega) HL1.out.blt HL1.out.words HL1.out.ne HL1.out.row).mono ?_
  rintro e W2 ⟨⟨ok, rfl, hres⟩, hg⟩
  rcases hres with ⟨hn, rfl, _⟩ | ⟨S2, hs2, rfl, hl2, hr2⟩
  · have HRs := hid (show LayBlk W2 bR (.slice none 0 0) ⟨0, 0, 0, 0, 0, 0, 0, 0, 0⟩ (.slice none 0 0) from (hg.block _ (heap_lt HL1.out.res) (by simpa using HL1.out.ne2)).trans HL1.out.res)
    have HBw := hid (HL1.out.below.grown hg HL1.out.below.size (fun k hk => by cases hk; exact HL1.out.low))
    have HLow := hid HL1.out.lowR
    have HF : Hid (implOk ws ⟨g1, g2, g3, g4, g5, g6, g7, g8, g9⟩ = false) := by show _ = _; unfold implOk; rw [HR1.out, hn]
    obtain ⟨z0, z1, z2, z3, z4, z5, z6, z7, z8, z9, z10⟩ := LayBlk.cells (h := ⟨0, 0, 0, 0, 0, 0, 0, 0, 0⟩) HRs.out
    dsimp only at z0 z1 z2 z3 z4 z5 z6 z7 z8 z9 z10
    have f0 := frozen_of_heap HRs.out 0
    have f1 := frozen_of_heap HRs.out 1
    have f2 := frozen_of_heap HRs.out 2
    have f3 := frozen_of_heap HRs.out 3
    have f4 := frozen_of_heap HRs.out 4
    have f5 := frozen_of_heap HRs.out 5
    have f6 := frozen_of_heap HRs.out 6
    have f7 := frozen_of_heap HRs.out 7
    have f8 := frozen_of_heap HRs.out 8
    have f9 := frozen_of_heap HRs.out 9
    have f10 := frozen_of_heap HRs.out 10
    clear hg HL1
    go_wp2_with fail
    refine lay_use HRs.out (.slice none 0 0) ⟨0, 0, 0, 0, 0, 0, 0, 0, 0⟩ (.slice none 0 0) _ ?_
    intro W9 hL9 hb9 _ _
    obtain ⟨d0, d1, d2, d3, d4, d5, d6, d7, d8, d9, d10⟩ := hL9.cells
    dsimp only at d0 d1 d2 d3 d4 d5 d6 d7 d8 d9 d10
    exact bodyPost_ret (v := .tuple #[noLay, .bool false]) (by simp [results, Try.results40, go_sem, noLay, layV, d0, d1, d2, d3, d4, d5, d6, d7, d8, d9, d10]) rfl ⟨Or.inl ⟨HF.out, rfl⟩, HBw.out.trans (hb9 _ HLow.out)⟩
  have HL2 := hid (HL1.out.step hg hl2 hr2)
  have HR2 := hid (HR1.out.trans (by rw [hs2]))
  clear hg hl2 hr2 HL1 HR1
  obtain ⟨c0, c1, c2, c3, c4, c5, c6, c7, c8, c9⟩ := HL2.out.heap.cells
  dsimp only at c0 c1 c2 c3 c4 c5 c6 c7 c8 c9
  obtain ⟨l0, l1, l2, l3, l4, l5, l6, l7, l8, l9, l10⟩ := HL2.out.blk.cells
  dsimp only at l0 l1 l2 l3 l4 l5 l6 l7 l8 l9 l10
  by_cases hsc : g5 < g3
  · obtain ⟨sc, hsc5⟩ := Int.eq_ofNat_of_zero_le (show 0 ≤ g5 from (by obtain ⟨o1, o2, o3, o4, o5, o6, o7, o8, o9, o10, o11, o12, o13⟩ := HO.out; dsimp only at *; omega))
    have hscN : sc < N := by obtain ⟨o1, o2, o3, o4, o5, o6, o7, o8, o9, o10, o11, o12, o13⟩ := HO.out; dsimp only at *; omega
    have q0 := HL2.out.row.cell (i := sc) hscN
    unfold intCells at q0
    have HR2' := hid (HR2.out.trans (if_pos hsc))
    subst hsc5
    rw [Int.toNat_natCast] at HR2'
    clear HR2
    have hd5 : decide ((sc : Int) < g3) = true := decide_eq_true hsc
    by_cases hz : S2.getD sc 0 = 0
    · rw [hz] at q0
      have HF : Hid (implOk ws ⟨g1, g2, g3, g4, (sc : Int), g6, g7, g8, g9⟩ = false) := by show _ = _; unfold implOk; rw [HR2'.out, if_pos hz]
      have HRes := hid (fun x : Later W2.heap.size W2 => HL2.out.res.below x.h)
      have HBel := hid (fun x : Later W2.heap.size W2 => HL2.out.below.trans (x.h.mono HL2.out.below.size))
      have hgl := HL2.out.row.lt
      have vq : ∀ x : Later W2.heap.size W2, x.w.cell? ⟨gb, sc, none⟩ = some (.int .i64 0) := fun x => x.cell hgl q0
      obtain ⟨v0, v1, v2, v3, v4, v5, v6, v7, v8, v9⟩ := HL2.out.heap.later (B := W2.heap.size) (heap_lt HL2.out.heap)
      dsimp only at v0 v1 v2 v3 v4 v5 v6 v7 v8 v9
      obtain ⟨m0, m1, m2, m3, m4, m5, m6, m7, m8, m9, m10⟩ := HL2.out.blk.later (B := W2.heap.size) (heap_lt HL2.out.blk)
      dsimp only at m0 m1 m2 m3 m4 m5 m6 m7 m8 m9 m10
      go_wp2_with fail
      clear c0 c1 c2 c3 c4 c5 c6 c7 c8 c9 l0 l1 l2 l3 l4 l5 l6 l7 l8 l9 l10 q0
      refine wp_region_calm W2.heap.size (by kernel_rfl) (by kernel_rfl) ?_
      repeat (go_big_quiet_step (fail))
      refine wpQuiet_nil ?_
      rintro w5 ⟨x, rfl⟩
      clear v0 v1 v2 v3 v4 v5 v6 v7 v8 v9 m0 m1 m2 m3 m4 m5 m6 m7 m8 m9 m10
      clear vq
      have HRs := hid (show LayBlk x.w bR (.slice none 0 0) ⟨0, 0, 0, 0, 0, 0, 0, 0, 0⟩ (.slice none 0 0) from HRes.out x)
      have HBw := hid (HBel.out x)
      have HLow := hid HL2.out.lowR
      obtain ⟨z0, z1, z2, z3, z4, z5, z6, z7, z8, z9, z10⟩ := LayBlk.cells (h := ⟨0, 0, 0, 0, 0, 0, 0, 0, 0⟩) HRs.out
      dsimp only at z0 z1 z2 z3 z4 z5 z6 z7 z8 z9 z10
      have f0 := frozen_of_heap HRs.out 0
      have f1 := frozen_of_heap HRs.out 1
      have f2 := frozen_of_heap HRs.out 2
      have f3 := frozen_of_heap HRs.out 3
      have f4 := frozen_of_heap HRs.out 4
      have f5 := frozen_of_heap HRs.out 5
      have f6 := frozen_of_heap HRs.out 6
      have f7 := frozen_of_heap HRs.out 7
      have f8 := frozen_of_heap HRs.out 8
      have f9 := frozen_of_heap HRs.out 9
      have f10 := frozen_of_heap HRs.out 10
      go_wp2_with fail
      refine lay_use HRs.out (.slice none 0 0) ⟨0, 0, 0, 0, 0, 0, 0, 0, 0⟩ (.slice none 0 0) _ ?_
      intro W9 hL9 hb9 _ _
      obtain ⟨d0, d1, d2, d3, d4, d5, d6, d7, d8, d9, d10⟩ := hL9.cells
      dsimp only at d0 d1 d2 d3 d4 d5 d6 d7 d8 d9 d10
      exact bodyPost_ret (v := .tuple #[noLay, .bool false]) (by simp [results, Try.results40, go_sem, noLay, layV, d0, d1, d2, d3, d4, d5, d6, d7, d8, d9, d10]) rfl ⟨Or.inl ⟨HF.out, rfl⟩, HBw.out.trans (hb9 _ HLow.out)⟩
    · have hz1 : (S2.getD sc 0 == 0) = false := by simpa using hz
      have HR2 := hid (HR2'.out.trans (if_neg hz))
      clear HR2'
      generalize hq0 : S2.getD sc 0 = q at *
      have HQ := hid hq0
      clear hq0
      have hgl := HL2.out.row.lt
      cases hs3 : lay ws (g1 - g2).toNat g6.toNat S2 with
      | none =>
        have HF : Hid (implOk ws ⟨g1, g2, g3, g4, (sc : Int), g6, g7, g8, g9⟩ = false) := by show _ = _; unfold implOk; rw [HR2.out, hs3]
        have HRes := hid (fun x : Loose gb N sc q W2 => show LayBlk x.w bR (.slice none 0 0) ⟨0, 0, 0, 0, 0, 0, 0, 0, 0⟩ (.slice none 0 0) from (x.h.block _ (heap_lt HL2.out.res) (by simpa using HL2.out.ne2)).trans HL2.out.res)
        have HBel := hid (fun x : Loose gb N sc q W2 => HL2.out.below.grown x.h HL2.out.below.size (fun k hk => by cases hk; exact HL2.out.low))
        have HOx := hid (fun x : Loose gb N sc q W2 => other_loose x (v := .slice (some ⟨b, off, none⟩) N cap) (h := ⟨g1, g2, g3, g4, (sc : Int), g6, g7, g8, g9⟩) HL2.out.row.lt hgg1 hgg2 (by dsimp only; omega) hgg4)
        have HY1 := hid (fun x : Loose gb N sc q W2 => lay_loose (cap := cap) (h := ⟨g1, g2, g3, g4, (sc : Int), g6, g7, g8, g9⟩) HL2.out x hN8 (show 0 ≤ g1 - g2 from (by obtain ⟨o1, o2, o3, o4, o5, o6, o7, o8, o9, o10, o11, o12, o13⟩ := HO.out; dsimp only at *; omega)) (show 0 ≤ g6 from (by obtain ⟨o1, o2, o3, o4, o5, o6, o7, o8, o9, o10, o11, o12, o13⟩ := HO.out; dsimp only at *; omega)) (show g6 ≤ N from (by obtain ⟨o1, o2, o3, o4, o5, o6, o7, o8, o9, o10, o11, o12, o13⟩ := HO.out; dsimp only at *; omega)) HQ.out (by obtain ⟨o1, o2, o3, o4, o5, o6, o7, o8, o9, o10, o11, o12, o13⟩ := HO.out; dsimp only at *; omega) (ok := false) (by rw [hs3]; simp))
        have vq : ∀ x : Loose gb N sc q W2, x.w.cell? ⟨gb, sc, none⟩ = some (.int .i64 q) := fun x => x.at ⟨S2, HL2.out.len, HL2.out.row, HQ.out⟩ hscN
        unfold layV heapV at *
        dsimp only at *
        obtain ⟨v0, v1, v2, v3, v4, v5, v6, v7, v8, v9⟩ := HeapBlk.loose (gb := gb) (N := N) (sc := sc) (q := q) HL2.out.heap HL2.out.ne1
        dsimp only at v0 v1 v2 v3 v4 v5 v6 v7 v8 v9
        obtain ⟨m0, m1, m2, m3, m4, m5, m6, m7, m8, m9, m10⟩ := LayBlk.loose (gb := gb) (N := N) (sc := sc) (q := q) HL2.out.blk HL2.out.ne3
        dsimp only at m0 m1 m2 m3 m4 m5 m6 m7 m8 m9 m10
        go_wp2_with fail
        clear c0 c1 c2 c3 c4 c5 c6 c7 c8 c9 l0 l1 l2 l3 l4 l5 l6 l7 l8 l9 l10
        refine wp_region_loose gb N sc q (by kernel_rfl) (by kernel_rfl) ?_
        repeat (go_big_quiet_step (first | (rename_i x; go_at_call 69; refine (HOx.out x).mono ?_; rintro e w5 ⟨rfl, y, rfl⟩; exact ⟨rfl, y, rfl⟩) | (rename_i x; go_at_call 68; refine (HY1.out x).mono ?_; rintro e w5 ⟨rfl, y, rfl⟩; exact ⟨rfl, y, rfl⟩)))
        refine wpQuiet_nil ?_
        rintro w5 ⟨x, rfl⟩
        clear v0 v1 v2 v3 v4 v5 v6 v7 v8 v9 m0 m1 m2 m3 m4 m5 m6 m7 m8 m9 m10
        clear vq
        have HRs := hid (show LayBlk x.w bR (.slice none 0 0) ⟨0, 0, 0, 0, 0, 0, 0, 0, 0⟩ (.slice none 0 0) from HRes.out x)
        have HBw := hid (HBel.out x)
        have HLow := hid HL2.out.lowR
        obtain ⟨z0, z1, z2, z3, z4, z5, z6, z7, z8, z9, z10⟩ := LayBlk.cells (h := ⟨0, 0, 0, 0, 0, 0, 0, 0, 0⟩) HRs.out
        dsimp only at z0 z1 z2 z3 z4 z5 z6 z7 z8 z9 z10
        have f0 := frozen_of_heap HRs.out 0
        have f1 := frozen_of_heap HRs.out 1
        have f2 := frozen_of_heap HRs.out 2
        have f3 := frozen_of_heap HRs.out 3
        have f4 := frozen_of_heap HRs.out 4
        have f5 := frozen_of_heap HRs.out 5
        have f6 := frozen_of_heap HRs.out 6
        have f7 := frozen_of_heap HRs.out 7
        have f8 := frozen_of_heap HRs.out 8
        have f9 := frozen_of_heap HRs.out 9
        have f10 := frozen_of_heap HRs.out 10
        go_wp2_with fail
        refine lay_use HRs.out (.slice none 0 0) ⟨0, 0, 0, 0, 0, 0, 0, 0, 0⟩ (.slice none 0 0) _ ?_
        intro W9 hL9 hb9 _ _
        obtain ⟨d0, d1, d2, d3, d4, d5, d6, d7, d8, d9, d10⟩ := hL9.cells
        dsimp only at d0 d1 d2 d3 d4 d5 d6 d7 d8 d9 d10
        exact bodyPost_ret (v := .tuple #[noLay, .bool false]) (by simp [results, Try.results40, go_sem, noLay, layV, d0, d1, d2, d3, d4, d5, d6, d7, d8, d9, d10]) rfl ⟨Or.inl ⟨HF.out, rfl⟩, HBw.out.trans (hb9 _ HLow.out)⟩
      | some S3 =>
        have HR3 : Hid (implLay ws ⟨g1, g2, g3, g4, (sc : Int), g6, g7, g8, g9⟩ = lay ws g7.toNat (g1 - g2 + g1).toNat S3) := HR2.out.trans (by rw [hs3])
        clear HR2
        cases hs4 : lay ws g7.toNat (g1 - g2 + g1).toNat S3 with
        | none =>
          have HF : Hid (implOk ws ⟨g1, g2, g3, g4, (sc : Int), g6, g7, g8, g9⟩ = false) := by show _ = _; unfold implOk; rw [HR3.out, hs4]
          have HOt := hid (fun (w' : World) => other_exact (.slice (some ⟨b, off, none⟩) N cap) ⟨g1, g2, g3, g4, (sc : Int), g6, g7, g8, g9⟩ w' hgg1 hgg2 (by dsimp only; omega) hgg4)
          have HX1 := hid (fun (X : World) (hX : LSt w b off bR bL gb N ws (.slice (some ⟨b, off, none⟩) N cap) ⟨g1, g2, g3, g4, (sc : Int), g6, g7, g8, g9⟩ S2 X) => lay_exact (cap := cap) (h := ⟨g1, g2, g3, g4, (sc : Int), g6, g7, g8, g9⟩) hX hN8 (show 0 ≤ g1 - g2 from (by obtain ⟨o1, o2, o3, o4, o5, o6, o7, o8, o9, o10, o11, o12, o13⟩ := HO.out; dsimp only at *; omega)) (show 0 ≤ g6 from (by obtain ⟨o1, o2, o3, o4, o5, o6, o7, o8, o9, o10, o11, o12, o13⟩ := HO.out; dsimp only at *; omega)) (show g6 ≤ N from (by obtain ⟨o1, o2, o3, o4, o5, o6, o7, o8, o9, o10, o11, o12, o13⟩ := HO.out; dsimp only at *; omega)) hs3)
          have HQ3 : Hid (S3.getD sc 0 = q) := (lay_else hs3 sc (by obtain ⟨o1, o2, o3, o4, o5, o6, o7, o8, o9, o10, o11, o12, o13⟩ := HO.out; dsimp only at *; omega)).trans HQ.out
          have HX2 : Hid (∀ (X : World) (T : Int), T = g1 - g2 + g1 → LSt w b off bR bL gb N ws (.slice (some ⟨b, off, none⟩) N cap) ⟨g1, g2, g3, g4, (sc : Int), g6, g7, g8, g9⟩ S3 X → Calls Try.prog 68 #[layV (.slice (some ⟨b, off, none⟩) N cap) ⟨g1, g2, g3, g4, (sc : Int), g6, g7, g8, g9⟩ (.slice (some ⟨gb, 0, none⟩) N N), .int .i64 g7, .int .i64 T] X fun e w' => e = .returned (.bool false) ∧ ∃ S4 : List Int, S4.getD sc 0 = q ∧ LSt w b off bR bL gb N ws (.slice (some ⟨b, off, none⟩) N cap) ⟨g1, g2, g3, g4, (sc : Int), g6, g7, g8, g9⟩ S4 w') := by
            intro X T hT hX
            subst hT
            exact lay_fails (cap := cap) (h := ⟨g1, g2, g3, g4, (sc : Int), g6, g7, g8, g9⟩) hX hN8 (show 0 ≤ g7 from (by obtain ⟨o1, o2, o3, o4, o5, o6, o7, o8, o9, o10, o11, o12, o13⟩ := HO.out; dsimp only at *; omega)) (show 0 ≤ g1 - g2 + g1 from (by obtain ⟨o1, o2, o3, o4, o5, o6, o7, o8, o9, o10, o11, o12, o13⟩ := HO.out; dsimp only at *; omega)) (show g1 - g2 + g1 ≤ N from (by obtain ⟨o1, o2, o3, o4, o5, o6, o7, o8, o9, o10, o11, o12, o13⟩ := HO.out; dsimp only at *; omega)) hs4 HQ3.out (by obtain ⟨o1, o2, o3, o4, o5, o6, o7, o8, o9, o10, o11, o12, o13⟩ := HO.out; dsimp only at *; omega)
          unfold layV heapV at *
          dsimp only at *
          have hG2 := HL2.out.row.lt
          have hH2 := heap_lt HL2.out.heap
          have hB2 := heap_lt HL2.out.blk
          go_wp2_with fail
          go_region_held3 (fun w' => w'.cell? ⟨w.heap.size, 0, none⟩ = some (.slice (some ⟨b, off, none⟩) N cap) ∧ w'.cell? ⟨w.heap.size, 1, none⟩ = some (.int .i64 g1) ∧ w'.cell? ⟨w.heap.size, 2, none⟩ = some (.int .i64 g2) ∧ w'.cell? ⟨w.heap.size, 3, none⟩ = some (.int .i64 g3) ∧ w'.cell? ⟨w.heap.size, 4, none⟩ = some (.int .i64 g4) ∧ w'.cell? ⟨w.heap.size, 5, none⟩ = some (.int .i64 (sc : Int)) ∧ w'.cell? ⟨w.heap.size, 6, none⟩ = some (.int .i64 g6) ∧ w'.cell? ⟨w.heap.size, 7, none⟩ = some (.int .i64 g7) ∧ w'.cell? ⟨w.heap.size, 8, none⟩ = some (.int .i64 g8) ∧ w'.cell? ⟨w.heap.size, 9, none⟩ = some (.int .i64 g9) ∧ w'.cell? ⟨bL, 0, none⟩ = some (.slice (some ⟨b, off, none⟩) N cap) ∧ w'.cell? ⟨bL, 1, none⟩ = some (.int .i64 g1) ∧ w'.cell? ⟨bL, 2, none⟩ = some (.int .i64 g2) ∧ w'.cell? ⟨bL, 3, none⟩ = some (.int .i64 g3) ∧ w'.cell? ⟨bL, 4, none⟩ = some (.int .i64 g4) ∧ w'.cell? ⟨bL, 5, none⟩ = some (.int .i64 (sc : Int)) ∧ w'.cell? ⟨bL, 6, none⟩ = some (.int .i64 g6) ∧ w'.cell? ⟨bL, 7, none⟩ = some (.int .i64 g7) ∧ w'.cell? ⟨bL, 8, none⟩ = some (.int .i64 g8) ∧ w'.cell? ⟨bL, 9, none⟩ = some (.int .i64 g9) ∧ w'.cell? ⟨bL, 10, none⟩ = some (.slice (some ⟨gb, 0, none⟩) N N) ∧ w'.cell? ⟨gb, sc, none⟩ = some (.int .i64 q)) (go_keep) (first | (go_at_call 69; refine (HOt.out _).mono ?_; rintro e w5 ⟨rfl, rfl⟩) | (go_at_call 68; refine (HX2.out _ _ (by first | rfl | (rw [IntKind.wrap_i64]; omega)) (HL3.out.keep (by first | exact (Below.refl _ _).alloc (Nat.le_refl _) _ | exact ((Below.refl _ _).alloc (Nat.le_refl _) _).drew | exact (Below.refl _ _).drew.alloc (Nat.le_refl _) _))).mono ?_; rintro e W4 ⟨rfl, S4, hq4, hL4⟩; have HL4 := hid hL4; have s0 := hL4.row.cell (i := sc) hscN; unfold intCells at s0; rw [hq4] at s0; obtain ⟨p0, p1, p2, p3, p4, p5, p6, p7, p8, p9⟩ := hL4.heap.cells; dsimp only at p0 p1 p2 p3 p4 p5 p6 p7 p8 p9; obtain ⟨r0, r1, r2, r3, r4, r5, r6, r7, r8, r9, r10⟩ := hL4.blk.cells; dsimp only at r0 r1 r2 r3 r4 r5 r6 r7 r8 r9 r10; clear hL4) | (go_at_call 68; refine (HX1.out _ (HL2.out.keep (by first | exact (Below.refl _ _).alloc (Nat.le_refl _) _ | exact ((Below.refl _ _).alloc (Nat.le_refl _) _).drew | exact (Below.refl _ _).drew.alloc (Nat.le_refl _) _))).mono ?_; rintro e W3 ⟨rfl, hL3⟩; have HL3 := hid hL3; have s0 := hL3.row.cell (i := sc) hscN; unfold intCells at s0; rw [HQ3.out] at s0; obtain ⟨p0, p1, p2, p3, p4, p5, p6, p7, p8, p9⟩ := hL3.heap.cells; dsimp only at p0 p1 p2 p3 p4 p5 p6 p7 p8 p9; obtain ⟨r0, r1, r2, r3, r4, r5, r6, r7, r8, r9, r10⟩ := hL3.blk.cells; dsimp only at r0 r1 r2 r3 r4 r5 r6 r7 r8 r9 r10; clear hL3))
          clear HX1 HX2 HOt
          clear c0 c1 c2 c3 c4 c5 c6 c7 c8 c9 l0 l1 l2 l3 l4 l5 l6 l7 l8 l9 l10 q0
          have HRs := hid HL4.out.res
          have HBw := hid HL4.out.below
          have HLow := hid HL4.out.lowR
          obtain ⟨z0, z1, z2, z3, z4, z5, z6, z7, z8, z9, z10⟩ := LayBlk.cells (h := ⟨0, 0, 0, 0, 0, 0, 0, 0, 0⟩) HRs.out
          dsimp only at z0 z1 z2 z3 z4 z5 z6 z7 z8 z9 z10
          have f0 := frozen_of_heap HRs.out 0
          have f1 := frozen_of_heap HRs.out 1
          have f2 := frozen_of_heap HRs.out 2
          have f3 := frozen_of_heap HRs.out 3
          have f4 := frozen_of_heap HRs.out 4
          have f5 := frozen_of_heap HRs.out 5
          have f6 := frozen_of_heap HRs.out 6
          have f7 := frozen_of_heap HRs.out 7
          have f8 := frozen_of_heap HRs.out 8
          have f9 := frozen_of_heap HRs.out 9
          have f10 := frozen_of_heap HRs.out 10
          go_wp2_with fail
          refine lay_use HRs.out (.slice none 0 0) ⟨0, 0, 0, 0, 0, 0, 0, 0, 0⟩ (.slice none 0 0) _ ?_
          intro W9 hL9 hb9 _ _
          obtain ⟨d0, d1, d2, d3, d4, d5, d6, d7, d8, d9, d10⟩ := hL9.cells
          dsimp only at d0 d1 d2 d3 d4 d5 d6 d7 d8 d9 d10
          exact bodyPost_ret (v := .tuple #[noLay, .bool false]) (by simp [results, Try.results40, go_sem, noLay, layV, d0, d1, d2, d3, d4, d5, d6, d7, d8, d9, d10]) rfl ⟨Or.inl ⟨HF.out, rfl⟩, HBw.out.trans (hb9 _ HLow.out)⟩
        | some S4 =>
          have HRz := hid (HR3.out.trans hs4)
          clear HR3
          have HOt := hid (fun (w' : World) => other_exact (.slice (some ⟨b, off, none⟩) N cap) ⟨g1, g2, g3, g4, (sc : Int), g6, g7, g8, g9⟩ w' hgg1 hgg2 (by dsimp only; omega) hgg4)
          have HX1 := hid (fun (X : World) (hX : LSt w b off bR bL gb N ws (.slice (some ⟨b, off, none⟩) N cap) ⟨g1, g2, g3, g4, (sc : Int), g6, g7, g8, g9⟩ S2 X) => lay_exact (cap := cap) (h := ⟨g1, g2, g3, g4, (sc : Int), g6, g7, g8, g9⟩) hX hN8 (show 0 ≤ g1 - g2 from (by obtain ⟨o1, o2, o3, o4, o5, o6, o7, o8, o9, o10, o11, o12, o13⟩ := HO.out; dsimp only at *; omega)) (show 0 ≤ g6 from (by obtain ⟨o1, o2, o3, o4, o5, o6, o7, o8, o9, o10, o11, o12, o13⟩ := HO.out; dsimp only at *; omega)) (show g6 ≤ N from (by obtain ⟨o1, o2, o3, o4, o5, o6, o7, o8, o9, o10, o11, o12, o13⟩ := HO.out; dsimp only at *; omega)) hs3)
          have HX2 : Hid (∀ (X : World) (T : Int), T = g1 - g2 + g1 → LSt w b off bR bL gb N ws (.slice (some ⟨b, off, none⟩) N cap) ⟨g1, g2, g3, g4, (sc : Int), g6, g7, g8, g9⟩ S3 X → Calls Try.prog 68 #[layV (.slice (some ⟨b, off, none⟩) N cap) ⟨g1, g2, g3, g4, (sc : Int), g6, g7, g8, g9⟩ (.slice (some ⟨gb, 0, none⟩) N N), .int .i64 g7, .int .i64 T] X fun e w' => e = .returned (.bool true) ∧ LSt w b off bR bL gb N ws (.slice (some ⟨b, off, none⟩) N cap) ⟨g1, g2, g3, g4, (sc : Int), g6, g7, g8, g9⟩ S4 w') := by
            intro X T hT hX
            subst hT
            exact lay_exact (cap := cap) (h := ⟨g1, g2, g3, g4, (sc : Int), g6, g7, g8, g9⟩) hX hN8 (show 0 ≤ g7 from (by obtain ⟨o1, o2, o3, o4, o5, o6, o7, o8, o9, o10, o11, o12, o13⟩ := HO.out; dsimp only at *; omega)) (show 0 ≤ g1 - g2 + g1 from (by obtain ⟨o1, o2, o3, o4, o5, o6, o7, o8, o9, o10, o11, o12, o13⟩ := HO.out; dsimp only at *; omega)) (show g1 - g2 + g1 ≤ N from (by obtain ⟨o1, o2, o3, o4, o5, o6, o7, o8, o9, o10, o11, o12, o13⟩ := HO.out; dsimp only at *; omega)) hs4
          unfold layV heapV at *
          dsimp only at *
          have HQ3 : Hid (S3.getD sc 0 = q) := (lay_else hs3 sc (by obtain ⟨o1, o2, o3, o4, o5, o6, o7, o8, o9, o10, o11, o12, o13⟩ := HO.out; dsimp only at *; omega)).trans HQ.out
          have HQ4 : Hid (S4.getD sc 0 = q) := (lay_else hs4 sc (by obtain ⟨o1, o2, o3, o4, o5, o6, o7, o8, o9, o10, o11, o12, o13⟩ := HO.out; dsimp only at *; omega)).trans HQ3.out
          have hG2 := HL2.out.row.lt
          have hH2 := heap_lt HL2.out.heap
          have hB2 := heap_lt HL2.out.blk
          go_wp2_with fail
          go_region_held3 (fun w' => w'.cell? ⟨w.heap.size, 0, none⟩ = some (.slice (some ⟨b, off, none⟩) N cap) ∧ w'.cell? ⟨w.heap.size, 1, none⟩ = some (.int .i64 g1) ∧ w'.cell? ⟨w.heap.size, 2, none⟩ = some (.int .i64 g2) ∧ w'.cell? ⟨w.heap.size, 3, none⟩ = some (.int .i64 g3) ∧ w'.cell? ⟨w.heap.size, 4, none⟩ = some (.int .i64 g4) ∧ w'.cell? ⟨w.heap.size, 5, none⟩ = some (.int .i64 (sc : Int)) ∧ w'.cell? ⟨w.heap.size, 6, none⟩ = some (.int .i64 g6) ∧ w'.cell? ⟨w.heap.size, 7, none⟩ = some (.int .i64 g7) ∧ w'.cell? ⟨w.heap.size, 8, none⟩ = some (.int .i64 g8) ∧ w'.cell? ⟨w.heap.size, 9, none⟩ = some (.int .i64 g9) ∧ w'.cell? ⟨bL, 0, none⟩ = some (.slice (some ⟨b, off, none⟩) N cap) ∧ w'.cell? ⟨bL, 1, none⟩ = some (.int .i64 g1) ∧ w'.cell? ⟨bL, 2, none⟩ = some (.int .i64 g2) ∧ w'.cell? ⟨bL, 3, none⟩ = some (.int .i64 g3) ∧ w'.cell? ⟨bL, 4, none⟩ = some (.int .i64 g4) ∧ w'.cell? ⟨bL, 5, none⟩ = some (.int .i64 (sc : Int)) ∧ w'.cell? ⟨bL, 6, none⟩ = some (.int .i64 g6) ∧ w'.cell? ⟨bL, 7, none⟩ = some (.int .i64 g7) ∧ w'.cell? ⟨bL, 8, none⟩ = some (.int .i64 g8) ∧ w'.cell? ⟨bL, 9, none⟩ = some (.int .i64 g9) ∧ w'.cell? ⟨bL, 10, none⟩ = some (.slice (some ⟨gb, 0, none⟩) N N) ∧ w'.cell? ⟨gb, sc, none⟩ = some (.int .i64 q)) (go_keep) (first | (go_at_call 69; refine (HOt.out _).mono ?_; rintro e w5 ⟨rfl, rfl⟩) | (go_at_call 68; refine (HX2.out _ _ (by first | rfl | (rw [IntKind.wrap_i64]; omega)) (HL3.out.keep (by first | exact (Below.refl _ _).alloc (Nat.le_refl _) _ | exact ((Below.refl _ _).alloc (Nat.le_refl _) _).drew | exact (Below.refl _ _).drew.alloc (Nat.le_refl _) _))).mono ?_; rintro e W4 ⟨rfl, hL4⟩; have HL4 := hid hL4; have s0 := hL4.row.cell (i := sc) hscN; unfold intCells at s0; rw [HQ4.out] at s0; obtain ⟨p0, p1, p2, p3, p4, p5, p6, p7, p8, p9⟩ := hL4.heap.cells; dsimp only at p0 p1 p2 p3 p4 p5 p6 p7 p8 p9; obtain ⟨r0, r1, r2, r3, r4, r5, r6, r7, r8, r9, r10⟩ := hL4.blk.cells; dsimp only at r0 r1 r2 r3 r4 r5 r6 r7 r8 r9 r10; clear hL4) | (go_at_call 68; refine (HX1.out _ (HL2.out.keep (by first | exact (Below.refl _ _).alloc (Nat.le_refl _) _ | exact ((Below.refl _ _).alloc (Nat.le_refl _) _).drew | exact (Below.refl _ _).drew.alloc (Nat.le_refl _) _))).mono ?_; rintro e W3 ⟨rfl, hL3⟩; have HL3 := hid hL3; have s0 := hL3.row.cell (i := sc) hscN; unfold intCells at s0; rw [HQ3.out] at s0; obtain ⟨p0, p1, p2, p3, p4, p5, p6, p7, p8, p9⟩ := hL3.heap.cells; dsimp only at p0 p1 p2 p3 p4 p5 p6 p7 p8 p9; obtain ⟨r0, r1, r2, r3, r4, r5, r6, r7, r8, r9, r10⟩ := hL3.blk.cells; dsimp only at r0 r1 r2 r3 r4 r5 r6 r7 r8 r9 r10; clear hL3))
          clear HX1 HX2 HOt
          clear c0 c1 c2 c3 c4 c5 c6 c7 c8 c9 l0 l1 l2 l3 l4 l5 l6 l7 l8 l9 l10 q0
          go_wp2_with fail
          refine objsLoop b off cap gb bR bL N ws S4 ⟨g1, g2, g3, g4, (sc : Int), g6, g7, g8, g9⟩ w _ HO.out HCap.out (lay_noted (by rw [HN.out]; obtain ⟨o1, o2, o3, o4, o5, o6, o7, o8, o9, o10, o11, o12, o13⟩ := HO.out; dsimp only at *; omega) (lay_noted (by rw [HN.out]; obtain ⟨o1, o2, o3, o4, o5, o6, o7, o8, o9, o10, o11, o12, o13⟩ := HO.out; dsimp only at *; omega) (lay_noted (by rw [HN.out]; obtain ⟨o1, o2, o3, o4, o5, o6, o7, o8, o9, o10, o11, o12, o13⟩ := HO.out; dsimp only at *; omega) (lay_noted (by rw [HN.out]; obtain ⟨o1, o2, o3, o4, o5, o6, o7, o8, o9, o10, o11, o12, o13⟩ := HO.out; dsimp only at *; omega) (izeros_noted HN.out) hs1) hs2) hs3) hs4) (by first | exact HL4.out | exact HL4.out.keep (Below.refl _ _).drew) _ _ _ _ _ _ _ _ _ _ _ _ _ _ _ _ _ _ _ _ _ _ _ _ _ _ _ _ _ _ _ _ _ _ _ _ _ _ _ _ _ _ _ _ _ _ _ _ _ _ _ _ _ _ _ _ _ _ _ _ _ _ _ _ _ _ _ _ _ _ _ _ _ _ _ _ _ _ _ _ _ _ _ _ _ _ _ ?_ ?_
          · intro tmps w' h1 h2 h3 h4 h5
            simp only [Exit.inBlock, Exit.then]
            rw [Array.getD_eq_getD_getElem?] at h1 h2
            obtain ⟨d0, d1, d2, d3, d4, d5, d6, d7, d8, d9, d10⟩ := h3.cells
            dsimp only at d0 d1 d2 d3 d4 d5 d6 d7 d8 d9 d10
            exact bodyPost_ret (v := .tuple #[noLay, .bool false]) (by simp [results, Try.results40, go_sem, noLay, layV, h1, h2, d0, d1, d2, d3, d4, d5, d6, d7, d8, d9, d10]) rfl ⟨Or.inl ⟨by unfold implOk; rw [HRz.out, HN.out]; exact h4, rfl⟩, h5⟩
          · intro d3 d5 d6 d76 d77 d78 d79 d80 d81 d82 d83 d84 d85 d86 d87 d88 d89 d90 w' hall hL
            have HAll := hid hall
            have HLe := hid hL
            obtain ⟨l0, l1, l2, l3, l4, l5, l6, l7, l8, l9, l10⟩ := hL.blk.cells
            dsimp only at l0 l1 l2 l3 l4 l5 l6 l7 l8 l9 l10
            obtain ⟨z0, z1, z2, z3, z4, z5, z6, z7, z8, z9, z10⟩ := LayBlk.cells (h := ⟨0, 0, 0, 0, 0, 0, 0, 0, 0⟩) hL.res
            dsimp only at z0 z1 z2 z3 z4 z5 z6 z7 z8 z9 z10
            have f0 := frozen_of_heap hL.res 0
            have f1 := frozen_of_heap hL.res 1
            have f2 := frozen_of_heap hL.res 2
            have f3 := frozen_of_heap hL.res 3
            have f4 := frozen_of_heap hL.res 4
            have f5 := frozen_of_heap hL.res 5
            have f6 := frozen_of_heap hL.res 6
            have f7 := frozen_of_heap hL.res 7
            have f8 := frozen_of_heap hL.res 8
            have f9 := frozen_of_heap hL.res 9
            have f10 := frozen_of_heap hL.res 10
            clear hall hL
            go_wp2_with fail
            refine lay_use HLe.out.res (.slice (some ⟨b, off, none⟩) N cap) ⟨g1, g2, g3, g4, (sc : Int), g6, g7, g8, g9⟩ (.slice (some ⟨gb, 0, none⟩) N N) _ ?_
            intro W9 hL9 hb9 hsz9 hoth9
            obtain ⟨d0, d1, d2, d3, d4, d5, d6, d7, d8, d9, d10⟩ := hL9.cells
            dsimp only at d0 d1 d2 d3 d4 d5 d6 d7 d8 d9 d10
            have hist := HLe.out.ist
            have hbR : b ≠ bR := by have := HLe.out.lowR; omega
            exact bodyPost_ret (v := .tuple #[layV (.slice (some ⟨b, off, none⟩) N cap) ⟨g1, g2, g3, g4, (sc : Int), g6, g7, g8, g9⟩ (.slice (some ⟨gb, 0, none⟩) N N), .bool true]) (by simp [results, Try.results40, go_sem, layV, d0, d1, d2, d3, d4, d5, d6, d7, d8, d9, d10]) rfl ⟨Or.inr ⟨S4, gb, HRz.out, by unfold implOk; rw [HRz.out, HN.out]; exact HAll.out, rfl, HLe.out.low,
              ⟨hist.wlen, hist.slen, hsz9 ▸ hist.blt, fun k hk => (World.cell?_of_block (w := w') (hoth9 b hbR)).trans (hist.words k hk), hsz9 ▸ hist.glt, fun k hk => (World.cell?_of_block (w := w') (hoth9 gb (fun e => HLe.out.ne2 e.symm))).trans (hist.sizes k hk)⟩⟩, HLe.out.below.trans (hb9 _ HLe.out.lowR)⟩
  · have HR3 := hid (HR2.out.trans (if_neg hsc))
    have hd5 : decide (g5 < g3) = false := decide_eq_false hsc
    clear HR2
    obtain ⟨v0, v1, v2, v3, v4, v5, v6, v7, v8, v9⟩ := HL2.out.heap.later (B := W2.heap.size) (heap_lt HL2.out.heap)
    dsimp only at v0 v1 v2 v3 v4 v5 v6 v7 v8 v9
    obtain ⟨m0, m1, m2, m3, m4, m5, m6, m7, m8, m9, m10⟩ := HL2.out.blk.later (B := W2.heap.size) (heap_lt HL2.out.blk)
    dsimp only at m0 m1 m2 m3 m4 m5 m6 m7 m8 m9 m10
    go_wp2_with fail
    clear c0 c1 c2 c3 c4 c5 c6 c7 c8 c9 l0 l1 l2 l3 l4 l5 l6 l7 l8 l9 l10
    refine wp_region_calm W2.heap.size (by kernel_rfl) (by kernel_rfl) ?_
    repeat (go_big_quiet_step (fail))
    refine wpQuiet_nil ?_
    rintro w5 ⟨x, rfl⟩
    have HLs := hid (HL2.out.keep x.h)
    clear v0 v1 v2 v3 v4 v5 v6 v7 v8 v9 m0 m1 m2 m3 m4 m5 m6 m7 m8 m9 m10
    obtain ⟨c0, c1, c2, c3, c4, c5, c6, c7, c8, c9⟩ := HLs.out.heap.cells
    dsimp only at c0 c1 c2 c3 c4 c5 c6 c7 c8 c9
    obtain ⟨l0, l1, l2, l3, l4, l5, l6, l7, l8, l9, l10⟩ := HLs.out.blk.cells
    dsimp only at l0 l1 l2 l3 l4 l5 l6 l7 l8 l9 l10
    go_wp2_with fail
    clear c0 c1 c2 c3 c4 c5 c6 c7 c8 c9 l0 l1 l2 l3 l4 l5 l6 l7 l8 l9 l10
    have HRz := HR3
    refine objsLoop b off cap gb bR bL N ws S2 ⟨g1, g2, g3, g4, g5, g6, g7, g8, g9⟩ w x.w HO.out HCap.out (lay_noted (by rw [HN.out]; obtain ⟨o1, o2, o3, o4, o5, o6, o7, o8, o9, o10, o11, o12, o13⟩ := HO.out; dsimp only at *; omega) (lay_noted (by rw [HN.out]; obtain ⟨o1, o2, o3, o4, o5, o6, o7, o8, o9, o10, o11, o12, o13⟩ := HO.out; dsimp only at *; omega) (izeros_noted HN.out) hs1) hs2) HLs.out _ _ _ _ _ _ _ _ _ _ _ _ _ _ _ _ _ _ _ _ _ _ _ _ _ _ _ _ _ _ _ _ _ _ _ _ _ _ _ _ _ _ _ _ _ _ _ _ _ _ _ _ _ _ _ _ _ _ _ _ _ _ _ _ _ _ _ _ _ _ _ _ _ _ _ _ _ _ _ _ _ _ _ _ _ _ _ ?_ ?_
    · intro tmps w' h1 h2 h3 h4 h5
      simp only [Exit.inBlock, Exit.then]
      rw [Array.getD_eq_getD_getElem?] at h1 h2
      obtain ⟨d0, d1, d2, d3, d4, d5, d6, d7, d8, d9, d10⟩ := h3.cells
      dsimp only at d0 d1 d2 d3 d4 d5 d6 d7 d8 d9 d10
      exact bodyPost_ret (v := .tuple #[noLay, .bool false]) (by simp [results, Try.results40, go_sem, noLay, layV, h1, h2, d0, d1, d2, d3, d4, d5, d6, d7, d8, d9, d10]) rfl ⟨Or.inl ⟨by unfold implOk; rw [HRz.out, HN.out]; exact h4, rfl⟩, h5⟩
    · intro d3 d5 d6 d76 d77 d78 d79 d80 d81 d82 d83 d84 d85 d86 d87 d88 d89 d90 w' hall hL
      have HAll := hid hall
      have HLe := hid hL
      obtain ⟨l0, l1, l2, l3, l4, l5, l6, l7, l8, l9, l10⟩ := hL.blk.cells
      dsimp only at l0 l1 l2 l3 l4 l5 l6 l7 l8 l9 l10
      obtain ⟨z0, z1, z2, z3, z4, z5, z6, z7, z8, z9, z10⟩ := LayBlk.cells (h := ⟨0, 0, 0, 0, 0, 0, 0, 0, 0⟩) hL.res
      dsimp only at z0 z1 z2 z3 z4 z5 z6 z7 z8 z9 z10
      have f0 := frozen_of_heap hL.res 0
      have f1 := frozen_of_heap hL.res 1
      have f2 := frozen_of_heap hL.res 2
      have f3 := frozen_of_heap hL.res 3
      have f4 := frozen_of_heap hL.res 4
      have f5 := frozen_of_heap hL.res 5
      have f6 := frozen_of_heap hL.res 6
      have f7 := frozen_of_heap hL.res 7
      have f8 := frozen_of_heap hL.res 8
      have f9 := frozen_of_heap hL.res 9
      have f10 := frozen_of_heap hL.res 10
      clear hall hL
      go_wp2_with fail
      refine lay_use HLe.out.res (.slice (some ⟨b, off, none⟩) N cap) ⟨g1, g2, g3, g4, g5, g6, g7, g8, g9⟩ (.slice (some ⟨gb, 0, none⟩) N N) _ ?_
      intro W9 hL9 hb9 hsz9 hoth9
      obtain ⟨d0, d1, d2, d3, d4, d5, d6, d7, d8, d9, d10⟩ := hL9.cells
      dsimp only at d0 d1 d2 d3 d4 d5 d6 d7 d8 d9 d10
      have hist := HLe.out.ist
      have hbR : b ≠ bR := by have := HLe.out.lowR; omega
      exact bodyPost_ret (v := .tuple #[layV (.slice (some ⟨b, off, none⟩) N cap) ⟨g1, g2, g3, g4, g5, g6, g7, g8, g9⟩ (.slice (some ⟨gb, 0, none⟩) N N), .bool true]) (by simp [results, Try.results40, go_sem, layV, d0, d1, d2, d3, d4, d5, d6, d7, d8, d9, d10]) rfl ⟨Or.inr ⟨S2, gb, HRz.out, by unfold implOk; rw [HRz.out, HN.out]; exact HAll.out, rfl, HLe.out.low,
        ⟨hist.wlen, hist.slen, hsz9 ▸ hist.blt, fun k hk => (World.cell?_of_block (w := w') (hoth9 b hbR)).trans (hist.words k hk), hsz9 ▸ hist.glt, fun k hk => (World.cell?_of_block (w := w') (hoth9 gb (fun e => HLe.out.ne2 e.symm))).trans (hist.sizes k hk)⟩⟩, HLe.out.below.trans (hb9 _ HLe.out.lowR)⟩
end Go.Proofs.Ytnoobonlmfgfhaa
