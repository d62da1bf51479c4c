/- The program's loop over the fields of an object. -/
import Derived.Test.YtebpgglegnljgaaImplHeapC
namespace Go.Proofs.Ytebpgglegnljgaa
open Go.RowKit

def implLoopOf : Code → Option Code
  | .loop c => some c
  | .seq a b => match implLoopOf a with
    | some c => some c
    | none => implLoopOf b
  | .block _ c => implLoopOf c
  | .scope c => implLoopOf c
  | .cond _ a b => match implLoopOf a with
    | some c => some c
    | none => implLoopOf b
  | _ => none

noncomputable def fieldsBody : Code := ((Try.f61.body.bind implLoopOf).getD .skip)

theorem all_yes {P : Nat → Bool} {m : Nat} (H : ∀ k, k < m → P k = true) : (List.range m).all P = true := by
  rw [List.all_eq_true]
  exact fun k hk => H k (List.mem_range.1 hk)

theorem all_no {P : Nat → Bool} {m j : Nat} (hj : j < m) (hf : P j = false) : (List.range m).all P = false := by
  rw [List.all_eq_false]
  exact ⟨j, List.mem_range.2 hj, by simp [hf]⟩

def oldI (h : HpN) (a : Nat) : Bool := !inZ h a || decide (h.scan ≤ (a : Int) ∧ (a : Int) < h.bottom)

def implMoved (ws S : List Int) (h : HpN) (a : Nat) : Bool :=
  !inZ h a && (leadsZ S h.size (ws.getD (a + 1) 0) h.to && decide (S.getD (ws.getD (a + 1) 0 / 8).toNat 0 = S.getD a 0))

def implField (S : List Int) (h : HpN) (old : Bool) (x : Int) : Bool := wordOkZ S h x || (old && leadsZ S h.size x (h.size - h.to))

def implAt (ws S : List Int) (h : HpN) (a : Nat) : Bool :=
  if ws.getD a 0 % 16 = 15 then implMoved ws S h a
  else (List.range (sizeN (ws.getD a 0) - 1)).all (fun i => implField S h (oldI h a) (ws.getD (a + (i + 1)) 0))

/-- A heap's words, and the sizes of what lies there. -/
structure ISt (b off gb N : Nat) (ws S : List Int) (W : World) : Prop where
  wlen : ws.length = N
  slen : S.length = N
  blt : b < W.heap.size
  words : ∀ k, k < N → W.cell? ⟨b, off + k, none⟩ = some (.int .i64 (ws.getD k 0))
  glt : gb < W.heap.size
  sizes : ∀ k, k < N → W.cell? ⟨gb, 0 + k, none⟩ = some (.int .i64 (S.getD k 0))

theorem ISt.keep {b off gb N : Nat} {ws S : List Int} {W W' : World} {B : Nat} (s : ISt b off gb N ws S W) (hb : Below B W W') (hB1 : b < B) (hB2 : gb < B) : ISt b off gb N ws S W' where
  wlen := s.wlen
  slen := s.slen
  blt := Nat.lt_of_lt_of_le s.blt hb.size
  words := fun k hk => (hb.cell (p := ⟨b, off + k, none⟩) hB1).trans (s.words k hk)
  glt := Nat.lt_of_lt_of_le s.glt hb.size
  sizes := fun k hk => (hb.cell (p := ⟨gb, 0 + k, none⟩) hB2).trans (s.sizes k hk)

theorem ISt.kept {b off gb N : Nat} {ws S : List Int} {W W' : World} (s : ISt b off gb N ws S W) (hb : Below W.heap.size W W') : ISt b off gb N ws S W' := s.keep hb s.blt s.glt

theorem leads_st {b off gb N gcap : Nat} {ws S : List Int} {W : World} (s : ISt b off gb N ws S W) (v : Value) (h : HpN) (ho : Ordered h N) (x sp : Int) (hsp : sp = h.to ∨ sp = h.size - h.to) :
    Calls Try.prog 51 #[layV v h (.slice (some ⟨gb, 0, none⟩) N gcap), .int .i64 x, .int .i64 sp] W fun e w' => e = .returned (.bool (leadsZ S h.size x sp)) ∧ Below W.heap.size W w' := by
  obtain ⟨o1, o2, o3, o4, _⟩ := ho
  have hs := s.sizes
  have hl := s.slen
  subst hl
  exact leads_calls v h gb 0 gcap S x sp W (by omega) (by omega) (by omega) (by omega) (by omega) s.glt hs

theorem wordOk_st {b off gb N gcap : Nat} {ws S : List Int} {W : World} (s : ISt b off gb N ws S W) (v : Value) (h : HpN) (ho : Ordered h N) (x : Int) :
    Calls Try.prog 69 #[layV v h (.slice (some ⟨gb, 0, none⟩) N gcap), .int .i64 x] W fun e w' => e = .returned (.bool (wordOkZ S h x)) ∧ Below W.heap.size W w' := by
  obtain ⟨o1, o2, o3, o4, _⟩ := ho
  have hs := s.sizes
  have hl := s.slen
  subst hl
  exact wordOk_calls v h gb 0 gcap S x W (by omega) (by omega) (by omega) (by omega) (by omega) s.glt hs

/-- A heap that was laid out, in a block of its own behind what was there. -/
structure OSt (w : World) (b off gb N : Nat) (ws S : List Int) (v : Value) (h : HpN) (vs : Value) (W : World) : Prop where
  st : ISt b off gb N ws S W
  blk : LayBlk W w.heap.size v h vs
  below : Below w.heap.size w W

theorem OSt.keep {w W W' : World} {b off gb N : Nat} {ws S : List Int} {v : Value} {h : HpN} {vs : Value} (s : OSt w b off gb N ws S v h vs W) (hb : Below W.heap.size W W') : OSt w b off gb N ws S v h vs W' :=
  ⟨s.st.kept hb, s.blk.below hb, s.below.trans (hb.mono s.below.size)⟩

theorem leadsZ_at {S : List Int} {size x sp : Int} (h : leadsZ S size x sp = true) : x % 8 = 0 ∧ sp ≤ x / 8 ∧ x / 8 < sp + size ∧ 0 < S.getD (x / 8).toNat 0 := by
  unfold leadsZ at h
  simp only [Bool.and_eq_true, decide_eq_true_eq] at h
  exact ⟨h.1, h.2.1.1, h.2.1.2, h.2.2⟩

set_option maxHeartbeats 4000000 in
set_option maxRecDepth 1000000 in
theorem fieldsLoop (b off cap gb gcap N a nf fcap : Nat) (ws S : List Int) (h : HpN) (old : Bool) (w W : World) (ho : Ordered h N) (ha : a + (nf + 1) ≤ N) (hnf : nf ≤ 5) (hB : OSt w b off gb N ws S (.slice (some ⟨b, off, none⟩) N cap) h (.slice (some ⟨gb, 0, none⟩) N gcap) W)
    (Q0 : Exit → Act → World → Prop) (c0 c1 c3 c4 c5 c6 c7 c8 c10 c11 c12 c13 c14 c15 c16 c17 c18 c19 c20 c21 c22 c23 c24 c25 c26 c27 c28 c29 c30 c31 c32 c33 c34 c35 c36 c37 c38 c39 c40 c41 c42 c43 c44 c45 c46 c47 c48 c49 c50 c51 c52 c53 c54 c55 c56 c57 c58 c59 c60 c61 c62 c63 c64 c65 c66 c67 c68 c69 c70 c71 c72 c73 c74 c75 c76 c77 c81 c82 c83 c84 c85 c86 c87 c88 c89 c90 c91 c92 c93 c94 c95 c96 c97 c98 c99 c100 : Value)
    (hret : ∀ (tmps : Array Value) (w' : World), tmps.getD 4 undef = .bool false → (List.range nf).all (fun i => implField S h old (ws.getD (a + (i + 1)) 0)) = false → Below w.heap.size w w' → Q0 .ret ⟨tmps, []⟩ w')
    (hexit : ∀ (d4 d11 d80 d81 d82 d83 d84 d85 d86 d87 d88 d89 d90 d91 d92 d93 d94 d95 d96 d97 d98 d99 d100 : Value) (w' : World), (List.range nf).all (fun i => implField S h old (ws.getD (a + (i + 1)) 0)) = true → Below w.heap.size w w' → Q0 (.exit 0) ⟨(List.toArray (c0 :: c1 :: .pointer (some ⟨w.heap.size, 0, none⟩) :: c3 :: d4 :: c5 :: c6 :: c7 :: c8 :: .bool old :: c10 :: d11 :: c12 :: c13 :: c14 :: c15 :: c16 :: c17 :: c18 :: c19 :: c20 :: c21 :: c22 :: c23 :: c24 :: c25 :: c26 :: c27 :: c28 :: c29 :: c30 :: c31 :: c32 :: c33 :: c34 :: c35 :: c36 :: c37 :: c38 :: c39 :: c40 :: c41 :: c42 :: c43 :: c44 :: c45 :: c46 :: c47 :: c48 :: c49 :: c50 :: c51 :: c52 :: c53 :: c54 :: c55 :: c56 :: c57 :: c58 :: c59 :: c60 :: c61 :: c62 :: c63 :: c64 :: c65 :: c66 :: c67 :: c68 :: c69 :: c70 :: c71 :: c72 :: c73 :: c74 :: c75 :: c76 :: c77 :: .slice (some ⟨b, off + (a + 1), none⟩) nf fcap :: .int .i64 (nf : Int) :: d80 :: d81 :: d82 :: d83 :: d84 :: d85 :: d86 :: d87 :: d88 :: d89 :: d90 :: d91 :: d92 :: d93 :: d94 :: d95 :: d96 :: d97 :: d98 :: d99 :: d100 :: [])), []⟩ w')
    : Code.wp Try.prog (Code.loop fieldsBody) Q0 ⟨(List.toArray (c0 :: c1 :: .pointer (some ⟨w.heap.size, 0, none⟩) :: c3 :: c4 :: c5 :: c6 :: c7 :: c8 :: .bool old :: c10 :: c11 :: c12 :: c13 :: c14 :: c15 :: c16 :: c17 :: c18 :: c19 :: c20 :: c21 :: c22 :: c23 :: c24 :: c25 :: c26 :: c27 :: c28 :: c29 :: c30 :: c31 :: c32 :: c33 :: c34 :: c35 :: c36 :: c37 :: c38 :: c39 :: c40 :: c41 :: c42 :: c43 :: c44 :: c45 :: c46 :: c47 :: c48 :: c49 :: c50 :: c51 :: c52 :: c53 :: c54 :: c55 :: c56 :: c57 :: c58 :: c59 :: c60 :: c61 :: c62 :: c63 :: c64 :: c65 :: c66 :: c67 :: c68 :: c69 :: c70 :: c71 :: c72 :: c73 :: c74 :: c75 :: c76 :: c77 :: .slice (some ⟨b, off + (a + 1), none⟩) nf fcap :: .int .i64 (nf : Int) :: .int .i64 0 :: c81 :: c82 :: c83 :: c84 :: c85 :: c86 :: c87 :: c88 :: c89 :: c90 :: c91 :: c92 :: c93 :: c94 :: c95 :: c96 :: c97 :: c98 :: c99 :: c100 :: [])), []⟩ W := by
  have HOt := hid (fun (w' : World) => other_calls (.slice (some ⟨b, off, none⟩) N cap) h w' (by obtain ⟨o1, o2, o3, o4, _⟩ := ho; omega) (by obtain ⟨o1, o2, o3, o4, _⟩ := ho; omega) (by obtain ⟨o1, o2, o3, o4, _⟩ := ho; omega) ho.2.1)
  have HLd := hid (fun (w' : World) (s' : ISt b off gb N ws S w') (x : Int) => leads_st (gcap := gcap) s' (.slice (some ⟨b, off, none⟩) N cap) h ho x (h.size - h.to) (Or.inr rfl))
  have HWo := hid (fun (w' : World) (s' : ISt b off gb N ws S w') (x : Int) => wordOk_st (gcap := gcap) s' (.slice (some ⟨b, off, none⟩) N cap) h ho x)
  have HB0 := hid hB
  have HRet := hid hret
  have HExit := hid hexit
  clear ho hB hret hexit
  obtain ⟨g1, g2, g3, g4, g5, g6, g7, g8, g9⟩ := h
  unfold layV heapV at *
  dsimp only at *
  conv => arg 2; arg 1; whnf
  go_loopw [80] (fun i wr => ∃ j : Nat, i = .int .i64 (j : Int) ∧ Hid (OSt w b off gb N ws S (.slice (some ⟨b, off, none⟩) N cap) ⟨g1, g2, g3, g4, g5, g6, g7, g8, g9⟩ (.slice (some ⟨gb, 0, none⟩) N gcap) wr ∧ j ≤ nf ∧ ∀ k, k < j → implField S ⟨g1, g2, g3, g4, g5, g6, g7, g8, g9⟩ old (ws.getD (a + (k + 1)) 0) = true)) (fun i _ => nf - (intOf i).toNat)
  case atStart => exact ⟨0, rfl, HB0.out, by omega, fun k hk => absurd hk (by omega)⟩
  case round =>
    obtain ⟨j, rfl, HI⟩ := hrel
    clear HB0
    obtain ⟨c0, c1, c2, c3, c4, c5, c6, c7, c8, c9, c10⟩ := HI.out.1.blk.cells
    dsimp only at c0 c1 c2 c3 c4 c5 c6 c7 c8 c9 c10
    by_cases hlt : (j : Int) < (nf : Int)
    · have cy := HI.out.1.st.words (a + (j + 1)) (by omega)
      rw [show off + (a + (j + 1)) = off + (a + 1) + j by omega] at cy
      have hP : implField S ⟨g1, g2, g3, g4, g5, g6, g7, g8, g9⟩ old (ws.getD (a + (j + 1)) 0) = (wordOkZ S ⟨g1, g2, g3, g4, g5, g6, g7, g8, g9⟩ (ws.getD (a + (j + 1)) 0) || (old && leadsZ S g1 (ws.getD (a + (j + 1)) 0) (g1 - g2))) := rfl
      have HP := hid hP
      have HWx := hid (fun x : Later wr.heap.size wr => HWo.out x.w (HI.out.1.st.kept x.h) (ws.getD (a + (j + 1)) 0))
      have HLx := hid (fun x : Later wr.heap.size wr => HLd.out x.w (HI.out.1.st.kept x.h) (ws.getD (a + (j + 1)) 0))
      clear HWo HLd hP
      generalize wordOkZ S ⟨g1, g2, g3, g4, g5, g6, g7, g8, g9⟩ (ws.getD (a + (j + 1)) 0) = p1 at *
      generalize leadsZ S g1 (ws.getD (a + (j + 1)) 0) (g1 - g2) = p2 at *
      generalize hy : ws.getD (a + (j + 1)) 0 = y at *
      have HY := hid hy
      clear hy
      obtain ⟨v0, v1, v2, v3, v4, v5, v6, v7, v8, v9, v10⟩ := HI.out.1.blk.later (B := wr.heap.size) (heap_lt HI.out.1.blk)
      dsimp only at v0 v1 v2 v3 v4 v5 v6 v7 v8 v9 v10
      have HWJ := hid (show wrap64 ((j : Int) + 1) = ((j + 1 : Nat) : Int) from wrap_inc (n := nf) (by omega) (by omega))
      cases p1
      · cases old
        · go_wp2_with fail
          clear c0 c1 c2 c3 c4 c5 c6 c7 c8 c9 c10 cy
          refine wp_region_calm wr.heap.size (by kernel_rfl) (by kernel_rfl) ?_
          repeat (go_big_quiet_step (first | (rename_i x; go_at_call 69; refine (HWx.out x).mono ?_; rintro e w5 ⟨rfl, hb5⟩; exact ⟨rfl, ⟨w5, x.h.trans (hb5.mono x.h.size)⟩, rfl⟩) | (rename_i x; go_at_call 51; refine (HLx.out x).mono ?_; rintro e w5 ⟨rfl, hb5⟩; exact ⟨rfl, ⟨w5, x.h.trans (hb5.mono x.h.size)⟩, rfl⟩) | (rename_i x; go_at_call 60; refine (HOt.out x.w).mono ?_; rintro e w5 ⟨rfl, hb5⟩; exact ⟨rfl, ⟨w5, x.h.trans (hb5.mono x.h.size)⟩, rfl⟩)))
          refine wpQuiet_nil ?_
          rintro w5 ⟨x, rfl⟩
          have HBx := hid (HI.out.1.keep x.h)
          clear v0 v1 v2 v3 v4 v5 v6 v7 v8 v9 v10
          go_wp2_with fail
          exact HRet.out _ x.w rfl (all_no (j := j) (by omega) (by rw [HY.out]; exact HP.out)) HBx.out.below
        · cases p2
          · go_wp2_with fail
            clear c0 c1 c2 c3 c4 c5 c6 c7 c8 c9 c10 cy
            refine wp_region_calm wr.heap.size (by kernel_rfl) (by kernel_rfl) ?_
            repeat (go_big_quiet_step (first | (rename_i x; go_at_call 69; refine (HWx.out x).mono ?_; rintro e w5 ⟨rfl, hb5⟩; exact ⟨rfl, ⟨w5, x.h.trans (hb5.mono x.h.size)⟩, rfl⟩) | (rename_i x; go_at_call 51; refine (HLx.out x).mono ?_; rintro e w5 ⟨rfl, hb5⟩; exact ⟨rfl, ⟨w5, x.h.trans (hb5.mono x.h.size)⟩, rfl⟩) | (rename_i x; go_at_call 60; refine (HOt.out x.w).mono ?_; rintro e w5 ⟨rfl, hb5⟩; exact ⟨rfl, ⟨w5, x.h.trans (hb5.mono x.h.size)⟩, rfl⟩)))
            refine wpQuiet_nil ?_
            rintro w5 ⟨x, rfl⟩
            have HBx := hid (HI.out.1.keep x.h)
            clear v0 v1 v2 v3 v4 v5 v6 v7 v8 v9 v10
            go_wp2_with fail
            exact HRet.out _ x.w rfl (all_no (j := j) (by omega) (by rw [HY.out]; exact HP.out)) HBx.out.below
          · go_wp2_with fail
            clear c0 c1 c2 c3 c4 c5 c6 c7 c8 c9 c10 cy
            refine wp_region_calm wr.heap.size (by kernel_rfl) (by kernel_rfl) ?_
            repeat (go_big_quiet_step (first | (rename_i x; go_at_call 69; refine (HWx.out x).mono ?_; rintro e w5 ⟨rfl, hb5⟩; exact ⟨rfl, ⟨w5, x.h.trans (hb5.mono x.h.size)⟩, rfl⟩) | (rename_i x; go_at_call 51; refine (HLx.out x).mono ?_; rintro e w5 ⟨rfl, hb5⟩; exact ⟨rfl, ⟨w5, x.h.trans (hb5.mono x.h.size)⟩, rfl⟩) | (rename_i x; go_at_call 60; refine (HOt.out x.w).mono ?_; rintro e w5 ⟨rfl, hb5⟩; exact ⟨rfl, ⟨w5, x.h.trans (hb5.mono x.h.size)⟩, rfl⟩)))
            refine wpQuiet_nil ?_
            rintro w5 ⟨x, rfl⟩
            have HBx := hid (HI.out.1.keep x.h)
            clear v0 v1 v2 v3 v4 v5 v6 v7 v8 v9 v10
            go_wp2_with fail
            try rw [HWJ.out]
            refine ⟨⟨j + 1, by first | rfl | (push_cast; rfl), HBx.out, by omega, fun k hk => ?_⟩, ?_⟩
            · by_cases hkj : k < j
              · exact HI.out.2.2 k hkj
              · rw [show k = j by omega]
                rw [HY.out]
                exact HP.out
            · simp only [intOf, Int.toNat_natCast]
              omega
      · go_wp2_with fail
        clear c0 c1 c2 c3 c4 c5 c6 c7 c8 c9 c10 cy
        refine wp_region_calm wr.heap.size (by kernel_rfl) (by kernel_rfl) ?_
        repeat (go_big_quiet_step (first | (rename_i x; go_at_call 69; refine (HWx.out x).mono ?_; rintro e w5 ⟨rfl, hb5⟩; exact ⟨rfl, ⟨w5, x.h.trans (hb5.mono x.h.size)⟩, rfl⟩) | (rename_i x; go_at_call 51; refine (HLx.out x).mono ?_; rintro e w5 ⟨rfl, hb5⟩; exact ⟨rfl, ⟨w5, x.h.trans (hb5.mono x.h.size)⟩, rfl⟩) | (rename_i x; go_at_call 60; refine (HOt.out x.w).mono ?_; rintro e w5 ⟨rfl, hb5⟩; exact ⟨rfl, ⟨w5, x.h.trans (hb5.mono x.h.size)⟩, rfl⟩)))
        refine wpQuiet_nil ?_
        rintro w5 ⟨x, rfl⟩
        have HBx := hid (HI.out.1.keep x.h)
        clear v0 v1 v2 v3 v4 v5 v6 v7 v8 v9 v10
        go_wp2_with fail
        try rw [HWJ.out]
        refine ⟨⟨j + 1, by first | rfl | (push_cast; rfl), HBx.out, by omega, fun k hk => ?_⟩, ?_⟩
        · by_cases hkj : k < j
          · exact HI.out.2.2 k hkj
          · rw [show k = j by omega]
            rw [HY.out]
            exact HP.out
        · simp only [intOf, Int.toNat_natCast]
          omega
    · go_wp2_with fail
      exact HExit.out _ _ _ _ _ _ _ _ _ _ _ _ _ _ _ _ _ _ _ _ _ _ _ wr (all_yes (fun k hk => HI.out.2.2 k (by omega))) HI.out.1.below
end Go.Proofs.Ytebpgglegnljgaa
