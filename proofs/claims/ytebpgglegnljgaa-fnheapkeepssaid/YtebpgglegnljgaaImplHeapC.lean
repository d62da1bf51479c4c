/- The program's notes of which objects lie where. -/
import Derived.Test.YtebpgglegnljgaaImplHeapB
namespace Go.Proofs.Ytebpgglegnljgaa
open Go.RowKit

/-- What a walk over objects leaves: a row of sizes. -/
def LayPost (R : Option (List Int)) (gb N p0 to : Nat) (S : List Int) (w : World) (e : Ending) (w' : World) : Prop :=
  (∃ ok, e = .returned (.bool ok) ∧ ((R = none ∧ ok = false ∧ ∃ S' : List Int, S'.length = N ∧ CellRow 3 w' gb N (intCells S') ∧ ∀ a, a < p0 ∨ to ≤ a → S'.getD a 0 = S.getD a 0) ∨ ∃ S', R = some S' ∧ ok = true ∧ S'.length = N ∧ CellRow 3 w' gb N (intCells S'))) ∧ w.grownBy w' (some gb)

theorem int_set (S : List Int) (p : Nat) (hp : p < S.length) (n : Int) {f : Nat → Value} {N : Nat} (hf : ∀ i, i < N → f i = intCells S i) :
    ∀ i, i < N → (fun j => if j = p then Value.int .i64 n else f j) i = intCells (S.set p n) i := by
  intro i hi
  show (if i = p then Value.int .i64 n else f i) = _
  unfold intCells
  rw [getD_set]
  by_cases h : i = p
  · rw [if_pos h, if_pos ⟨h, hp⟩]
  · rw [if_neg h, if_neg (fun e => h e.1)]
    exact hf i hi

set_option maxHeartbeats 2000000 in
set_option maxRecDepth 100000 in
theorem implLay_calls (b off cap gb gcap N p0 to : Nat) (ws S : List Int) (h : HpN) (w : World) (hS : S.length = N) (hN2 : N ≤ 8000) (hto : to ≤ N)
    (hb : b < w.heap.size) (hw : ∀ k, k < N → w.cell? ⟨b, off + k, none⟩ = some (.int .i64 (ws.getD k 0))) (hne : b ≠ gb) (hr : CellRow 3 w gb N (intCells S)) :
    Calls Try.prog 59 #[layV (.slice (some ⟨b, off, none⟩) N cap) h (.slice (some ⟨gb, 0, none⟩) N gcap), .int .i64 p0, .int .i64 to] w (LayPost (lay ws p0 to S) gb N p0 to S w) := by
  have HW := hid hw
  have hgb := hr.lt
  have HR := hid hr
  clear hw hr
  obtain ⟨g1, g2, g3, g4, g5, g6, g7, g8, g9⟩ := h
  unfold layV
  dsimp only
  generalize hR : lay ws p0 to S = R
  have HL := hid hR
  clear hR
  go_enter Try.func59, Try.ntmps59
  go_wp2_with fail
  have hblk := LayBlk.new w (.slice (some ⟨b, off, none⟩) N cap) ⟨g1, g2, g3, g4, g5, g6, g7, g8, g9⟩ (.slice (some ⟨gb, 0, none⟩) N gcap)
  have hk0 := (Below.refl w.heap.size w).alloc (Nat.le_refl _) (.cells #[.slice (some ⟨b, off, none⟩) N cap, .int .i64 g1, .int .i64 g2, .int .i64 g3, .int .i64 g4, .int .i64 g5, .int .i64 g6, .int .i64 g7, .int .i64 g8, .int .i64 g9, .slice (some ⟨gb, 0, none⟩) N gcap] 58)
  go_loopw [7] (fun i wr => ∃ (p : Nat) (S' : List Int), i = .int .i64 p ∧ Hid (lay ws p to S' = R ∧ S'.length = N ∧ CellRow 3 wr gb N (intCells S') ∧ w.grownBy wr (some gb) ∧ p0 ≤ p ∧ ∀ a, a < p0 ∨ to ≤ a → S'.getD a 0 = S.getD a 0) ∧ LayBlk wr w.heap.size (.slice (some ⟨b, off, none⟩) N cap) ⟨g1, g2, g3, g4, g5, g6, g7, g8, g9⟩ (.slice (some ⟨gb, 0, none⟩) N gcap)) (fun i _ => to - (intOf i).toNat)
  case atStart => exact ⟨p0, S, rfl, ⟨HL.out, hS, HR.out.of_block (hk0.block gb hgb), kept_of_below hk0 _, Nat.le_refl _, fun _ _ => rfl⟩, hblk⟩
  case round =>
    obtain ⟨p, S', rfl, HI, hB⟩ := hrel
    clear hblk hk0 HR HL
    have HB := hid hB
    obtain ⟨c0, -, -, -, -, -, -, -, -, -, c10⟩ := hB.cells
    clear hB
    by_cases hlt : (p : Int) < (to : Int)
    · have cw : wr.cell? ⟨b, off + p, none⟩ = some (.int .i64 (ws.getD p 0)) := (World.cell?_of_block (w := w) (HI.out.2.2.2.1.block b hb (by simpa using hne))).trans (HW.out p (by omega))
      have hbr : b < wr.heap.size := Nat.lt_of_lt_of_le hb HI.out.2.2.2.1.size
      have HOb := hid (objectAt_calls b off N cap p (ws.getD p 0) wr (by omega) hbr cw)
      have hs3 := sizeN_le (ws.getD p 0)
      have es := sizeN_cast (ws.getD p 0)
      have ES := hid es.symm
      clear cw
      by_cases hn : sizeN (ws.getD p 0) = 0 ∨ to < p + sizeN (ws.getD p 0)
      · have HE := hid ((lay_bad ws S' (by omega) hn).symm.trans HI.out.1)
        have hn' : (sizeN (ws.getD p 0) : Int) = 0 ∨ (to : Int) - (p : Int) < (sizeN (ws.getD p 0) : Int) := by omega
        rw [ES.out] at HOb
        clear hn es ES
        generalize ws.getD p 0 = x at *
        generalize sizeN x = n at *
        generalize kindOr x = K at *
        have hz : ((n : Int) == 0) = true ∨ (((n : Int) == 0) = false ∧ (to : Int) - (p : Int) < (n : Int)) := by
          by_cases h0 : n = 0
          · left; simp [h0]
          · right; exact ⟨by simp; omega, by omega⟩
        clear hn'
        rcases hz with hz | ⟨hz, hz2⟩
        all_goals
          go_wp2_with fail
          refine HOb.out.mono ?_
          rintro e W1 ⟨rfl, hb1⟩
          have HB1 := hid hb1
          clear hb1 HOb c0 c10
          go_wp2_with fail
          go_ret
          exact ⟨⟨false, rfl, Or.inl ⟨HE.out.symm, rfl, S', HI.out.2.1, HI.out.2.2.1.of_block (HB1.out.block gb HI.out.2.2.1.lt), HI.out.2.2.2.2.2⟩⟩, kept_below HI.out.2.2.2.1 HB1.out⟩
      · have HE := hid ((lay_next ws S' (by omega) hn).symm.trans HI.out.1)
        rw [ES.out] at HOb
        clear es ES
        generalize ws.getD p 0 = x at *
        generalize sizeN x = n at *
        generalize kindOr x = K at *
        have hn0 : (0 : Int) < (n : Int) := by omega
        have hn1 : (n : Int) ≤ (to : Int) - (p : Int) := by omega
        have hz : ((n : Int) == 0) = false := by simp; omega
        have HPS : Hid (p < S'.length) := by show _ < _; have := HI.out.2.1; omega
        have hpn : (p : Int) + (n : Int) ≤ 8000 := by omega
        clear hn hs3
        go_wp2_with fail
        refine HOb.out.mono ?_
        rintro e W1 ⟨rfl, hb1⟩
        obtain ⟨N', f, hrow, hN', hf⟩ := HI.out.2.2.1.of_block (hb1.block gb HI.out.2.2.1.lt)
        have HF := hid hf
        have q0 := hrow.cell (i := p) (by omega)
        have z0 := hrow.frozen p (by omega)
        have HRow := hid hrow
        have HBl := hid (HB.out.below hb1)
        have HG := hid (kept_below HI.out.2.2.2.1 hb1)
        obtain ⟨d0, -, -, -, -, -, -, -, -, -, d10⟩ := HBl.out.cells
        clear hf hrow hb1 HOb c0 c10
        go_wp2_with fail
        have hs : to - (intOf (.int .i64 ((p : Int) + (n : Int)))).toNat < to - (intOf (.int .i64 (p : Int))).toNat := by simp only [intOf, Int.toNat_natCast]; omega
        refine ⟨⟨p + n, S'.set p (n : Int), ?_, ⟨HE.out, ?_, ?_, ?_, ?_, ?_⟩, ?_⟩, hs⟩
        · push_cast
          rfl
        · rw [List.length_set]
          exact HI.out.2.1
        · exact ⟨N', _, HRow.out.set p _, hN', int_set S' p HPS.out (n : Int) HF.out⟩
        · exact kept_set HG.out _ _
        · have := HI.out.2.2.2.2.1
          omega
        · intro c hc
          have := HI.out.2.2.2.2.1
          rw [getD_set, if_neg (by omega)]
          exact HI.out.2.2.2.2.2 c hc
        · exact (Below.heap_setCell _ _ _ _ (by dsimp only; omega)).trans HBl.out
    · have HE := hid ((lay_end ws S' (by omega)).symm.trans HI.out.1)
      go_wp2_with fail
      go_ret
      exact ⟨⟨true, rfl, Or.inr ⟨S', HE.out.symm, rfl, HI.out.2.1, HI.out.2.2.1⟩⟩, HI.out.2.2.2.1⟩

theorem implLay_at (b off cap gb gcap N : Nat) (P T : Int) (ws S : List Int) (h : HpN) (w : World) (hS : S.length = N) (hN2 : N ≤ 8000) (hP : 0 ≤ P) (hT0 : 0 ≤ T) (hT : T ≤ N)
    (hb : b < w.heap.size) (hw : ∀ k, k < N → w.cell? ⟨b, off + k, none⟩ = some (.int .i64 (ws.getD k 0))) (hne : b ≠ gb) (hr : CellRow 3 w gb N (intCells S)) :
    Calls Try.prog 59 #[layV (.slice (some ⟨b, off, none⟩) N cap) h (.slice (some ⟨gb, 0, none⟩) N gcap), .int .i64 P, .int .i64 T] w (LayPost (lay ws P.toNat T.toNat S) gb N P.toNat T.toNat S w) := by
  obtain ⟨p, rfl⟩ := Int.eq_ofNat_of_zero_le hP
  obtain ⟨t, rfl⟩ := Int.eq_ofNat_of_zero_le hT0
  exact implLay_calls b off cap gb gcap N p t ws S h w hS hN2 (by omega) hb hw hne hr
end Go.Proofs.Ytebpgglegnljgaa
