/- The specification's marks of where objects begin. -/
import Derived.Test.YtebpgglegnljgaaSpecHeapA
namespace Go.Proofs.Ytebpgglegnljgaa
open Go.RowKit

/-- What a walk over objects leaves: a row of bools that tell what is noted. -/
def RowPost (R : Option (List Int)) (gb N : Nat) (w : World) (e : Ending) (w' : World) : Prop :=
  (∃ ok, e = .returned (.bool ok) ∧ (R = none ∧ ok = false ∨ ∃ S', R = some S' ∧ ok = true ∧ S'.length = N ∧ CellRow 4 w' gb N (boolCells S'))) ∧ w.grownBy w' (some gb)

theorem bool_set (S : List Int) (p : Nat) (hp : p < S.length) (n : Nat) (hn : n ≠ 0) {f : Nat → Value} {N : Nat} (hf : ∀ i, i < N → f i = boolCells S i) :
    ∀ i, i < N → (fun j => if j = p then Value.bool true else f j) i = boolCells (S.set p (n : Int)) i := by
  intro i hi
  show (if i = p then Value.bool true else f i) = _
  unfold boolCells
  rw [getD_set]
  by_cases h : i = p
  · rw [if_pos h, if_pos ⟨h, hp⟩]
    have : ((n : Int) != 0) = true := by simpa using hn
    rw [this]
  · rw [if_neg h, if_neg (fun e => h e.1)]
    exact hf i hi

set_option maxHeartbeats 1000000 in
set_option maxRecDepth 100000 in
theorem specRow_calls (b off cap gb gcap N p0 to : Nat) (ws S : List Int) (h : HpN) (w : World) (hS : S.length = N) (hN2 : N ≤ 8000) (hto : to ≤ N)
    (hb : b < w.heap.size) (hw : ∀ k, k < N → w.cell? ⟨b, off + k, none⟩ = some (.int .i64 (ws.getD k 0))) (hne : b ≠ gb) (hr : CellRow 4 w gb N (boolCells S)) :
    Calls Try.prog 89 #[heapV (.slice (some ⟨b, off, none⟩) N cap) h, .int .i64 p0, .int .i64 to, .slice (some ⟨gb, 0, none⟩) N gcap] w (RowPost (lay ws p0 to S) gb N w) := by
  have HW := hid hw
  have hgb := hr.lt
  have HR := hid hr
  clear hw hr
  obtain ⟨g1, g2, g3, g4, g5, g6, g7, g8, g9⟩ := h
  unfold heapV
  dsimp only
  generalize hR : lay ws p0 to S = R
  have HL := hid hR
  clear hR
  go_enter Try.func89, Try.ntmps89
  go_wp2_with fail
  have hblk := HeapBlk.new w (.slice (some ⟨b, off, none⟩) N cap) ⟨g1, g2, g3, g4, g5, g6, g7, g8, g9⟩
  have hk0 := (Below.refl w.heap.size w).alloc (Nat.le_refl _) (.cells #[.slice (some ⟨b, off, none⟩) N cap, .int .i64 g1, .int .i64 g2, .int .i64 g3, .int .i64 g4, .int .i64 g5, .int .i64 g6, .int .i64 g7, .int .i64 g8, .int .i64 g9] 25)
  go_loopw [1] (fun i wr => ∃ (p : Nat) (S' : List Int), i = .int .i64 p ∧ Hid (lay ws p to S' = R ∧ S'.length = N ∧ CellRow 4 wr gb N (boolCells S') ∧ w.grownBy wr (some gb)) ∧ HeapBlk wr w.heap.size (.slice (some ⟨b, off, none⟩) N cap) ⟨g1, g2, g3, g4, g5, g6, g7, g8, g9⟩) (fun i _ => to - (intOf i).toNat)
  case atStart => exact ⟨p0, S, rfl, ⟨HL.out, hS, HR.out.of_block (hk0.block gb hgb), kept_of_below hk0 _⟩, hblk⟩
  case round =>
    obtain ⟨p, S', rfl, HI, hB⟩ := hrel
    clear hblk hk0 HR HL
    have HB := hid hB
    obtain ⟨c0, -⟩ := hB.cells
    clear hB
    by_cases hlt : (p : Int) < (to : Int)
    · obtain ⟨N', f, hrow, hN', hf⟩ := HI.out.2.2.1
      have HF := hid hf
      have q0 := hrow.cell (i := p) (by omega)
      have z0 := hrow.frozen p (by omega)
      have cw : wr.cell? ⟨b, off + p, none⟩ = some (.int .i64 (ws.getD p 0)) := (World.cell?_of_block (w := w) (HI.out.2.2.2.block b hb (by simpa using hne))).trans (HW.out p (by omega))
      have HRow := hid hrow
      clear hf hrow
      have hs3 := sizeN_le (ws.getD p 0)
      have es := sizeN_cast (ws.getD p 0)
      by_cases hn : sizeN (ws.getD p 0) = 0 ∨ to < p + sizeN (ws.getD p 0)
      · have HE := hid ((lay_bad ws S' (by omega) hn).symm.trans HI.out.1)
        have hn' : sizeZ (ws.getD p 0) = 0 ∨ (to : Int) < (p : Int) + sizeZ (ws.getD p 0) := by omega
        have hz6 : sizeZ (ws.getD p 0) ≤ 6 := by omega
        have hz0 : 0 ≤ sizeZ (ws.getD p 0) := by omega
        clear hn es hs3
        generalize ws.getD p 0 = x at *
        go_wp2_with (first | (go_at_call 65; refine (specSize_calls _ _).mono ?_; rintro e w2 ⟨rfl, rfl⟩))
        all_goals
          go_ret
          exact ⟨⟨false, rfl, Or.inl ⟨HE.out.symm, rfl⟩⟩, HI.out.2.2.2⟩
      · have HE := hid ((lay_next ws S' (by omega) hn).symm.trans HI.out.1)
        generalize ws.getD p 0 = x at *
        generalize sizeN x = n at *
        have hn0 : (0 : Int) < (n : Int) := by omega
        have hn1 : (p : Int) + (n : Int) ≤ (to : Int) := by omega
        have hn2 : Hid (n ≠ 0 ∧ p < S'.length) := ⟨by omega, by have := HI.out.2.1; omega⟩
        have ES := hid es.symm
        have hz : ((n : Int) == 0) = false := by simp; omega
        clear hn hs3 es
        go_wp2_with (first | (go_at_call 65; refine (specSize_calls _ _).mono ?_; rintro e w2 ⟨rfl, rfl⟩; rw [ES.out]))
        have hs : to - (intOf (.int .i64 ((p + n : Nat) : Int))).toNat < to - (intOf (.int .i64 (p : Int))).toNat := by simp only [intOf, Int.toNat_natCast]; omega
        refine ⟨⟨p + n, S'.set p (n : Int), ?_, ⟨HE.out, ?_, ?_, ?_⟩, ?_⟩, ?_⟩
        · push_cast
          rfl
        · rw [List.length_set]
          exact HI.out.2.1
        · exact ⟨N', _, HRow.out.set p _, hN', bool_set S' p hn2.out.2 n hn2.out.1 HF.out⟩
        · exact kept_set HI.out.2.2.2 _ _
        · exact (Below.heap_setCell _ _ _ _ (by dsimp only; omega)).trans HB.out
        · rw [show ((p : Int) + (n : Int)) = ((p + n : Nat) : Int) by push_cast; rfl]
          exact hs
    · have HE := hid ((lay_end ws S' (by omega)).symm.trans HI.out.1)
      go_wp2_with fail
      go_ret
      exact ⟨⟨true, rfl, Or.inr ⟨S', HE.out.symm, rfl, HI.out.2.1, HI.out.2.2.1⟩⟩, HI.out.2.2.2⟩

theorem info_bool : (Try.prog.info? 4).map (fun i => (i.zero, i.size, i.bytes)) = some (some (.bool false), 1, 1) := by kernel_rfl

theorem specRow_at (b off cap gb gcap N : Nat) (P T : Int) (ws S : List Int) (h : HpN) (w : World) (hS : S.length = N) (hN2 : N ≤ 8000) (hP : 0 ≤ P) (hT0 : 0 ≤ T) (hT : T ≤ N)
    (hb : b < w.heap.size) (hw : ∀ k, k < N → w.cell? ⟨b, off + k, none⟩ = some (.int .i64 (ws.getD k 0))) (hne : b ≠ gb) (hr : CellRow 4 w gb N (boolCells S)) :
    Calls Try.prog 89 #[heapV (.slice (some ⟨b, off, none⟩) N cap) h, .int .i64 P, .int .i64 T, .slice (some ⟨gb, 0, none⟩) N gcap] w (RowPost (lay ws P.toNat T.toNat S) gb N w) := by
  obtain ⟨p, rfl⟩ := Int.eq_ofNat_of_zero_le hP
  obtain ⟨t, rfl⟩ := Int.eq_ofNat_of_zero_le hT0
  exact specRow_calls b off cap gb gcap N p t ws S h w hS hN2 (by omega) hb hw hne hr

/-- What lies where, as the specification goes through it. -/
def specLay (ws : List Int) (h : HpN) : Option (List Int) :=
  match lay ws h.to.toNat h.bottom.toNat (List.replicate ws.length 0) with
  | none => none
  | some S1 => match lay ws h.top.toNat (h.to + h.size).toNat S1 with
    | none => none
    | some S2 => if h.scan < h.bottom then
        match lay ws (h.size - h.to).toNat h.fb.toNat S2 with
        | none => none
        | some S3 => lay ws h.ft.toNat (h.size - h.to + h.size).toNat S3
      else some S2

def BeginsPost (R : Option (List Int)) (N : Nat) (w : World) (e : Ending) (w' : World) : Prop :=
  (∃ gb gcap ok, e = .returned (.tuple #[.slice (some ⟨gb, 0, none⟩) N gcap, .bool ok]) ∧ w.heap.size ≤ gb ∧ gb < w'.heap.size ∧ (R = none ∧ ok = false ∨ ∃ S', R = some S' ∧ ok = true ∧ S'.length = N ∧ CellRow 4 w' gb N (boolCells S'))) ∧ Below w.heap.size w w'
end Go.Proofs.Ytebpgglegnljgaa
