/- The heap that a collector tells. -/
import Derived.Test.YtnoobonlmfgfhaaImplHeapQ
namespace Go.Proofs.Ytnoobonlmfgfhaa
open Go.RowKit

theorem set10T (a0 a1 a2 a3 a4 a5 a6 a7 a8 a9 x0 x1 x2 x3 x4 x5 x6 x7 x8 x9 : Value) : ((((((((((#[a0, a1, a2, a3, a4, a5, a6, a7, a8, a9].setIfInBounds 0 x0).setIfInBounds 1 x1).setIfInBounds 2 x2).setIfInBounds 3 x3).setIfInBounds 4 x4).setIfInBounds 5 x5).setIfInBounds 6 x6).setIfInBounds 7 x7).setIfInBounds 8 x8).setIfInBounds 9 x9) = #[x0, x1, x2, x3, x4, x5, x6, x7, x8, x9] := by
  simp

/-- A heap is stored into a block of its kind. -/
theorem heap_useT {W : World} {b : Nat} {v : Value} {h : HpN} (e : HeapBlk W b v h) (v' : Value) (h' : HpN) (Q : World → Prop)
    (k : ∀ W' : World, HeapBlk W' b v' h' → (∀ B, B ≤ b → Below B W W') → (∀ g, g ≠ b → W'.heap[g]? = W.heap[g]?) → Q W') : Q ((((((((((W.setCell ⟨b, 0, none⟩ v').setCell ⟨b, 1, none⟩ (.int .i64 h'.size)).setCell ⟨b, 2, none⟩ (.int .i64 h'.to)).setCell ⟨b, 3, none⟩ (.int .i64 h'.bottom)).setCell ⟨b, 4, none⟩ (.int .i64 h'.top)).setCell ⟨b, 5, none⟩ (.int .i64 h'.scan)).setCell ⟨b, 6, none⟩ (.int .i64 h'.fb)).setCell ⟨b, 7, none⟩ (.int .i64 h'.ft)).setCell ⟨b, 8, none⟩ (.int .i64 h'.flips)).setCell ⟨b, 9, none⟩ (.int .i64 h'.touched)) := by
  refine k _ ?_ (fun B hB => ?_) (fun g hg => ?_)
  · have e1 := set_block (set_block (set_block (set_block (set_block (set_block (set_block (set_block (set_block (set_block e 0 v') 1 (.int .i64 h'.size)) 2 (.int .i64 h'.to)) 3 (.int .i64 h'.bottom)) 4 (.int .i64 h'.top)) 5 (.int .i64 h'.scan)) 6 (.int .i64 h'.fb)) 7 (.int .i64 h'.ft)) 8 (.int .i64 h'.flips)) 9 (.int .i64 h'.touched)
    rw [set10T] at e1
    exact e1
  · exact ((((((((((Below.refl B W).setCell hB _).setCell hB _).setCell hB _).setCell hB _).setCell hB _).setCell hB _).setCell hB _).setCell hB _).setCell hB _).setCell hB _
  · have hh : ∀ (X : World) (i : Nat) (x : Value), (X.setCell ⟨b, i, none⟩ x).heap[g]? = X.heap[g]? := fun X i x => Below.heap_setCell X ⟨b, i, none⟩ x g hg
    simp only [hh]

set_option maxHeartbeats 1000000 in
set_option maxRecDepth 100000 in
theorem told_calls {w0 W : World} {bc bw N cap : Nat} {ws : List Int} {h : HpN} {r t : Int} (c : Col w0 bc bw N cap ws h r t W) :
    Calls Try.prog 51 #[.pointer (some ⟨bc, 0, none⟩)] W fun e w' => e = .returned (heapV (.slice (some ⟨bw, 0, none⟩) N cap) { h with touched := wrap64 (wrap64 (h.touched + r) + t) }) ∧ Below W.heap.size W w' := by
  obtain ⟨c0, c1, c2, c3, c4, c5, c6, c7, c8, c9, c10, c11⟩ := c.blk.cells
  have hbc := heap_lt c.blk
  clear c
  obtain ⟨g1, g2, g3, g4, g5, g6, g7, g8, g9⟩ := h
  dsimp only at c0 c1 c2 c3 c4 c5 c6 c7 c8 c9 c10 c11
  unfold heapV
  dsimp only
  go_enter Try.func51, Try.ntmps51
  go_wp2_with fail
  go_loopw [14] (fun i wr => ∃ T : Int, (i = .int .i64 0 ∧ T = g9 ∨ i = .int .i64 1 ∧ T = wrap64 (g9 + r) ∨ i = .int .i64 2 ∧ T = wrap64 (wrap64 (g9 + r) + t)) ∧ Hid (Below W.heap.size W wr) ∧ HeapBlk wr W.heap.size (.slice none 0 0) ⟨0, 0, 0, 0, 0, 0, 0, 0, 0⟩ ∧ HeapBlk wr (W.heap.size + 1) (.slice (some ⟨bw, 0, none⟩) N cap) ⟨g1, g2, g3, g4, g5, g6, g7, g8, T⟩) (fun i _ => 2 - (intOf i).toNat)
  case atStart =>
    obtain ⟨eA, eB, hbw⟩ := two_kept (Below.refl ((W.alloc (.cells #[.slice none 0 0, .int .i64 0, .int .i64 0, .int .i64 0, .int .i64 0, .int .i64 0, .int .i64 0, .int .i64 0, .int .i64 0, .int .i64 0] 27)).alloc (.cells #[.slice (some ⟨bw, 0, none⟩) N cap, .int .i64 g1, .int .i64 g2, .int .i64 g3, .int .i64 g4, .int .i64 g5, .int .i64 g6, .int .i64 g7, .int .i64 g8, .int .i64 g9] 27)).heap.size _)
    exact ⟨g9, Or.inl ⟨rfl, rfl⟩, hbw, eA, eB⟩
  case round =>
    obtain ⟨T, hT, HBw, hR, hH⟩ := hrel
    have HR := hid hR
    have HH := hid hH
    obtain ⟨d0, d1, d2, d3, d4, d5, d6, d7, d8, d9⟩ := hH.cells
    dsimp only at d0 d1 d2 d3 d4 d5 d6 d7 d8 d9
    have f9 := frozen_of_heap hH 9
    have HS : ∀ X : Int, Hid (HeapBlk (wr.setCell ⟨W.heap.size + 1, 9, none⟩ (.int .i64 X)) (W.heap.size + 1) (.slice (some ⟨bw, 0, none⟩) N cap) ⟨g1, g2, g3, g4, g5, g6, g7, g8, X⟩) := fun X => by
      have e := set_block hH 9 (.int .i64 X)
      have e2 : HeapBlk (wr.setCell ⟨W.heap.size + 1, 9, none⟩ (.int .i64 X)) (W.heap.size + 1) (.slice (some ⟨bw, 0, none⟩) N cap) ⟨g1, g2, g3, g4, g5, g6, g7, g8, X⟩ := by simpa [HeapBlk] using e
      exact e2
    have HS' : ∀ X : Int, Hid (HeapBlk (wr.setCell ⟨W.heap.size + 1, 9, none⟩ (.int .i64 X)) W.heap.size (.slice none 0 0) ⟨0, 0, 0, 0, 0, 0, 0, 0, 0⟩) := fun X => (Below.heap_setCell _ _ _ _ (by dsimp only; omega)).trans hR
    clear hR hH c0 c1 c2 c3 c4 c5 c6 c7 c8 c9 c10 c11
    rcases hT with ⟨rfl, rfl⟩ | ⟨rfl, rfl⟩ | ⟨rfl, rfl⟩
    · have E : Sem.run Try.prog (Instr.index 94 (.agg #[.int .i64 r, .int .i64 t]) (.int .i64 0)) wr = .ok (.int .i64 r) wr := by kernel_rfl
      go_wp2_with fail
      exact ⟨⟨wrap64 (T + r), Or.inr (Or.inl ⟨rfl, rfl⟩), HBw.out.setCell (p := ⟨W.heap.size + 1, 9, none⟩) (Nat.le_succ _) _, (HS' _).out, (HS _).out⟩, by decide⟩
    · generalize wrap64 (g9 + r) = T at *
      have E : Sem.run Try.prog (Instr.index 94 (.agg #[.int .i64 r, .int .i64 t]) (.int .i64 1)) wr = .ok (.int .i64 t) wr := by kernel_rfl
      go_wp2_with fail
      exact ⟨⟨wrap64 (T + t), Or.inr (Or.inr ⟨rfl, rfl⟩), HBw.out.setCell (p := ⟨W.heap.size + 1, 9, none⟩) (Nat.le_succ _) _, (HS' _).out, (HS _).out⟩, by decide⟩
    · generalize hT2 : wrap64 (wrap64 (g9 + r) + t) = T at *
      clear HS HS'
      obtain ⟨e0, e1, e2, e3, e4, e5, e6, e7, e8, e9⟩ := HR.out.cells
      dsimp only at e0 e1 e2 e3 e4 e5 e6 e7 e8 e9
      have z0 := frozen_of_heap HR.out 0
      have z1 := frozen_of_heap HR.out 1
      have z2 := frozen_of_heap HR.out 2
      have z3 := frozen_of_heap HR.out 3
      have z4 := frozen_of_heap HR.out 4
      have z5 := frozen_of_heap HR.out 5
      have z6 := frozen_of_heap HR.out 6
      have z7 := frozen_of_heap HR.out 7
      have z8 := frozen_of_heap HR.out 8
      have z9 := frozen_of_heap HR.out 9
      go_wp2_with fail
      refine heap_useT HR.out (.slice (some ⟨bw, 0, none⟩) N cap) ⟨g1, g2, g3, g4, g5, g6, g7, g8, T⟩ _ ?_
      intro W2 hL hb2 _
      obtain ⟨y0, y1, y2, y3, y4, y5, y6, y7, y8, y9⟩ := hL.cells
      dsimp only at y0 y1 y2 y3 y4 y5 y6 y7 y8 y9
      exact bodyPost_ret (v := .agg #[.slice (some ⟨bw, 0, none⟩) N cap, .int .i64 g1, .int .i64 g2, .int .i64 g3, .int .i64 g4, .int .i64 g5, .int .i64 g6, .int .i64 g7, .int .i64 g8, .int .i64 T]) (by simp [results, Try.results51, go_sem, y0, y1, y2, y3, y4, y5, y6, y7, y8, y9]) rfl ⟨by rw [hT2], HBw.out.trans (hb2 _ (Nat.le_refl _))⟩
end Go.Proofs.Ytnoobonlmfgfhaa

/- A field that cannot be moved. -/
namespace Go.Proofs.Ytnoobonlmfgfhaa
open Go.RowKit

set_option maxRecDepth 100000 in
/-- A field that leads to what is old, and there is no room for it. -/
theorem field_fails {w0 W : World} {bc bw N cap : Nat} {ws : List Int} {h : HpN} {r t : Int} (c : Col w0 bc bw N cap ws h r t W) (q : Nat) (hq : q < N) (h0 : 0 ≤ h.to) (h1 : h.to ≤ h.size) (h3 : h.size ≤ 4000) (hr0 : 0 ≤ r) (hr1 : r ≤ 70000) (hold : lateZ h (ws.getD q 0) = true)
    (ws' : List Int) (h' : HpN) (r' t' : Int)
    (hm : ∀ X, Col w0 bc bw N cap ws h (r + 1) t X → Calls Try.prog 87 #[.pointer (some ⟨bc, 0, none⟩), .int .i64 (ws.getD q 0)] X fun e w' => e = .returned (.tuple #[.int .i64 0, .bool false]) ∧ Col w0 bc bw N cap ws' h' r' t' w') :
    Calls Try.prog 55 #[.pointer (some ⟨bc, 0, none⟩), .int .i64 (q : Int)] W fun e w' => e = .returned (.tuple #[.int .i64 0, .bool false]) ∧ Col w0 bc bw N cap ws' h' r' t' w' := by
  have HRd := hid (read_calls c (i := q) hq hr0 (by omega))
  have HM := hid hm
  clear c hm
  go_enter Try.func55, Try.ntmps55
  go_wp2_with fail
  refine HRd.out.mono ?_
  rintro e W1 ⟨rfl, hC1⟩
  have HIo := hid (fun (X : World) (b : Below W1.heap.size W1 X) => isOld_calls (hC1.keep b) (ws.getD q 0) h0 h1 h3)
  rw [hold] at HIo
  have HC1 := hid hC1
  clear hC1 HRd
  go_wp2_with fail
  refine (HIo.out _ (by first | exact Below.refl _ _ | exact (Below.refl _ _).drew)).mono ?_
  rintro e W2 ⟨rfl, hb2⟩
  have HC2 := hid (HC1.out.keep (by first | exact hb2 | exact (Below.refl _ _).drew.trans hb2))
  clear hb2 HIo HC1
  go_wp2_with fail
  refine (HM.out _ (by first | exact HC2.out | exact HC2.out.keep (Below.refl _ _).drew)).mono ?_
  rintro e W3 ⟨rfl, hC3⟩
  have HC4 := hid hC3
  clear hC3 HM HC2
  go_wp2_with fail
  exact bodyPost_ret (v := .tuple #[.int .i64 0, .bool false]) (by simp [results, Try.results55, go_sem]) rfl ⟨rfl, by first | exact HC4.out | exact HC4.out.keep (Below.refl _ _).drew⟩
end Go.Proofs.Ytnoobonlmfgfhaa

/- The program's move of a word as one plain function. -/
namespace Go.Proofs.Ytnoobonlmfgfhaa
open Go.RowKit

/-- A collector in plain words: the words, the numbers, how many were read and written. -/
structure CN where
  ws : List Int
  h : HpN
  r : Int
  t : Int

/-- Where a word leads once its object was moved; none, if there is no room. -/
def moveZ (s : CN) (x : Int) : Option Int × CN :=
  if lateZ s.h x = false then (some x, s) else
  if s.ws.getD (x / 8).toNat 0 % 16 = 15 then (some (s.ws.getD ((x / 8).toNat + 1) 0), { s with r := s.r + 1 + 1 }) else
  if s.ws.getD (x / 8).toNat 0 / 16 ≤ s.h.top - s.h.bottom then
    (some (8 * s.h.bottom), ⟨((copyW s.ws (x / 8).toNat s.h.bottom.toNat (s.ws.getD (x / 8).toNat 0 / 16).toNat).set (x / 8).toNat (s.ws.getD (x / 8).toNat 0 / 16 * 16 + 15)).set ((x / 8).toNat + 1) (8 * s.h.bottom), { s.h with bottom := s.h.bottom + s.ws.getD (x / 8).toNat 0 / 16 }, s.r + s.ws.getD (x / 8).toNat 0 / 16, s.t + s.ws.getD (x / 8).toNat 0 / 16 + 2⟩)
  else (none, { s with r := s.r + 1 })

def moveV : Option Int → Value
  | some y => .tuple #[.int .i64 y, .bool true]
  | none => .tuple #[.int .i64 0, .bool false]

/-- What a move asks of a word that leads into the other space. -/
def MoveOk (ws : List Int) (h : HpN) (N : Nat) (x : Int) : Prop :=
  lateZ h x = true → (x / 8).toNat + 1 < N ∧ (ws.getD (x / 8).toNat 0 % 16 ≠ 15 → (ws.getD (x / 8).toNat 0 / 16 = 3 ∨ ws.getD (x / 8).toNat 0 / 16 = 6) ∧ (x / 8).toNat + (ws.getD (x / 8).toNat 0 / 16).toNat ≤ N)

theorem move_calls {w0 W : World} {bc bw N cap : Nat} (s : CN) (c : Col w0 bc bw N cap s.ws s.h s.r s.t W) (x : Int) (h0 : 0 ≤ s.h.to) (h1 : s.h.to ≤ s.h.size) (h3 : s.h.size ≤ 4000) (hb0 : 0 ≤ s.h.bottom) (hbt : s.h.bottom ≤ s.h.top) (htN : s.h.top ≤ N) (hN : N ≤ 8000)
    (hr0 : 0 ≤ s.r) (hr1 : s.r ≤ 70000) (ht0 : 0 ≤ s.t) (ht1 : s.t ≤ 70000) (hm : MoveOk s.ws s.h N x) :
    Calls Try.prog 87 #[.pointer (some ⟨bc, 0, none⟩), .int .i64 x] W fun e w' => e = .returned (moveV (moveZ s x).1) ∧ Col w0 bc bw N cap (moveZ s x).2.ws (moveZ s x).2.h (moveZ s x).2.r (moveZ s x).2.t w' := by
  obtain ⟨ws, h, r, t⟩ := s
  dsimp only at *
  unfold moveZ
  dsimp only
  cases ho : lateZ h x with
  | false =>
    rw [if_pos rfl]
    exact move_stays c x h0 h1 h3 ho
  | true =>
    rw [if_neg (by decide)]
    obtain ⟨ha1, ha2⟩ := hm ho
    have hx0 : 0 ≤ x / 8 := by
      unfold lateZ at ho
      rw [Bool.and_eq_true, decide_eq_true_eq, decide_eq_true_eq] at ho
      omega
    obtain ⟨a, ha⟩ := Int.eq_ofNat_of_zero_le hx0
    rw [ha, Int.toNat_natCast] at ha1 ha2 ⊢
    by_cases hk : ws.getD a 0 % 16 = 15
    · rw [if_pos hk]
      exact move_moved c x a h0 h1 h3 ho ha hk ha1 hN hr0 hr1
    · rw [if_neg hk]
      obtain ⟨hs, han⟩ := ha2 hk
      obtain ⟨n, hn⟩ := Int.eq_ofNat_of_zero_le (show 0 ≤ ws.getD a 0 / 16 by omega)
      obtain ⟨to, hto⟩ := Int.eq_ofNat_of_zero_le hb0
      rw [hn, Int.toNat_natCast] at han
      by_cases hroom : ws.getD a 0 / 16 ≤ h.top - h.bottom
      · rw [if_pos hroom]
        have := move_copies c x a to n h0 h1 h3 ho ha hto hN (by omega) hn hk (by omega) htN han hr0 hr1 ht0 ht1
        dsimp only
        rw [hn, hto, Int.toNat_natCast, Int.toNat_natCast]
        exact this
      · rw [if_neg hroom]
        exact move_full c x a n h0 h1 h3 ho ha hn hk (by omega) (by omega) hr0 hr1 hb0 (by omega) (by omega) (by omega)
end Go.Proofs.Ytnoobonlmfgfhaa

/- The program's read of a field as one plain function. -/
namespace Go.Proofs.Ytnoobonlmfgfhaa
open Go.RowKit

/-- What a field holds, moved if need be; none, if there is no room. -/
def fieldZ (s : CN) (q : Nat) : Option Int × CN :=
  if lateZ s.h (s.ws.getD q 0) = false then (some (s.ws.getD q 0), { s with r := s.r + 1 }) else
  match moveZ { s with r := s.r + 1 } (s.ws.getD q 0) with
  | (some y, s2) => (some y, ⟨s2.ws.set q y, s2.h, s2.r, s2.t + 1⟩)
  | (none, s2) => (none, s2)

theorem moveZ_t {s : CN} {N : Nat} {x : Int} (hm : MoveOk s.ws s.h N x) : s.t ≤ (moveZ s x).2.t ∧ (moveZ s x).2.t ≤ s.t + 8 := by
  unfold moveZ
  cases ho : lateZ s.h x with
  | false =>
    rw [if_pos rfl]
    dsimp only
    omega
  | true =>
    rw [if_neg (by decide)]
    have h2 := (hm ho).2
    split
    · dsimp only
      omega
    · rename_i hk
      have h3 := (h2 hk).1
      split
      · dsimp only
        omega
      · dsimp only
        omega

theorem field_calls {w0 W : World} {bc bw N cap : Nat} (s : CN) (c : Col w0 bc bw N cap s.ws s.h s.r s.t W) (q : Nat) (hq : q < N) (h0 : 0 ≤ s.h.to) (h1 : s.h.to ≤ s.h.size) (h3 : s.h.size ≤ 4000) (hb0 : 0 ≤ s.h.bottom) (hbt : s.h.bottom ≤ s.h.top) (htN : s.h.top ≤ N) (hN : N ≤ 8000)
    (hr0 : 0 ≤ s.r) (hr1 : s.r ≤ 60000) (ht0 : 0 ≤ s.t) (ht1 : s.t ≤ 60000) (hm : MoveOk s.ws s.h N (s.ws.getD q 0)) :
    Calls Try.prog 55 #[.pointer (some ⟨bc, 0, none⟩), .int .i64 (q : Int)] W fun e w' => e = .returned (moveV (fieldZ s q).1) ∧ Col w0 bc bw N cap (fieldZ s q).2.ws (fieldZ s q).2.h (fieldZ s q).2.r (fieldZ s q).2.t w' := by
  cases ho : lateZ s.h (s.ws.getD q 0) with
  | false =>
    have e : fieldZ s q = (some (s.ws.getD q 0), { s with r := s.r + 1 }) := by unfold fieldZ; rw [if_pos ho]
    rw [e]
    exact field_stays c q hq h0 h1 h3 hr0 (by omega) ho
  | true =>
    have hc := fun (X : World) (hX : Col w0 bc bw N cap s.ws s.h (s.r + 1) s.t X) => move_calls { s with r := s.r + 1 } hX (s.ws.getD q 0) h0 h1 h3 hb0 hbt htN hN (show 0 ≤ s.r + 1 by omega) (show s.r + 1 ≤ 70000 by omega) ht0 (show s.t ≤ 70000 by omega) hm
    have hb := moveZ_t (s := { s with r := s.r + 1 }) hm
    have e : fieldZ s q = match moveZ { s with r := s.r + 1 } (s.ws.getD q 0) with
        | (some y, s2) => (some y, ⟨s2.ws.set q y, s2.h, s2.r, s2.t + 1⟩)
        | (none, s2) => (none, s2) := by unfold fieldZ; rw [if_neg (by rw [ho]; decide)]
    rw [e]
    generalize moveZ { s with r := s.r + 1 } (s.ws.getD q 0) = m at *
    obtain ⟨o, s2⟩ := m
    dsimp only at hb hc
    cases o with
    | some y => exact field_moves c q hq h0 h1 h3 hr0 (by omega) ho y s2.ws s2.h s2.r s2.t (by omega) (by omega) hc
    | none => exact field_fails c q hq h0 h1 h3 hr0 (by omega) ho s2.ws s2.h s2.r s2.t hc
end Go.Proofs.Ytnoobonlmfgfhaa
