/- The program's bytes of code are the plain ones: the whole. -/
import Derived.Test.YtmjcifaihmecmaaImplBytes
import Derived.Lib.SmallJoins
namespace Go.Proofs.Ytmjcifaihmecmaa
open Go.RowKit

set_option maxHeartbeats 4000000 in
set_option maxRecDepth 100000 in
theorem implBytes_calls (b off cap : Nat) (cs : List In) (w : World) (hb : b < w.heap.size) (hn : InsAt w b off cs) :
    Calls Try.prog 12 #[.slice (some ⟨b, off, none⟩) cs.length cap] w fun e w' => (∃ v, e = .returned (.tuple #[v, .bool (codeOkZ cs)]) ∧ OutB w.heap.size w' v (if codeOkZ cs then codeBytesZ cs else [])) ∧ Below w.heap.size w w' := by
  have HL : Hid (Calls _ _ _ _ _) := listOk_calls b off cap cs w hb hn
  obtain ⟨len, hlen⟩ : ∃ len, cs.length = len := ⟨_, rfl⟩
  have Hlen : Hid (cs.length = len) := hlen
  have HN : Hid (InsAt w b off cs) := hn
  clear hn
  cases hok : codeOkZ cs with
  | false =>
    rw [hlen, hok] at HL
    rw [hlen, if_neg (by simp)]
    go_enter Try.func12, Try.ntmps12
    go_wp2_with fail
    refine HL.out.mono ?_
    rintro e w1 ⟨rfl, hb1⟩
    go_wp2_with fail
    go_ret2
    exact ⟨⟨.slice none 0 0, rfl, Or.inl (World.ownsRow_nil _ _ _ _)⟩, hb1⟩
  | true =>
    rw [hlen, hok] at HL
    rw [hlen, if_pos rfl]
    have HM : Hid (len ≤ 1500 ∧ cs.all In.ok = true) := by
      unfold codeOkZ at hok
      rw [Bool.and_eq_true] at hok
      exact ⟨by have := of_decide_eq_true hok.1; omega, hok.2⟩
    obtain ⟨ansR, hansR⟩ : ∃ ansR, codeBytesZ cs = ansR := ⟨_, rfl⟩
    have HAN : Hid (codeBytesZ cs = ansR) := hansR
    rw [hansR]
    clear hlen hok hansR
    go_enter Try.func12, Try.ntmps12
    go_wp2_with fail
    refine HL.out.mono ?_
    rintro e w1 ⟨rfl, hb1⟩
    have hsz1 := hb1.size
    clear HL
    have hcv := Joins.run_convert_bytes_const_at (P := Try.prog) w1 30 5 #[.int .u8 104, .int .u8 114, .int .u8 49] 3 3 w1.heap.size rfl Try.underlying30 Try.underlying5
    go_wp2_with fail
    clear hcv
    go_loopw [4, 14] (fun o i wr => ∃ k : Nat, i = .int .i64 k ∧ k ≤ len ∧ OutB w1.heap.size wr o (codeBytesZ (cs.take k)) ∧ Below w1.heap.size w1 wr) (fun _ i _ => len - (intOf i).toNat)
    case atStart => exact ⟨0, rfl, Nat.zero_le _, Or.inr ⟨by simp [codeBytesZ], _, rfl, Nat.le_refl _, (MapKept.heap_alloc w1 _).1⟩, (Below.refl _ _).alloc (Nat.le_refl _) _⟩
    case round =>
      obtain ⟨k, rfl, hk, hown, hnx⟩ := hrel
      have hszr := hnx.size
      by_cases hkl : (k : Int) < (len : Int)
      · have hkn : k < cs.length := by rw [Hlen.out]; omega
        have hcell := fun c (hc : c < 4) => ((hnx.cell (p := ⟨b, off + k * 4 + c, none⟩) (Nat.lt_of_lt_of_le hb hsz1)).trans (hb1.cell (p := ⟨b, off + k * 4 + c, none⟩) hb)).trans (HN.out k hkn c hc)
        have HD : Hid (cs.take (k + 1) = cs.take k ++ [cs.getD k default]) := ins_drop hkn
        have hok : In.ok (cs.getD k default) = true := by
          have h1 := List.all_eq_true.1 HM.out.2 (cs.getD k default) (by simp [List.getD, List.getElem?_eq_getElem hkn])
          exact h1
        generalize cs.getD k default = n at hcell HD hok
        obtain ⟨op, x, y, z⟩ := n
        have c0 := hcell 0 (by omega)
        have c1 := hcell 1 (by omega)
        have c2 := hcell 2 (by omega)
        have c3 := hcell 3 (by omega)
        simp only [In.cell, Nat.add_zero] at c0 c1 c2 c3
        clear hcell hkn
        have hlb : (codeBytesZ (cs.take k)).length ≤ 20000 := by
          have h1 := code_length (cs.take k)
          have h2 : (cs.take k).length ≤ k := by simp; omega
          have := HM.out.1
          unfold codeBytesZ headBytes
          simp only [List.length_append, List.length_cons, List.length_nil]
          omega
        have HB : Hid (codeBytesZ (cs.take (k + 1)) = codeBytesZ (cs.take k) ++ In.bytes ⟨op, x, y, z⟩) := by
          show _ = _
          rw [HD.out]
          simp [codeBytesZ]
        obtain ⟨mm, hmm, hm3⟩ := numsZ_range op
        have HBy : Hid (In.bytes ⟨op, x, y, z⟩ = [op % 256] ++ ([x, y, z].take mm).flatMap four) := by
          show _ = _
          have h0 : ¬ manyZ op < 0 := fun h => by
            simp only [In.ok] at hok
            unfold insOkZ at hok
            rw [if_pos (Or.inl h)] at hok
            cases hok
          have h1 : manyZ op = (mm : Int) := by
            rw [← hmm, numsZ_many, if_neg h0]
          simp only [In.bytes, In.nums, h1, Int.toNat_natCast]
          rfl
        have HMM : Hid (numsZ op = (mm : Int)) := hmm
        have Hlb : Hid ((codeBytesZ (cs.take k)).length ≤ 20000) := hlb
        clear hlb HD hok hmm
        generalize codeBytesZ (cs.take k) = bs at *
        go_wp2_with fail
        clear c0 c1 c2 c3
        have hownA := hown.alloc (.cells #[.int .i64 op, .int .i64 x, .int .i64 y, .int .i64 z] 25)
        have h6 := (MapKept.heap_alloc wr (.cells #[.int .i64 op, .int .i64 x, .int .i64 y, .int .i64 z] 25)).1
        have hnxA := hnx.alloc hszr (.cells #[.int .i64 op, .int .i64 x, .int .i64 y, .int .i64 z] 25)
        have hszA : w1.heap.size ≤ (wr.alloc (.cells #[.int .i64 op, .int .i64 x, .int .i64 y, .int .i64 z] 25)).heap.size := hnxA.size
        have hlt6 : wr.heap.size < (wr.alloc (.cells #[.int .i64 op, .int .i64 x, .int .i64 y, .int .i64 z] 25)).heap.size := by simp
        generalize wr.alloc (.cells #[.int .i64 op, .int .i64 x, .int .i64 y, .int .i64 z] 25) = WA at *
        have q0 := cell_of_heap h6 0
        have q1 := cell_of_heap h6 1
        have q2 := cell_of_heap h6 2
        have q3 := cell_of_heap h6 3
        simp at q0 q1 q2 q3
        generalize wr.heap.size = B6 at *
        clear h6 hown hnx
        go_region_with (first
          | (go_at_call 27; refine (numbers_calls op x y z mm _ HMM.out hm3).mono ?_; rintro e W2 ⟨rfl, hg2, hb2⟩; have q0' := (hb2.cell (p := ⟨B6, 0, none⟩) hlt6).trans q0)
          | (go_at_call 26; refine (appendIns_calls w1.heap.size _ mm _ op x y z bs _ (OutB.below (w := WA.drew) hownA hb2) (Nat.le_trans hszA hb2.size) hg2 hm3 Hlb.out).mono ?_; rintro e W3 ⟨⟨v3, rfl, hown3⟩, hb3⟩))
        all_goals
          have hX : OutB w1.heap.size W3 v3 (codeBytesZ (cs.take (k + 1))) := by
            rw [HB.out, HBy.out]
            exact Or.inl hown3
          have hY : Below w1.heap.size w1 W3 := hnxA.drew.trans ((hb2.mono hszA).trans hb3)
          clear hown3 hb3 hb2 hg2
          have HX : Hid _ := hX
          clear hX
          go_wp2_with fail
          have hs : len - (intOf (.int .i64 ((k + 1 : Nat) : Int))).toNat < len - (intOf (.int .i64 (k : Int))).toNat := by simp only [intOf, Int.toNat_natCast]; omega
          try rw [wrap_one (k := k) (len := len) (by omega) (by have := HM.out.1; omega)]
          exact ⟨⟨k + 1, rfl, by omega, HX.out, hY⟩, hs⟩
      · have e1 : cs.take k = cs := List.take_of_length_le (by rw [Hlen.out]; omega)
        rw [e1, HAN.out] at hown
        clear e1
        go_wp2_with fail
        go_ret2
        exact ⟨⟨u4, rfl, hown.mono hsz1⟩, hb1.trans (hnx.mono hsz1)⟩
end Go.Proofs.Ytmjcifaihmecmaa
