/- The program's bytes of code are the plain ones. -/
import Derived.Test.YtmjcifaihmecmaaImplNums
import Derived.Test.YtmjcifaihmecmaaOutB
namespace Go.Proofs.Ytmjcifaihmecmaa
open Go.RowKit

set_option maxHeartbeats 1000000 in
set_option maxRecDepth 100000 in
theorem appendIns_calls (B g m : Nat) (v : Value) (op x y z : Int) (bs : List Int) (w : World) (hown : OutB B w v bs) (hB : B ≤ w.heap.size) (hg : w.heap[g]? = some (.cells #[.int .i64 x, .int .i64 y, .int .i64 z] 3)) (h3 : m ≤ 3) (hl : bs.length ≤ 20000) :
    Calls Try.prog 26 #[v, .int .i64 op, .slice (some ⟨g, 0, none⟩) m 3] w fun e w' => (∃ v', e = .returned v' ∧ OwnsB B w' v' (bs ++ ([op % 256] ++ ([x, y, z].take m).flatMap four))) ∧ Below B w w' := by
  have Hlb : Hid (bs.length ≤ 20000) := hl
  clear hl
  obtain ⟨i0, hi, hz0, hz1, hz2⟩ := info_parts info_byte
  have hltg := heap_lt hg
  have Hg : Hid (w.heap[g]? = some (.cells #[.int .i64 x, .int .i64 y, .int .i64 z] 3)) := hg
  clear hg
  go_enter Try.func26, Try.ntmps26
  go_wp2_with (first
    | (at_builtin; refine wpList_append_out rfl _ _ rfl B _ bs rfl (hown.alloc _) ⟨w.heap.size, 0, none⟩ 1 1 [op % 256] [.int .u8 (op % 256)] (by decide) rfl rfl rfl (cell_one_new _ _ rfl _ _) (by have := Hlb.out; omega) (by simp; omega) ?_
       intro v' w3 hown3 hgrow3
       have hg3 : w3.heap[g]? = some (.cells #[.int .i64 x, .int .i64 y, .int .i64 z] 3) := by
         have e1 : (w.alloc (.cells #[.int .u8 (op % 256)] 5)).heap[g]? = some (.cells #[.int .i64 x, .int .i64 y, .int .i64 z] 3) := by
           rw [Below.heap_alloc _ _ _ hltg]; exact Hg.out
         rw [hgrow3.block g (by simp; omega) ((hown.alloc _).ne e1 (by decide))]
         exact e1
       have hbw3 : Below B w w3 := Below.grown ((Below.refl B w).alloc hB _) hgrow3 (by simp; omega) (fun j hj => hown.lt _ hj)
       clear hgrow3 hown Hg))
  go_loopw [0, 17] (fun o j wi => ∃ q : Nat, j = .int .i64 q ∧ q ≤ m ∧ OwnsB B wi o ((bs ++ [op % 256]) ++ ([x, y, z].take q).flatMap four) ∧ wi.heap[g]? = some (.cells #[.int .i64 x, .int .i64 y, .int .i64 z] 3) ∧ Below B w wi) (fun _ j _ => m - (intOf j).toNat)
  case atStart => exact ⟨0, rfl, Nat.zero_le _, by simpa using hown3, hg3, hbw3⟩
  case round =>
    obtain ⟨q, rfl, hqm, hownq, h7q, hnxq⟩ := hrel
    clear hown3 hg3 hbw3
    have hlt7 := heap_lt h7q
    have hszq := hnxq.size
    by_cases hq : (q : Int) < (m : Int)
    · have hq3 : q < 3 := by omega
      have r7 := cell_of_heap h7q q
      have HT : Hid (([x, y, z].take (q + 1)).flatMap four = ([x, y, z].take q).flatMap four ++ four ([x, y, z].getD q 0)) := by
        show _ = _
        rw [List.take_succ_eq_append_getElem (by simpa using hq3), List.flatMap_append]
        simp [List.getD, hq3]
      rw [show (#[.int .i64 x, .int .i64 y, .int .i64 z] : Array Value)[q]? = some (.int .i64 ([x, y, z].getD q 0)) by
        match q, hq3 with
        | 0, _ => rfl
        | 1, _ => rfl
        | 2, _ => rfl] at r7
      have HLQ : Hid (((bs ++ [op % 256]) ++ ([x, y, z].take q).flatMap four).length ≤ 20020) := by
        show _ ≤ _
        have := Hlb.out
        simp only [List.length_append, flat_length, List.length_take, List.length_cons, List.length_nil]
        omega
      generalize [x, y, z].getD q 0 = nq at *
      obtain ⟨cur, hcur⟩ : ∃ cur, (bs ++ [op % 256]) ++ ([x, y, z].take q).flatMap four = cur := ⟨_, rfl⟩
      have Hcur : Hid ((bs ++ [op % 256]) ++ ([x, y, z].take q).flatMap four = cur) := hcur
      rw [hcur] at hownq HLQ
      clear hcur
      have hN : [Value.int .u8 (nq % 4294967296 / 16777216), .int .u8 (nq % 4294967296 / 65536 % 256), .int .u8 (nq % 4294967296 / 256 % 256), .int .u8 (nq % 256)] = (four nq).map (fun b => .int .u8 b) := by
        rw [show nq % 4294967296 / 16777216 = nq / 16777216 % 256 by omega, show nq % 4294967296 / 65536 % 256 = nq / 65536 % 256 by omega, show nq % 4294967296 / 256 % 256 = nq / 256 % 256 by omega]
        rfl
      have HNE : Hid _ := hN
      clear hN
      go_wp2_with (first
        | (at_builtin; refine wpList_append_own _ rfl _ _ 30 rfl B 5 i0 (.int .u8 0) 1 1 Try.underlying30 hi hz0 hz1 hz2 rfl (by decide) _ _ _ rfl (hownq.alloc _) ⟨wr.heap.size, 0, none⟩ 4 4 [.int .u8 (nq % 4294967296 / 16777216), .int .u8 (nq % 4294967296 / 65536 % 256), .int .u8 (nq % 4294967296 / 256 % 256), .int .u8 (nq % 256)] rfl rfl (cell_four_new _ _ rfl _ _ _ _ _) (fun u hu => by simp at hu; rcases hu with rfl | rfl | rfl | rfl <;> rfl) (by have := HLQ.out; unfold maxLen; omega) (by have := HLQ.out; omega) (by simp; omega) ?_
           intro v7 w7 hown7' hgrow7 hnil7
           have k7 : w7.heap[g]? = some (.cells #[.int .i64 x, .int .i64 y, .int .i64 z] 3) := by
             have e1 : (wr.alloc (.cells #[.int .u8 (nq % 4294967296 / 16777216), .int .u8 (nq % 4294967296 / 65536 % 256), .int .u8 (nq % 4294967296 / 256 % 256), .int .u8 (nq % 256)] 5)).heap[g]? = some (.cells #[.int .i64 x, .int .i64 y, .int .i64 z] 3) := by
               rw [Below.heap_alloc _ _ _ hlt7]; exact h7q
             rw [hgrow7.block g (by simp; omega) (owns_ne (hownq.alloc _) e1 (by decide))]
             exact e1
           have hbw7 : Below B w w7 := Below.grown (hnxq.alloc (by omega) _) hgrow7 (by simp; omega) (fun j hj => by have := (hownq.lt _ hj).1; omega)
           have hown7 : OwnsB B w7 v7 (cur ++ four nq) := OwnsB.more hown7' HNE.out rfl
           have K7 : Hid _ := k7
           clear hgrow7 hnil7 hown7' hownq hnxq k7 h7q))
      have hs : m - (intOf (.int .i64 ((q + 1 : Nat) : Int))).toNat < m - (intOf (.int .i64 (q : Int))).toNat := by simp only [intOf, Int.toNat_natCast]; omega
      try rw [wrap_one (k := q) (len := m) (by omega) (by omega)]
      refine ⟨⟨q + 1, rfl, by omega, ?_, K7.out, hbw7⟩, hs⟩
      rw [HT.out, ← List.append_assoc, Hcur.out]
      exact hown7
    · have hqm' : q = m := by omega
      subst hqm'
      have HX : Hid (OwnsB B wr u0 (bs ++ ([op % 256] ++ ([x, y, z].take q).flatMap four))) := by
        show OwnsB _ _ _ _
        rw [← List.append_assoc]
        exact hownq
      clear hownq h7q
      go_wp2_with fail
      go_ret
      exact ⟨⟨_, rfl, HX.out⟩, hnxq⟩
end Go.Proofs.Ytmjcifaihmecmaa
