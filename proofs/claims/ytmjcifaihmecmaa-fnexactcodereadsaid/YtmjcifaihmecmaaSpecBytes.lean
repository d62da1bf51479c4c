/- The specification's bytes of code are the plain ones. -/
import Derived.Test.YtmjcifaihmecmaaCodePure
import Derived.Test.YtmjcifaihmecmaaInsSpec
import Derived.Test.YtmjcifaihmecmaaByteRows
namespace Go.Proofs.Ytmjcifaihmecmaa
open Go.RowKit

set_option maxRecDepth 100000 in
theorem l5Four_calls (n : Int) (w : World) :
    Calls Try.prog 24 #[.int .i64 n] w fun e w' => e = .returned (.slice (some ⟨w.heap.size, 0, none⟩) 4 4) ∧ w' = w.alloc (.cells #[.int .u8 (n / 16777216 % 256), .int .u8 (n / 65536 % 256), .int .u8 (n / 256 % 256), .int .u8 (n % 256)] 5) := by
  go_enter Try.func24, Try.ntmps24
  go_wp2
  go_ret
  refine ⟨rfl, ?_⟩
  rw [show IntKind.u64.wrap n / 16777216 % 256 = n / 16777216 % 256 by rw [IntKind.wrap_u64]; omega, show IntKind.u64.wrap n / 65536 % 256 = n / 65536 % 256 by rw [IntKind.wrap_u64]; omega,
    show IntKind.u64.wrap n / 256 % 256 = n / 256 % 256 by rw [IntKind.wrap_u64]; omega, show IntKind.u64.wrap n % 256 = n % 256 by rw [IntKind.wrap_u64]; omega]

set_option maxHeartbeats 4000000 in
set_option maxRecDepth 100000 in
theorem specBytes_calls (b off cap : Nat) (cs : List In) (w : World) (hb : b < w.heap.size) (hn : InsAt w b off cs) :
    Calls Try.prog 10 #[.slice (some ⟨b, off, none⟩) cs.length cap] w fun e w' => (∃ v, e = .returned (.tuple #[v, .bool (codeOkZ cs)]) ∧ OwnsB w.heap.size w' v (if codeOkZ cs then codeBytesZ cs else [])) ∧ Below w.heap.size w w' := by
  obtain ⟨len, hlen⟩ : ∃ len, cs.length = len := ⟨_, rfl⟩
  have Hlen : Hid (cs.length = len) := hlen
  have HN : Hid (InsAt w b off cs) := hn
  clear hn
  by_cases hbig : (1500 : Int) < (len : Int)
  · rw [show codeOkZ cs = false by unfold codeOkZ; rw [decide_eq_false (by omega)]; rfl, hlen]
    go_enter Try.func10, Try.ntmps10
    go_wp2_with fail
    go_ret2
    exact ⟨⟨_, rfl, World.ownsRow_nil _ _ _ _⟩, Below.refl _ _⟩
  obtain ⟨okR, hokR⟩ : ∃ okR, codeOkZ cs = okR := ⟨_, rfl⟩
  obtain ⟨ansR, hansR⟩ : ∃ ansR, (if codeOkZ cs then codeBytesZ cs else []) = ansR := ⟨_, rfl⟩
  have HOK : Hid (codeOkZ cs = okR) := hokR
  have HAN : Hid ((if codeOkZ cs then codeBytesZ cs else []) = ansR) := hansR
  rw [hansR, hokR, hlen]
  clear hlen hokR hansR
  have HM : Hid (len ≤ 1500) := by show _ ≤ _; omega
  obtain ⟨i0, hi, hz0, hz1, hz2⟩ := info_parts info_byte
  go_enter Try.func10, Try.ntmps10
  go_wp2_with fail
  go_loopw [4, 5] (fun o i wr => ∃ k : Nat, i = .int .i64 k ∧ k ≤ len ∧ OwnsB w.heap.size wr o (codeBytesZ (cs.take k)) ∧ Hid ((cs.take k).all In.ok = true) ∧ Below w.heap.size w wr) (fun _ i _ => len - (intOf i).toNat)
  case atStart => exact ⟨0, rfl, Nat.zero_le _, by simpa [codeBytesZ] using head_owns w, by simp [Hid], (Below.refl _ _).alloc (Nat.le_refl _) _⟩
  case round =>
    obtain ⟨k, rfl, hk, hown, HA, hnx⟩ := hrel
    by_cases hkl : (k : Int) < (len : Int)
    · have hkn : k < cs.length := by rw [Hlen.out]; omega
      have hcell := fun c (hc : c < 4) => (hnx.cell (p := ⟨b, off + k * 4 + c, none⟩) hb).trans (HN.out k hkn c hc)
      have HD : Hid (cs.take (k + 1) = cs.take k ++ [cs.getD k default]) := ins_drop hkn
      generalize cs.getD k default = n at hcell HD
      obtain ⟨op, x, y, z⟩ := n
      have c0 := hcell 0 (by omega)
      have c1 := hcell 1 (by omega)
      have c2 := hcell 2 (by omega)
      have c3 := hcell 3 (by omega)
      simp only [In.cell, Nat.add_zero] at c0 c1 c2 c3
      clear hcell hkn
      have hsz := hnx.size
      go_wp2_with fail
      refine (specInsOk_calls op x y z _).mono ?_
      rintro e W1 ⟨rfl, hb1⟩
      have h6 := (hb1.block wr.heap.size (by simp)).trans (MapKept.heap_alloc wr _).1
      have hown1 : OwnsB w.heap.size W1 u4 (codeBytesZ (cs.take k)) := kept_owns (hown.alloc _) hb1
      have hnx1 : Below w.heap.size w W1 := (hnx.alloc hsz _).trans (hb1.mono (by simp; omega))
      have hsz1 : w.heap.size ≤ W1.heap.size := hnx1.size
      have hlt6 : wr.heap.size < W1.heap.size := (Array.getElem?_eq_some_iff.1 h6).1
      clear hown hnx hb1 c0 c1 c2 c3
      cases hok : insOkZ op x y z with
      | false =>
        have HZ : Hid (codeOkZ cs = false) := by
          show _ = _
          unfold codeOkZ
          rw [Bool.and_eq_false_iff]
          refine Or.inr ?_
          have h1 : (cs.take (k + 1)).all In.ok = false := by
            rw [HD.out, List.all_append]
            simp [In.ok, hok]
          rw [← List.take_append_drop (k + 1) cs, List.all_append, h1, Bool.false_and]
        clear hown1 h6 HD HA HN
        go_wp2_with fail
        go_ret2
        have e1 : okR = false := HOK.out.symm.trans HZ.out
        have e2 : ansR = [] := by rw [← HAN.out, HZ.out]; rfl
        subst e1 e2
        exact ⟨⟨.slice none 0 0, rfl, World.ownsRow_nil _ _ _ _⟩, hnx1⟩
      | true =>
        have hlb : (codeBytesZ (cs.take k)).length ≤ 20000 := by
          have h1 := code_length (cs.take k)
          have h2 : (cs.take k).length ≤ k := by simp; omega
          have := HM.out
          unfold codeBytesZ headBytes
          simp only [List.length_append, List.length_cons, List.length_nil]
          omega
        have HB : Hid (codeBytesZ (cs.take (k + 1)) = codeBytesZ (cs.take k) ++ In.bytes ⟨op, x, y, z⟩) := by
          show _ = _
          rw [HD.out]
          simp [codeBytesZ]
        have HA1 : Hid ((cs.take (k + 1)).all In.ok = true) := by
          show _ = _
          rw [HD.out, List.all_append, HA.out]
          simp [In.ok, hok]
        have hmany : ∃ mm : Nat, manyZ op = (mm : Int) ∧ mm ≤ 3 := by
          have h0 : ¬ manyZ op < 0 := fun h => by
            unfold insOkZ at hok
            rw [if_pos (Or.inl h)] at hok
            cases hok
          refine ⟨(manyZ op).toNat, by omega, ?_⟩
          have : manyZ op ≤ 3 := by
            unfold manyZ
            repeat' split
            all_goals omega
          omega
        obtain ⟨mm, hmm, hm3⟩ := hmany
        have HMM : Hid (manyZ op = (mm : Int)) := hmm
        have Hlb : Hid ((codeBytesZ (cs.take k)).length ≤ 20000) := hlb
        have HBy : Hid (In.bytes ⟨op, x, y, z⟩ = [op % 256] ++ ([x, y, z].take mm).flatMap four) := by
          show _ = _
          simp only [In.bytes, In.nums, hmm, Int.toNat_natCast]
          rfl
        clear hlb HA HD hok hmm
        generalize codeBytesZ (cs.take k) = bs at *
        have q0 := cell_of_heap h6 0
        have q1 := cell_of_heap h6 1
        have q2 := cell_of_heap h6 2
        have q3 := cell_of_heap h6 3
        simp at q0 q1 q2 q3
        have H6 : Hid (W1.heap[wr.heap.size]? = some (.cells #[.int .i64 op, .int .i64 x, .int .i64 y, .int .i64 z] 25)) := h6
        clear h6
        go_wp2_with (first
          | (at_builtin; refine wpList_append_own _ rfl _ _ 30 rfl w.heap.size 5 i0 (.int .u8 0) 1 1 Try.underlying30 hi hz0 hz1 hz2 rfl (by decide) _ _ _ rfl (hown1.alloc _) ⟨W1.heap.size, 0, none⟩ 1 1 [.int .u8 (op % 256)] rfl rfl (cell_one_new _ _ rfl _ _) (fun u hu => by simp at hu; subst hu; rfl) (by have := Hlb.out; unfold maxLen; omega) (by have := Hlb.out; omega) (by simp; omega) ?_
             intro v' w3 hown' hgrow3 hnil3
             have h63 : w3.heap[wr.heap.size]? = some (.cells #[.int .i64 op, .int .i64 x, .int .i64 y, .int .i64 z] 25) := by
               have e1 : (W1.alloc (.cells #[.int .u8 (op % 256)] 5)).heap[wr.heap.size]? = some (.cells #[.int .i64 op, .int .i64 x, .int .i64 y, .int .i64 z] 25) := by
                 rw [Below.heap_alloc _ _ _ hlt6]; exact H6.out
               rw [hgrow3.block wr.heap.size (by simp; omega) (owns_ne (hown1.alloc _) e1 (by decide))]
               exact e1
             have hbw3 : Below w.heap.size w w3 := Below.grown (hnx1.alloc (by omega) _) hgrow3 (by simp; omega) (fun j hj => by have := (hown1.lt _ hj).1; omega)
             have hown3 : OwnsB w.heap.size w3 v' (bs ++ [op % 256]) := OwnsB.more hown' rfl rfl
             have hsz3 := hbw3.size
             have hlt63 : wr.heap.size < w3.heap.size := (Array.getElem?_eq_some_iff.1 h63).1
             have q0 := cell_of_heap h63 0
             have q1 := cell_of_heap h63 1
             have q2 := cell_of_heap h63 2
             have q3 := cell_of_heap h63 3
             simp at q0 q1 q2 q3
             have H63 : Hid _ := h63
             clear hgrow3 hnil3 hown' hown1 hnx1 h63 hsz1 hlt6 H6))
        have h7 : (w3.alloc (.cells #[.int .i64 x, .int .i64 y, .int .i64 z] 3)).heap[w3.heap.size]? = some (.cells #[.int .i64 x, .int .i64 y, .int .i64 z] 3) := (MapKept.heap_alloc w3 _).1
        have h6a : (w3.alloc (.cells #[.int .i64 x, .int .i64 y, .int .i64 z] 3)).heap[wr.heap.size]? = some (.cells #[.int .i64 op, .int .i64 x, .int .i64 y, .int .i64 z] 25) := by
          rw [Below.heap_alloc _ _ _ hlt63]; exact H63.out
        have hnx4 : Below w.heap.size w (w3.alloc (.cells #[.int .i64 x, .int .i64 y, .int .i64 z] 3)) := hbw3.alloc hsz3 _
        have hown4 : OwnsB w.heap.size (w3.alloc (.cells #[.int .i64 x, .int .i64 y, .int .i64 z] 3)) v' (bs ++ [op % 256]) := hown3.alloc _
        clear hown3 hbw3 H63 q0 q1 q2 q3 hlt63
        generalize w3.alloc (.cells #[.int .i64 x, .int .i64 y, .int .i64 z] 3) = W4 at *
        generalize w3.heap.size = B7 at *
        generalize wr.heap.size = B6 at *
        clear hsz hsz3
        go_loopw [4, 8] (fun o j wi => ∃ q : Nat, j = .int .i64 q ∧ q ≤ mm ∧ OwnsB w.heap.size wi o ((bs ++ [op % 256]) ++ ([x, y, z].take q).flatMap four) ∧ wi.heap[B6]? = some (.cells #[.int .i64 op, .int .i64 x, .int .i64 y, .int .i64 z] 25) ∧
            wi.heap[B7]? = some (.cells #[.int .i64 x, .int .i64 y, .int .i64 z] 3) ∧ Below w.heap.size w wi) (fun _ j _ => mm - (intOf j).toNat)
        case atStart => exact ⟨0, rfl, Nat.zero_le _, by simpa using hown4, h6a, h7, hnx4⟩
        case round =>
          obtain ⟨q, rfl, hqm, hownq, h6q, h7q, hnxq⟩ := hrel
          clear hown4 h6a h7 hnx4
          have r0 := cell_of_heap h6q 0
          simp at r0
          have hlt6 := heap_lt h6q
          have hlt7 := heap_lt h7q
          have hszq := hnxq.size
          go_wp2_with fail
          refine (l5Many_calls _ _).mono ?_
          rintro e W5 ⟨rfl, rfl⟩
          rw [HMM.out]
          by_cases hq : (q : Int) < (mm : Int)
          · have hq3 : q < 3 := by omega
            have r7 := cell_of_heap h7q q
            have HT : Hid (([x, y, z].take (q + 1)).flatMap four = ([x, y, z].take q).flatMap four ++ four ([x, y, z].getD q 0)) := by
              show _ = _
              rw [List.take_succ_eq_append_getElem (by simpa using hq3), List.flatMap_append]
              simp [List.getD, hq3]
            rw [show (#[.int .i64 x, .int .i64 y, .int .i64 z] : Array Value)[q]? = some (.int .i64 ([x, y, z].getD q 0)) by
              match q, hq3 with
              | 0, _ => rfl
              | 1, _ => rfl
              | 2, _ => rfl] at r7
            have HLQ : Hid (((bs ++ [op % 256]) ++ ([x, y, z].take q).flatMap four).length ≤ 20020) := by
              show _ ≤ _
              have := Hlb.out
              simp only [List.length_append, flat_length, List.length_take, List.length_cons, List.length_nil]
              omega
            generalize [x, y, z].getD q 0 = nq at *
            obtain ⟨cur, hcur⟩ : ∃ cur, (bs ++ [op % 256]) ++ ([x, y, z].take q).flatMap four = cur := ⟨_, rfl⟩
            have Hcur : Hid ((bs ++ [op % 256]) ++ ([x, y, z].take q).flatMap four = cur) := hcur
            rw [hcur] at hownq HLQ
            clear hcur
            have hi3 : (q : Int) < 3 := by omega
            go_wp2_with fail
            refine (l5Four_calls _ _).mono ?_
            rintro e W6 ⟨rfl, rfl⟩
            clear r0 r7
            go_wp2_with (first
              | (at_builtin; refine wpList_append_own _ rfl _ _ 30 rfl w.heap.size 5 i0 (.int .u8 0) 1 1 Try.underlying30 hi hz0 hz1 hz2 rfl (by decide) _ _ _ rfl (hownq.alloc _) ⟨wr.heap.size, 0, none⟩ 4 4 [.int .u8 (nq / 16777216 % 256), .int .u8 (nq / 65536 % 256), .int .u8 (nq / 256 % 256), .int .u8 (nq % 256)] rfl rfl (cell_four_new _ _ rfl _ _ _ _ _) (fun u hu => by simp at hu; rcases hu with rfl | rfl | rfl | rfl <;> rfl) (by have := HLQ.out; unfold maxLen; omega) (by have := HLQ.out; omega) (by simp; omega) ?_
                 intro v7 w7 hown7' hgrow7 hnil7
                 have k6 : w7.heap[B6]? = some (.cells #[.int .i64 op, .int .i64 x, .int .i64 y, .int .i64 z] 25) := by
                   have e1 : (wr.alloc (.cells #[.int .u8 (nq / 16777216 % 256), .int .u8 (nq / 65536 % 256), .int .u8 (nq / 256 % 256), .int .u8 (nq % 256)] 5)).heap[B6]? = some (.cells #[.int .i64 op, .int .i64 x, .int .i64 y, .int .i64 z] 25) := by
                     rw [Below.heap_alloc _ _ _ hlt6]; exact h6q
                   rw [hgrow7.block B6 (by simp; omega) (owns_ne (hownq.alloc _) e1 (by decide))]
                   exact e1
                 have k7 : w7.heap[B7]? = some (.cells #[.int .i64 x, .int .i64 y, .int .i64 z] 3) := by
                   have e1 : (wr.alloc (.cells #[.int .u8 (nq / 16777216 % 256), .int .u8 (nq / 65536 % 256), .int .u8 (nq / 256 % 256), .int .u8 (nq % 256)] 5)).heap[B7]? = some (.cells #[.int .i64 x, .int .i64 y, .int .i64 z] 3) := by
                     rw [Below.heap_alloc _ _ _ hlt7]; exact h7q
                   rw [hgrow7.block B7 (by simp; omega) (owns_ne (hownq.alloc _) e1 (by decide))]
                   exact e1
                 have hbw7 : Below w.heap.size w w7 := Below.grown (hnxq.alloc (by omega) _) hgrow7 (by simp; omega) (fun j hj => by have := (hownq.lt _ hj).1; omega)
                 have hown7 : OwnsB w.heap.size w7 v7 (cur ++ four nq) := OwnsB.more hown7' rfl rfl
                 have K6 : Hid _ := k6
                 have K7 : Hid _ := k7
                 clear hgrow7 hnil7 hown7' hownq hnxq k6 k7 h6q h7q))
            have hs : mm - (intOf (.int .i64 ((q + 1 : Nat) : Int))).toNat < mm - (intOf (.int .i64 (q : Int))).toNat := by simp only [intOf, Int.toNat_natCast]; omega
            try rw [wrap_one (k := q) (len := mm) (by omega) (by omega)]
            refine ⟨⟨q + 1, rfl, by omega, ?_, K6.out, K7.out, hbw7⟩, hs⟩
            rw [HT.out, ← List.append_assoc, Hcur.out]
            exact hown7
          · have hqm' : q = mm := by omega
            subst hqm'
            have HX : Hid (OwnsB w.heap.size wr u4 (codeBytesZ (cs.take (k + 1)))) := by
              show OwnsB _ _ _ _
              rw [HB.out, HBy.out, ← List.append_assoc]
              exact hownq
            clear hownq r0 h6q h7q
            go_wp2_with fail
            have hs : len - (intOf (.int .i64 ((k + 1 : Nat) : Int))).toNat < len - (intOf (.int .i64 (k : Int))).toNat := by simp only [intOf, Int.toNat_natCast]; omega
            try rw [wrap_one (k := k) (len := len) (by omega) (by have := HM.out; omega)]
            exact ⟨⟨k + 1, rfl, by omega, HX.out, HA1, hnxq⟩, hs⟩
    · have hkn : k = len := by omega
      have e1 : cs.take k = cs := List.take_of_length_le (by rw [Hlen.out]; omega)
      have HZ : Hid (codeOkZ cs = true) := by
        show _ = _
        unfold codeOkZ
        rw [decide_eq_true (by rw [Hlen.out]; exact HM.out), Bool.true_and, ← e1]
        exact HA.out
      rw [e1] at hown
      clear HA e1
      go_wp2_with fail
      go_ret2
      have e1 : okR = true := HOK.out.symm.trans HZ.out
      have e2 : ansR = codeBytesZ cs := by rw [← HAN.out, HZ.out]; rfl
      subst e1 e2
      exact ⟨⟨u4, rfl, hown⟩, hnx⟩
end Go.Proofs.Ytmjcifaihmecmaa
