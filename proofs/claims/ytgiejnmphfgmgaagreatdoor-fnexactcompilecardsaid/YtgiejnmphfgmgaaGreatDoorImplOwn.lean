/- Whether a node has the fields of its kind, as the program asks it. -/
import Derived.Test.YtgiejnmphfgmgaaGreatDoorSpecOwn
namespace Go.Proofs.YtgiejnmphfgmgaaGreatDoor
open Go.RowKit

/-- What the program asks of one node. -/
def nodeOkZ (n : Nd) : Bool := ownOk n && !(n.kind == 26 && n.b.toList == n.c.toList)

theorem shape_in {k : Int} (h : ¬ (k < 1 ∨ 26 < k)) : shapeVal k = .tuple #[.agg #[.int .i64 (namesZ k), .int .i64 (mostZ k), .int .i64 (leastZ k), .int .i64 (greatZ k)], .bool true] := by rw [shapeVal, if_neg h]
theorem shape_out {k : Int} (h : k < 1 ∨ 26 < k) : shapeVal k = .tuple #[.agg #[.int .i64 0, .int .i64 0, .int .i64 0, .int .i64 0], .bool false] := by rw [shapeVal, if_pos h]

theorem own_out {n : Nd} (h : n.kind < 1 ∨ 26 < n.kind) : nodeOkZ n = false := by
  have : arityZ n.kind = -1 := tab_other h
  simp [nodeOkZ, ownOk, kidsOk, this]

theorem arity_in {k : Int} (h : ¬ (k < 1 ∨ 26 < k)) : arityZ k ≠ -1 := by
  rcases kinds k with rfl | rfl | rfl | rfl | rfl | rfl | rfl | rfl | rfl | rfl | rfl | rfl | rfl | rfl | rfl | rfl | rfl | rfl | rfl | rfl | rfl | rfl | rfl | rfl | rfl | rfl | hh
  all_goals try decide
  exact absurd hh h

theorem kids_in {k kids : Int} (h : ¬ (k < 1 ∨ 26 < k)) : kidsOk k kids = decide (leastZ k ≤ kids ∧ kids ≤ greatZ k) := by
  unfold kidsOk leastZ greatZ
  rw [if_neg (arity_in h)]
  by_cases h2 : arityZ k = -2
  · rw [if_pos h2, if_pos h2, if_pos h2]
  · rw [if_neg h2, if_neg h2, if_neg h2]
    exact decide_eq_decide.2 ⟨fun x => by omega, fun x => by omega⟩

set_option maxHeartbeats 4000000 in
set_option maxRecDepth 100000 in
theorem nodeOk_loop (k num : Int) (a b c : ByteArray) (kids : Int) (w : World) (ha : a.size ≤ maxLen) (hb : b.size ≤ maxLen) (hc : c.size ≤ maxLen) (nm mo le gr : Int)
    (hsh : ∀ w, Calls Tryz.prog 103 #[.int .i64 k] w fun e w' => e = .returned (.tuple #[.agg #[.int .i64 nm, .int .i64 mo, .int .i64 le, .int .i64 gr], .bool true]) ∧ Below w.heap.size w w')
    (h1 : 0 ≤ num) (h2 : num ≤ mo) (h3 : le ≤ kids) (h4 : kids ≤ gr) (hnm : Hid (nm = namesZ k)) (hK : kidsOk k kids = true) (hN : numOk k num = true) :
    Calls Tryz.prog 79 #[.agg #[.int .i64 k, .int .i64 num, .string a, .string b, .string c, .int .i64 kids]] w fun e w' => e = .returned (.bool (nodeOkZ ⟨k, num, a, b, c, kids⟩)) ∧ Below w.heap.size w w' := by
  have HS : Hid (∀ w, _) := hsh
  clear hsh
  have HK : Hid (kidsOk k kids = true) := hK
  have HM : Hid (numOk k num = true) := hN
  clear hK hN
  go_enter Tryz.func79, Tryz.ntmps79
  go_wp2_with (first | (go_at_call 103; refine (HS.out _).mono ?_; rintro e w2 ⟨rfl, hb2⟩; obtain ⟨eA, hnx⟩ := one_kept hb2; clear hb2; have hltA := heap_lt eA; have a0 := cell_of_heap eA 0; have a1 := cell_of_heap eA 1; have a2 := cell_of_heap eA 2; have a3 := cell_of_heap eA 3; have a4 := cell_of_heap eA 4; have a5 := cell_of_heap eA 5; simp at a0 a1 a2 a3 a4 a5))
  clear a0 a1 a2 a3 a4 a5
  go_loopw [49] (fun i wr => ∃ j : Nat, i = .int .i64 j ∧ j ≤ 3 ∧ Hid (∀ i, i < j → fit nm i (Nd.nm ⟨k, num, a, b, c, kids⟩ i) = true) ∧ wr.heap[w.heap.size]? = some (.cells #[.int .i64 k, .int .i64 num, .string a, .string b, .string c, .int .i64 kids] 81) ∧ wr.heap[w2.heap.size]? = some (.cells #[.int .i64 nm, .int .i64 mo, .int .i64 le, .int .i64 gr] 162) ∧ wr.heap[w2.heap.size + 1]? = some (.cells #[.string a, .string b, .string c] 9) ∧ Below w.heap.size w wr) (fun i _ => 3 - (intOf i).toNat)
  case atStart =>
    refine ⟨0, rfl, by omega, fun i hi => by omega, ?_, ?_, ?_, (hnx.alloc (by have := hnx.size; omega) _).alloc (by have := hnx.size; simp; omega) _⟩
    · rw [Below.heap_alloc _ _ _ (by simp; omega), Below.heap_alloc _ _ _ hltA]
      exact eA
    · rw [Below.heap_alloc _ _ _ (by simp)]
      exact (MapKept.heap_alloc w2 _).1
    · have := (MapKept.heap_alloc (w2.alloc (.cells #[.int .i64 nm, .int .i64 mo, .int .i64 le, .int .i64 gr] 162)) (.cells #[.string a, .string b, .string c] 9)).1
      simpa using this
  case round =>
    obtain ⟨j, rfl, hj3, HA, eA, eS, eN, hnx⟩ := hrel
    have s0 := cell_of_heap eS 0
    simp at s0
    have hltA := heap_lt eA
    have hltS := heap_lt eS
    have hltN := heap_lt eN
    by_cases hj : j < 3
    · have hi3 : (j : Int) < 3 := by omega
      have cN : wr.cell? ⟨w2.heap.size + 1, j, none⟩ = some (.string (Nd.nm ⟨k, num, a, b, c, kids⟩ j)) := by
        rw [cell_of_heap eN j]
        match j, hj with
        | 0, _ => rfl
        | 1, _ => rfl
        | 2, _ => rfl
      have hsj : (Nd.nm ⟨k, num, a, b, c, kids⟩ j).size ≤ maxLen := by
        match j, hj with
        | 0, _ => exact ha
        | 1, _ => exact hb
        | 2, _ => exact hc
      have step : fit nm j (Nd.nm ⟨k, num, a, b, c, kids⟩ j) = true → Hid (∀ i, i < j + 1 → fit nm i (Nd.nm ⟨k, num, a, b, c, kids⟩ i) = true) := fun h i hi => by
        by_cases e : i = j
        · rw [e]
          exact h
        · exact HA.out i (by omega)
      have fin : fit nm j (Nd.nm ⟨k, num, a, b, c, kids⟩ j) = false → Hid (nodeOkZ ⟨k, num, a, b, c, kids⟩ = false) := fun h => by
        show nodeOkZ _ = false
        rw [hnm.out] at h
        have := fit_none (n := ⟨k, num, a, b, c, kids⟩) hj h
        simp [nodeOkZ, ownOk, this]
      have hLn := implName_calls (Nd.nm ⟨k, num, a, b, c, kids⟩ j) hsj
      unfold fit at step fin
      generalize Nd.nm ⟨k, num, a, b, c, kids⟩ j = s at *
      have eA' : Hid (wr.heap[w.heap.size]? = some (.cells #[.int .i64 k, .int .i64 num, .string a, .string b, .string c, .int .i64 kids] 81)) := eA
      have eS' : Hid (wr.heap[w2.heap.size]? = some (.cells #[.int .i64 nm, .int .i64 mo, .int .i64 le, .int .i64 gr] 162)) := eS
      have eN' : Hid (wr.heap[w2.heap.size + 1]? = some (.cells #[.string a, .string b, .string c] 9)) := eN
      clear HA eA eS eN
      have HL : Hid (∀ w, _) := hLn
      clear hLn
      by_cases hjn : (j : Int) < nm
      · rw [if_pos hjn] at step fin
        have hjd : decide (nm ≤ (j : Int)) = false := decide_eq_false (by omega)
        cases hn : nameOk s with
        | true =>
          have HT := step hn
          clear step fin
          rw [hn] at HL
          go_wp2_with (first | (go_at_call 48; refine (HL.out _).mono ?_; rintro e w3 ⟨rfl, hb3⟩; have s0' := (hb3.cell (p := ⟨w2.heap.size, 0, none⟩) hltS).trans s0))
          all_goals
            have eA2 := (hb3.block w.heap.size hltA).trans eA'.out
            have eS2 := (hb3.block w2.heap.size hltS).trans eS'.out
            have eN2 := (hb3.block (w2.heap.size + 1) hltN).trans eN'.out
            have hnx2 := hnx.trans (hb3.mono hnx.size)
            exact ⟨⟨j + 1, by simp, by omega, HT, eA2, eS2, eN2, hnx2⟩, by simp [intOf]; omega⟩
        | false =>
          have HF := fin hn
          clear step fin
          rw [hn] at HL
          go_wp2_with (first | (go_at_call 48; refine (HL.out _).mono ?_; rintro e w3 ⟨rfl, hb3⟩; have s0' := (hb3.cell (p := ⟨w2.heap.size, 0, none⟩) hltS).trans s0))
          all_goals
            have hnx2 := hnx.trans (hb3.mono hnx.size)
            go_ret
            exact ⟨by rw [HF.out]; rfl, hnx2⟩
      · rw [if_neg hjn] at step fin
        have hjd : decide (nm ≤ (j : Int)) = true := decide_eq_true (by omega)
        cases he : (s.toList == []) with
        | true =>
          have HT := step he
          clear step fin
          go_wp2_with fail
          all_goals exact ⟨⟨j + 1, by simp, by omega, HT, eA'.out, eS'.out, eN'.out, hnx⟩, by simp [intOf]; omega⟩
        | false =>
          have HF := fin he
          clear step fin
          go_wp2_with fail
          all_goals
            go_ret
            exact ⟨by rw [HF.out]; rfl, hnx⟩
    · have hnames : namesOk ⟨k, num, a, b, c, kids⟩ = true := fit_all (fun i hi => by have := HA.out i (by omega); rw [hnm.out] at this; exact this)
      have hO : nodeOkZ ⟨k, num, a, b, c, kids⟩ = (!(k == 20 && a.toList == b.toList) && !(k == 26 && b.toList == c.toList)) := by simp [nodeOkZ, ownOk, HK.out, HM.out, hnames, unlike]
      have a0 := cell_of_heap eA 0
      have a2 := cell_of_heap eA 2
      have a3 := cell_of_heap eA 3
      have a4 := cell_of_heap eA 4
      simp at a0 a2 a3 a4
      clear HA eA eS eN hnames s0 HK HM hnm HS
      by_cases h20 : k = 20
      · subst h20
        cases hab : (a.toList == b.toList) with
        | true =>
          have HO : Hid (nodeOkZ ⟨20, num, a, b, c, kids⟩ = false) := by show _ = _; rw [hO, hab]; rfl
          clear hO
          go_wp2_with fail
          all_goals
            go_ret
            exact ⟨by rw [HO.out]; rfl, hnx⟩
        | false =>
          have HO : Hid (nodeOkZ ⟨20, num, a, b, c, kids⟩ = true) := by show _ = _; rw [hO, hab]; rfl
          clear hO
          go_wp2_with fail
          all_goals
            go_ret
            exact ⟨by rw [HO.out]; rfl, hnx⟩
      · have h20' : (k == 20) = false := by rw [beq_eq_false_iff_ne]; exact h20
        by_cases h26 : k = 26
        · subst h26
          have HO : Hid (nodeOkZ ⟨26, num, a, b, c, kids⟩ = !(b.toList == c.toList)) := by show _ = _; rw [hO]; rfl
          clear hO h20 h20'
          go_wp2_with fail
          all_goals
            go_ret
            exact ⟨by rw [HO.out]; rfl, hnx⟩
        · have h26' : (k == 26) = false := by rw [beq_eq_false_iff_ne]; exact h26
          have HO : Hid (nodeOkZ ⟨k, num, a, b, c, kids⟩ = true) := by show _ = _; rw [hO, h20', h26']; rfl
          clear hO h20 h26
          go_wp2_with fail
          all_goals
            go_ret
            exact ⟨by rw [HO.out]; rfl, hnx⟩

set_option maxHeartbeats 1000000 in
set_option maxRecDepth 100000 in
theorem nodeOk_calls (n : Nd) (w : World) (ha : n.a.size ≤ maxLen) (hb : n.b.size ≤ maxLen) (hc : n.c.size ≤ maxLen) :
    Calls Tryz.prog 79 #[.agg #[.int .i64 n.kind, .int .i64 n.num, .string n.a, .string n.b, .string n.c, .int .i64 n.kids]] w fun e w' => e = .returned (.bool (nodeOkZ n)) ∧ Below w.heap.size w w' := by
  obtain ⟨k, num, a, b, c, kids⟩ := n
  dsimp only at *
  have hsh := shape_calls k
  by_cases hk : k < 1 ∨ 26 < k
  · have HO : Hid (nodeOkZ ⟨k, num, a, b, c, kids⟩ = false) := own_out hk
    rw [shape_out hk] at hsh
    have HS : Hid (∀ w, _) := hsh
    clear hsh hk
    go_enter Tryz.func79, Tryz.ntmps79
    go_wp2_with (first | (go_at_call 103; refine (HS.out _).mono ?_; rintro e w2 ⟨rfl, hb2⟩; obtain ⟨eA, hnx⟩ := one_kept hb2; clear hb2))
    all_goals
      go_ret
      exact ⟨by rw [HO.out]; rfl, hnx.alloc hnx.size _⟩
  · rw [shape_in hk] at hsh
    have hN : numOk k num = decide (0 ≤ num ∧ num ≤ mostZ k) := rfl
    have hK := kids_in (kids := kids) hk
    by_cases h1 : (0 ≤ num ∧ num ≤ mostZ k) ∧ (leastZ k ≤ kids ∧ kids ≤ greatZ k)
    · exact nodeOk_loop k num a b c kids w ha hb hc _ _ _ _ hsh h1.1.1 h1.1.2 h1.2.1 h1.2.2 rfl (by rw [hK]; exact decide_eq_true h1.2) (by rw [hN]; exact decide_eq_true h1.1)
    · have HO : Hid (nodeOkZ ⟨k, num, a, b, c, kids⟩ = false) := by
        show _ = _
        rw [nodeOkZ, ownOk, hK, hN]
        by_cases h2 : 0 ≤ num ∧ num ≤ mostZ k
        · have h3 : ¬ (leastZ k ≤ kids ∧ kids ≤ greatZ k) := fun h => h1 ⟨h2, h⟩
          simp only [decide_eq_false h3, Bool.false_and]
        · simp only [decide_eq_false h2, Bool.and_false, Bool.false_and]
      clear hN hK
      generalize mostZ k = mo at *
      generalize leastZ k = le at *
      generalize greatZ k = gr at *
      generalize namesZ k = nm at *
      have HS : Hid (∀ w, _) := hsh
      have h1' : num < 0 ∨ mo < num ∨ kids < le ∨ gr < kids := by omega
      clear hsh h1 hk
      have hb1 : (decide (num < 0) || decide (mo < num) || decide (kids < le) || decide (gr < kids)) = true := by
        simp only [Bool.or_eq_true, decide_eq_true_eq]
        omega
      clear h1'
      go_enter Tryz.func79, Tryz.ntmps79
      go_wp2_with (first | (go_at_call 103; refine (HS.out _).mono ?_; rintro e w2 ⟨rfl, hb2⟩; obtain ⟨eA, hnx⟩ := one_kept hb2; clear hb2; have hltA := heap_lt eA; have a1 := cell_of_heap eA 1; have a5 := cell_of_heap eA 5; simp at a1 a5))
      all_goals
        go_ret
        exact ⟨by rw [HO.out]; rfl, hnx.alloc hnx.size _⟩
end Go.Proofs.YtgiejnmphfgmgaaGreatDoor
