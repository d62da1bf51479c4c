/- Whether a node has the fields of its kind, as the specification asks it: every kind. -/
import Derived.Test.YtgiejnmphfgmgaaGreatDoorSpecOwn
import Derived.Test.YtgiejnmphfgmgaaGreatDoorTreeAns
import Derived.Test.YtgiejnmphfgmgaaGreatDoorGrpMC2
import Derived.Test.YtgiejnmphfgmgaaGreatDoorGrpMC0
import Derived.Sort.Walk0
import Derived.Test.YtgiejnmphfgmgaaGreatDoorKept
import Derived.Test.YtgiejnmphfgmgaaGreatDoorCalm
import Derived.Test.YtgiejnmphfgmgaaGreatDoorOwnRow
import Derived.Laws.IdiomStrings
import Derived.Lib.ItoaLen
import Derived.Deep.RegionWith
import Derived.BigQuiet
import Derived.Test.YtgiejnmphfgmgaaGreatDoorNodeArgs
import Derived.Deep.CutRange
import Derived.Deep.CutBlock
namespace Go.Proofs.YtgiejnmphfgmgaaGreatDoor
open Go.RowKit

set_option maxHeartbeats 4000000 in
set_option maxRecDepth 100000 in
theorem own_some (k num : Int) (a b c : ByteArray) (kids : Int) (w : World) (hK : kidsOk k kids = true) (ar : Int) (har : arityZ k = ar) (h0 : 0 ≤ ar) (h3 : ar ≤ 3) (hne : (kids != ar) = false) :
    Calls Tryz.prog 68 #[.agg #[.int .i64 k, .int .i64 num, .string a, .string b, .string c, .int .i64 kids]] w fun e w' => e = .returned (.bool (ownOk ⟨k, num, a, b, c, kids⟩)) ∧ Below w.heap.size w w' := by
  have HN : Hid (∀ w, _) := names_calls k
  have hac := arity_calls k
  rw [har] at hac
  have HC : Hid (∀ w, _) := hac
  have hm1 : (ar == -1) = false := by rw [beq_eq_false_iff_ne]; omega
  have hm2 : (ar == -2) = false := by rw [beq_eq_false_iff_ne]; omega
  clear hac har
  go_enter Tryz.func68, Tryz.ntmps68
  go_wp2_with (first | (go_at_call 100; refine (HC.out _).mono ?_; rintro e w2 ⟨rfl, rfl⟩))
  go_loopw [5] (fun i wr => ∃ j : Nat, i = .int .i64 j ∧ j ≤ 3 ∧ Hid (∀ i, i < j → fit (namesZ k) i (Nd.nm ⟨k, num, a, b, c, kids⟩ i) = true) ∧ wr.heap[w.heap.size]? = some (.cells #[.int .i64 k, .int .i64 num, .string a, .string b, .string c, .int .i64 kids] 81) ∧ wr.heap[w.heap.size + 1]? = some (.cells #[.string a, .string b, .string c] 9) ∧ Below w.heap.size w wr) (fun i _ => 3 - (intOf i).toNat)
  case atStart =>
    have e1 := (MapKept.heap_alloc w (.cells #[.int .i64 k, .int .i64 num, .string a, .string b, .string c, .int .i64 kids] 81)).1
    refine ⟨0, rfl, by omega, fun i hi => by omega, ?_, ?_, ((Below.refl _ _).alloc (Nat.le_refl _) _).alloc (by simp) _⟩
    · rw [Below.heap_alloc _ _ _ (by simp)]
      exact e1
    · have := (MapKept.heap_alloc (w.alloc (.cells #[.int .i64 k, .int .i64 num, .string a, .string b, .string c, .int .i64 kids] 81)) (.cells #[.string a, .string b, .string c] 9)).1
      simpa using this
  case round =>
    obtain ⟨j, rfl, hj3, HA, eA, eN, hnx⟩ := hrel
    have a0 := cell_of_heap eA 0
    simp at a0
    have hltA := heap_lt eA
    have hltN := heap_lt eN
    by_cases hj : j < 3
    · have cN : wr.cell? ⟨w.heap.size + 1, j, none⟩ = some (.string (Nd.nm ⟨k, num, a, b, c, kids⟩ j)) := by
        rw [cell_of_heap eN j]
        match j, hj with
        | 0, _ => rfl
        | 1, _ => rfl
        | 2, _ => rfl
      have step : fit (namesZ k) j (Nd.nm ⟨k, num, a, b, c, kids⟩ j) = true → Hid (∀ i, i < j + 1 → fit (namesZ k) i (Nd.nm ⟨k, num, a, b, c, kids⟩ i) = true) := fun h i hi => by
        by_cases e : i = j
        · rw [e]
          exact h
        · exact HA.out i (by omega)
      have fin : fit (namesZ k) j (Nd.nm ⟨k, num, a, b, c, kids⟩ j) = false → Hid (ownOk ⟨k, num, a, b, c, kids⟩ = false) := fun h => by
        show ownOk _ = false
        have := fit_none (n := ⟨k, num, a, b, c, kids⟩) hj h
        simp [ownOk, this]
      have hLn := specName_calls (Nd.nm ⟨k, num, a, b, c, kids⟩ j)
      have hem := @empty_name (Nd.nm ⟨k, num, a, b, c, kids⟩ j)
      unfold fit at step fin
      generalize Nd.nm ⟨k, num, a, b, c, kids⟩ j = s at *
      generalize hnm : namesZ k = nm at *
      have eA' : Hid (wr.heap[w.heap.size]? = some (.cells #[.int .i64 k, .int .i64 num, .string a, .string b, .string c, .int .i64 kids] 81)) := eA
      have eN' : Hid (wr.heap[w.heap.size + 1]? = some (.cells #[.string a, .string b, .string c] 9)) := eN
      have hi3 : (j : Int) < 3 := by omega
      have htf : (true != false) = true := rfl
      have hft : (false != true) = true := rfl
      clear HA eA eN hnm
      by_cases hjn : (j : Int) < nm
      · rw [if_pos hjn] at step fin
        cases he : (s.toList == []) with
        | true =>
          have HF := fin (hem he)
          have HL : Hid (∀ w, _) := hLn
          clear hem step fin hLn
          go_wp2_with fail
          go_quiet (first | (go_at_call 101; refine Calls.quiet_of_same ((HN.out _).mono (fun _ _ h => ⟨h.1, h.2.symm⟩))))
          go_wp2_with fail
          go_ret
          exact ⟨by rw [HF.out]; rfl, below_drewN hnx _⟩
        | false =>
          cases hn : nameOk s with
          | true =>
            have HS := step hn
            rw [hn] at hLn
            have HL : Hid (∀ w, _) := hLn
            clear hem step fin hLn hn
            go_wp2_with fail
            go_region_held (fun w' => w'.cell? ⟨w.heap.size, 0, none⟩ = some (.int .i64 k) ∧ w'.cell? ⟨w.heap.size + 1, j, none⟩ = some (.string s)) (go_keep) (first | (go_at_call 101; refine (HN.out _).mono ?_; rintro e w2 ⟨rfl, rfl⟩) | (go_at_call 35; refine (HL.out _).mono ?_; rintro e w2 ⟨rfl, hb2⟩; have a0' := (hb2.cell (p := ⟨w.heap.size, 0, none⟩) hltA).trans a0; have cN' := (hb2.cell (p := ⟨w.heap.size + 1, j, none⟩) hltN).trans cN))
            all_goals
              have eA2 := (hb2.block w.heap.size hltA).trans eA'.out
              have eN2 := (hb2.block (w.heap.size + 1) hltN).trans eN'.out
              have hnx2 := hnx.drew.trans (hb2.mono hnx.size)
              clear hb2 a0 cN a0' cN'
              go_wp2_with fail
              exact ⟨⟨j + 1, by simp, by omega, HS, eA2, eN2, hnx2⟩, by simp [intOf]; omega⟩
          | false =>
            have HF := fin hn
            rw [hn] at hLn
            have HL : Hid (∀ w, _) := hLn
            clear hem step fin hLn hn
            go_wp2_with fail
            go_region_held (fun w' => w'.cell? ⟨w.heap.size, 0, none⟩ = some (.int .i64 k) ∧ w'.cell? ⟨w.heap.size + 1, j, none⟩ = some (.string s)) (go_keep) (first | (go_at_call 101; refine (HN.out _).mono ?_; rintro e w2 ⟨rfl, rfl⟩) | (go_at_call 35; refine (HL.out _).mono ?_; rintro e w2 ⟨rfl, hb2⟩; have a0' := (hb2.cell (p := ⟨w.heap.size, 0, none⟩) hltA).trans a0; have cN' := (hb2.cell (p := ⟨w.heap.size + 1, j, none⟩) hltN).trans cN))
            all_goals
              have hnx2 := hnx.drew.trans (hb2.mono hnx.size)
              clear hb2 a0 cN a0' cN'
              go_wp2_with fail
              go_ret
              exact ⟨by rw [HF.out]; rfl, hnx2⟩
      · rw [if_neg hjn] at step fin
        have hjd : decide ((j : Int) < nm) = false := decide_eq_false hjn
        have HL : Hid (∀ w, _) := hLn
        cases he : (s.toList == []) with
        | true =>
          have HS := step he
          clear hem step fin hLn
          go_wp2_with fail
          go_quiet (first | (go_at_call 101; refine Calls.quiet_of_same ((HN.out _).mono (fun _ _ h => ⟨h.1, h.2.symm⟩))))
          go_wp2_with fail
          exact ⟨⟨j + 1, by simp, by omega, HS, eA'.out, eN'.out, below_drewN hnx _⟩, by simp [intOf]; omega⟩
        | false =>
          have HF := fin he
          clear hem step fin hLn
          go_wp2_with fail
          go_quiet (first | (go_at_call 101; refine Calls.quiet_of_same ((HN.out _).mono (fun _ _ h => ⟨h.1, h.2.symm⟩))))
          go_wp2_with fail
          go_ret
          exact ⟨by rw [HF.out]; rfl, below_drewN hnx _⟩
    · have hnames : namesOk ⟨k, num, a, b, c, kids⟩ = true := fit_all (fun i hi => HA.out i (by omega))
      have hO : ownOk ⟨k, num, a, b, c, kids⟩ = (!(k == 20 && a.toList == b.toList) && numOk k num) := by simp [ownOk, hK, hnames, unlike]
      have a1 := cell_of_heap eA 1
      have a2 := cell_of_heap eA 2
      have a3 := cell_of_heap eA 3
      simp at a1 a2 a3
      have hnc := @names_case k
      have hm0 := @most_other k
      clear HA eA eN hnames
      generalize namesZ k = nm at *
      by_cases h20 : k = 20
      · subst h20
        have hnm1 : 1 < nm := hnc rfl
        cases hab : (a.toList == b.toList) with
        | true =>
          have HO : Hid (ownOk ⟨20, num, a, b, c, kids⟩ = false) := by show _ = _; rw [hO, hab]; rfl
          clear hO hnc hm0
          go_wp2_with (first | (go_at_call 101; refine (HN.out _).mono ?_; rintro e w2 ⟨rfl, rfl⟩))
          go_ret
          exact ⟨by rw [HO.out]; rfl, hnx⟩
        | false =>
          have HO : Hid (ownOk ⟨20, num, a, b, c, kids⟩ = (num == 0)) := by
            show _ = _
            rw [hO, hab, numOk, hm0 (by omega) (by omega), Bool.eq_iff_iff]
            simp
            omega
          clear hO hnc hm0
          go_wp2_with (first | (go_at_call 101; refine (HN.out _).mono ?_; rintro e w2 ⟨rfl, rfl⟩))
          go_ret
          exact ⟨by rw [HO.out]; rfl, hnx⟩
      · have h20' : (k == 20) = false := by rw [beq_eq_false_iff_ne]; exact h20
        rw [h20', Bool.false_and, Bool.not_false, Bool.true_and] at hO
        clear hnc h20
        by_cases h1 : k = 1
        · subst h1
          by_cases hn0 : 0 ≤ num
          · have HO : Hid (ownOk ⟨1, num, a, b, c, kids⟩ = decide (num ≤ 999999999)) := by
              exact hO.trans (num_one hn0)
            clear hO hm0 h20'
            go_wp2_with (first | (go_at_call 101; refine (HN.out _).mono ?_; rintro e w2 ⟨rfl, rfl⟩))
            all_goals
              go_ret
              exact ⟨by rw [HO.out]; rfl, hnx⟩
          · have HO : Hid (ownOk ⟨1, num, a, b, c, kids⟩ = false) := by
              exact hO.trans (num_one_neg hn0)
            clear hO hm0 h20'
            go_wp2_with (first | (go_at_call 101; refine (HN.out _).mono ?_; rintro e w2 ⟨rfl, rfl⟩))
            all_goals
              go_ret
              exact ⟨by rw [HO.out]; rfl, hnx⟩
        · by_cases h2 : k = 2
          · subst h2
            by_cases hn0 : num = 0
            · have hn0' : (num == 0) = true := by rw [hn0]; rfl
              have HO : Hid (ownOk ⟨2, num, a, b, c, kids⟩ = true) := by
                show _ = _
                rw [hO, numOk, most_two]
                simp
                omega
              clear hO hm0 h20' hn0
              go_wp2_with (first | (go_at_call 101; refine (HN.out _).mono ?_; rintro e w2 ⟨rfl, rfl⟩))
              all_goals
                go_ret
                exact ⟨by rw [HO.out]; rfl, hnx⟩
            · have hn0' : (num == 0) = false := by rw [beq_eq_false_iff_ne]; exact hn0
              have HO : Hid (ownOk ⟨2, num, a, b, c, kids⟩ = (num == 1)) := by
                show _ = _
                rw [hO, numOk, most_two, Bool.eq_iff_iff]
                simp
                omega
              clear hO hm0 h20' hn0
              go_wp2_with (first | (go_at_call 101; refine (HN.out _).mono ?_; rintro e w2 ⟨rfl, rfl⟩))
              all_goals
                go_ret
                exact ⟨by rw [HO.out]; rfl, hnx⟩
          · have HO : Hid (ownOk ⟨k, num, a, b, c, kids⟩ = (num == 0)) := by
              exact hO.trans (num_zero (hm0 h1 h2))
            have h1' : (k == 1) = false := by rw [beq_eq_false_iff_ne]; exact h1
            have h2' : (k == 2) = false := by rw [beq_eq_false_iff_ne]; exact h2
            clear hO hm0 h1 h2
            go_wp2_with (first | (go_at_call 101; refine (HN.out _).mono ?_; rintro e w2 ⟨rfl, rfl⟩))
            all_goals
              go_ret
              exact ⟨by rw [HO.out]; rfl, hnx⟩

set_option maxHeartbeats 2000000 in
set_option maxRecDepth 100000 in
theorem own_calls (n : Nd) (w : World) :
    Calls Tryz.prog 68 #[.agg #[.int .i64 n.kind, .int .i64 n.num, .string n.a, .string n.b, .string n.c, .int .i64 n.kids]] w fun e w' => e = .returned (.bool (ownOk n)) ∧ Below w.heap.size w w' := by
  obtain ⟨k, num, a, b, c, kids⟩ := n
  dsimp only
  have har := arity_range k
  have hac := arity_calls k
  cases hK : kidsOk k kids with
  | false =>
    have hO : Hid (ownOk ⟨k, num, a, b, c, kids⟩ = false) := by
      show ownOk _ = false
      simp [ownOk, hK]
    unfold kidsOk at hK
    generalize arityZ k = ar at *
    have HC : Hid (∀ w, _) := hac
    clear hac
    rcases har with rfl | rfl | ⟨h0, h3⟩
    · clear hK
      go_enter Tryz.func68, Tryz.ntmps68
      go_wp2_with (first | (go_at_call 100; refine (HC.out _).mono ?_; rintro e w2 ⟨rfl, rfl⟩))
      go_ret
      exact ⟨by rw [hO.out]; rfl, (Below.refl _ _).alloc (Nat.le_refl _) _⟩
    · rw [if_neg (by omega), if_pos rfl] at hK
      simp at hK
      by_cases h2 : kids < 2
      · clear hK
        go_enter Tryz.func68, Tryz.ntmps68
        go_wp2_with (first | (go_at_call 100; refine (HC.out _).mono ?_; rintro e w2 ⟨rfl, rfl⟩))
        go_ret
        exact ⟨by rw [hO.out]; rfl, (Below.refl _ _).alloc (Nat.le_refl _) _⟩
      · have h6 : 6 < kids := hK (by omega)
        clear hK
        go_enter Tryz.func68, Tryz.ntmps68
        go_wp2_with (first | (go_at_call 100; refine (HC.out _).mono ?_; rintro e w2 ⟨rfl, rfl⟩))
        go_ret
        exact ⟨by rw [hO.out]; rfl, (Below.refl _ _).alloc (Nat.le_refl _) _⟩
    · rw [if_neg (by omega), if_neg (by omega)] at hK
      have hne : (kids != ar) = true := by simpa using hK
      have hm1 : (ar == -1) = false := by rw [beq_eq_false_iff_ne]; omega
      clear hK
      go_enter Tryz.func68, Tryz.ntmps68
      go_wp2_with (first | (go_at_call 100; refine (HC.out _).mono ?_; rintro e w2 ⟨rfl, rfl⟩))
      go_ret
      exact ⟨by rw [hO.out]; rfl, (Below.refl _ _).alloc (Nat.le_refl _) _⟩
  | true =>
    have hK' := hK
    unfold kidsOk at hK'
    rcases har with har | har | ⟨h0, h3⟩
    · rw [if_pos har] at hK'
      cases hK'
    · rw [if_neg (by omega), if_pos har] at hK'
      simp at hK'
      exact own_many k num a b c kids w hK har hK'.1 hK'.2
    · rw [if_neg (by omega), if_neg (by omega)] at hK'
      exact own_some k num a b c kids w hK _ rfl h0 h3 (by simpa using hK')
end Go.Proofs.YtgiejnmphfgmgaaGreatDoor

/- Whether nodes are a tree, as the specification asks it. -/
namespace Go.Proofs.YtgiejnmphfgmgaaGreatDoor
open Go.RowKit Go.Deep

set_option maxHeartbeats 4000000 in
set_option maxRecDepth 100000 in
theorem specTree_calls (b off cap : Nat) (ns : List Nd) (w : World) (R : Bool) (hm : ns.length ≤ 1048576) (hbw : b < w.heap.size) (hn : NodesAt w b off ns) (hA : SpecAns ns R) :
    Calls Tryz.prog 34 #[.slice (some ⟨b, off, none⟩) ns.length cap] w fun e w' => e = .returned (.bool R) ∧ Below w.heap.size w w' := by
  by_cases hl : 1 ≤ ns.length ∧ ns.length ≤ 300
  · have hrest := hA.rest hl
    obtain ⟨len, hlen⟩ : ∃ len, ns.length = len := ⟨_, rfl⟩
    have Hlen : Hid (ns.length = len) := hlen
    have HR : Hid (Rest ns R ownOk (fun n k => specTree n k 0)) := hrest
    have HN : Hid (NodesAt w b off ns) := hn
    have HL : Hid (1 ≤ len ∧ len ≤ 300) := by show _ ∧ _; omega
    have h1 : (1 : Int) ≤ (len : Int) := by omega
    have h2 : (len : Int) ≤ 300 := by omega
    rw [hlen]
    clear hrest hn hA hl hm hlen
    go_enter Tryz.func34, Tryz.ntmps34
    go_wp2_with fail
    clear h1 h2
    go_loopw [3] (fun i wr => ∃ i' : Nat, i = .int .i64 i' ∧ i' ≤ len ∧ Hid ((ns.take i').all ownOk = true) ∧ Below w.heap.size w wr) (fun i _ => len - (intOf i).toNat)
    case atStart => exact ⟨0, rfl, Nat.zero_le _, rfl, Below.refl _ _⟩
    case round =>
      obtain ⟨i', rfl, hle, HT, hbx⟩ := hrel
      have hnx := HN.out.below hbx hbw
      by_cases hlt : (i' : Int) < (len : Int)
      · have hil : i' < ns.length := by rw [Hlen.out]; omega
        have c0 := hnx i' hil 0 (by omega)
        have c1 := hnx i' hil 1 (by omega)
        have c2 := hnx i' hil 2 (by omega)
        have c3 := hnx i' hil 3 (by omega)
        have c4 := hnx i' hil 4 (by omega)
        have c5 := hnx i' hil 5 (by omega)
        obtain ⟨n, hnn⟩ : ∃ n, ns.getD i' default = n := ⟨_, rfl⟩
        have hF : ownOk n = false → Hid (R = false) := fun h => HR.out.1 (all_false hil (by rw [hnn]; exact h))
        have hT : ownOk n = true → Hid ((ns.take (i' + 1)).all ownOk = true) := fun h => all_take_succ hil HT.out (by rw [hnn]; exact h)
        rw [hnn] at c0 c1 c2 c3 c4 c5
        simp only [Nd.cell, Nat.add_zero] at c0 c1 c2 c3 c4 c5
        have HO : Hid (∀ w, _) := own_calls n
        clear hnx hil hnn HT
        obtain ⟨kd, num, a, bb, cc, kids⟩ := n
        dsimp only at *
        go_wp2_with fail
        refine (HO.out _).mono ?_
        rintro e w2 ⟨rfl, hb2⟩
        have hb3 := hbx.trans (hb2.mono hbx.size)
        clear c0 c1 c2 c3 c4 c5 hb2 HO
        cases ho : ownOk ⟨kd, num, a, bb, cc, kids⟩ with
        | false =>
          have HF := hF ho
          clear hF hT
          go_wp2_with fail
          go_ret
          exact ⟨by rw [HF.out]; rfl, hb3⟩
        | true =>
          have HT := hT ho
          clear hF hT
          go_wp2_with fail
          have hs := lt_step hlt
          try rw [wrap_succ (by have := HL.out; omega)]
          exact ⟨⟨i' + 1, rfl, by omega, HT, hb3⟩, hs⟩
      · have e : i' = len := by omega
        subst e
        have hall : ns.all ownOk = true := by
          have := HT.out
          rwa [List.take_of_length_le (by rw [Hlen.out]; exact Nat.le_refl _)] at this
        have HX : Hid (∀ w, NodesAt w b off ns → _) := fun w h => specEnd_calls b off cap ns 0 w h (by rw [Hlen.out]; have := HL.out; omega)
        rw [Hlen.out] at HX
        rcases HR.out.2 hall with ⟨hne, hR⟩ | ⟨n, k, g1, g2, g3, g4, hR⟩
        · have hne' : (treeEnd ns 0 == (i' : Int)) = false := by rw [beq_eq_false_iff_ne]; rw [Hlen.out] at hne; exact hne
          clear HT hall hne
          generalize treeEnd ns 0 = te at *
          subst hR
          go_wp2_with fail
          refine (HX.out wr hnx).mono ?_
          rintro e w2 ⟨rfl, rfl⟩
          go_wp2_with fail
          go_ret
          exact ⟨rfl, hbx⟩
        · have hdr : ns.drop 0 = n :: (k.flat ++ []) := by rw [g1]; simp
          have HD : Hid (∀ w, NodesAt w b off ns → _) := fun w h => deep_calls b off cap ns (by rw [Hlen.out]; have := HL.out; omega) (k.flat.length + 1) n k [] 0 w h hdr g2 g3 (Nat.lt_succ_self _)
          have HC : Hid (∀ w, b < w.heap.size → NodesAt w b off ns → _) := fun w hb h => clauses_calls b off cap ns (by rw [Hlen.out]; have := HL.out; omega) (k.flat.length + 1) n k [] 0 0 w (by omega) hb h hdr g2 g3 (Nat.lt_succ_self _)
          rw [Hlen.out] at HD HC
          rw [g4, Hlen.out] at HX
          have HE : Hid (R = (specTree n k 0 && decide (k.deep + 1 ≤ 40))) := hR
          have hee : (((i' : Int)) == (i' : Int)) = true := by simp
          clear HT hall g1 g2 g3 g4 hdr hR HR
          generalize k.deep + 1 = dd at *
          go_wp2_with fail
          refine (HX.out wr hnx).mono ?_
          rintro e w2 ⟨rfl, rfl⟩
          go_wp2_with fail
          refine (HD.out wr hnx).mono ?_
          rintro e w2 ⟨rfl, rfl⟩
          by_cases hdd : (dd : Int) ≤ 40
          · go_wp2_with fail
            refine (HC.out wr (by have := hbx.size; omega) hnx).mono ?_
            rintro e w2 ⟨rfl, hb2⟩
            go_wp2_with fail
            go_ret
            refine ⟨?_, hbx.trans (hb2.mono hbx.size)⟩
            rw [HE.out, decide_eq_true (show dd ≤ 40 by omega), Bool.and_true]
            rfl
          · go_wp2_with fail
            go_ret
            refine ⟨?_, hbx⟩
            rw [HE.out, decide_eq_false (show ¬ dd ≤ 40 by omega), Bool.and_false]
            rfl
  · have hR : R = false := by
      rcases hA with ⟨_, h⟩ | ⟨h1, h2, _⟩ | ⟨h1, h2, _⟩
      · exact h
      · exact absurd ⟨h1, h2⟩ hl
      · exact absurd ⟨h1, h2⟩ hl
    subst hR
    have hl' : (ns.length : Int) < 1 ∨ ((1 : Int) ≤ (ns.length : Int) ∧ (300 : Int) < (ns.length : Int)) := by omega
    clear hA hm hn hl
    generalize ns.length = len at *
    rcases hl' with h | ⟨h, h'⟩
    all_goals
      go_enter Tryz.func34, Tryz.ntmps34
      go_wp2_with fail
      go_ret
      exact ⟨rfl, Below.refl _ _⟩
end Go.Proofs.YtgiejnmphfgmgaaGreatDoor

/- A program without operations: the specification's ProgOk. -/
namespace Go.Proofs.YtgiejnmphfgmgaaGreatDoor
open Go.RowKit Go.Deep

set_option maxHeartbeats 8000000 in
set_option maxRecDepth 100000 in
theorem specProgN_calls (bt cn : Nat) (ns : List Nd) (T : Bool) (w : World) (hbt : bt < w.heap.size) (hN : NodesAt w bt 0 ns) (mn : ns.length ≤ 1048576) (hTT : ∀ w' : World, bt < w'.heap.size → NodesAt w' bt 0 ns → Calls Tryz.prog 34 #[.slice (some ⟨bt, 0, none⟩) ns.length cn] w' fun e w'' => e = .returned (.bool T) ∧ Below w'.heap.size w' w'') :
    Calls Tryz.prog 15 #[.agg #[.slice none 0 0, .slice (some ⟨bt, 0, none⟩) ns.length cn]] w fun e w' => e = .returned (.bool (progZ [] ns T)) ∧ Below w.heap.size w w' := by
  have hb1 : Below w.heap.size w (w.alloc (.cells #[.slice none 0 0, .slice (some ⟨bt, 0, none⟩) ns.length cn] 33)) := (Below.refl _ _).alloc (Nat.le_refl _) _
  have HT : Hid (Calls _ _ _ _ _) := hTT (w.alloc (.cells #[.slice none 0 0, .slice (some ⟨bt, 0, none⟩) ns.length cn] 33)) (Nat.lt_of_lt_of_le hbt hb1.size) (hN.below hb1 hbt)
  have HB1 : Hid (Below w.heap.size w (w.alloc (.cells #[.slice none 0 0, .slice (some ⟨bt, 0, none⟩) ns.length cn] 33))) := hb1
  have HK1 : Hid ((w.alloc (.cells #[.slice none 0 0, .slice (some ⟨bt, 0, none⟩) ns.length cn] 33)).heap[w.heap.size]? = some (.cells #[.slice none 0 0, .slice (some ⟨bt, 0, none⟩) ns.length cn] 33)) := (MapKept.heap_alloc w _).1
  obtain ⟨R, hR⟩ : ∃ R, progZ [] ns T = R := ⟨_, rfl⟩
  have HR8 : Hid ((T && ns.all (nodeHas [])) = R) := by
    show _ = R
    rw [← hR]
    simp [progZ]
  have HN : Hid (NodesAt w bt 0 ns) := hN
  rw [hR]
  obtain ⟨ln, hln⟩ : ∃ ln, ns.length = ln := ⟨_, rfl⟩
  have Hlen : Hid (ns.length = ln) := hln
  rw [hln] at HT HB1 HK1 ⊢
  have HM : Hid (ln ≤ 1048576) := by show _ ≤ _; omega
  clear hb1 hR hN mn hTT hln
  go_enter Tryz.func15, Tryz.ntmps15
  go_wp2_with fail
  refine HT.out.mono ?_
  rintro e w2 ⟨rfl, hb2⟩
  have hbw2 := HB1.out.trans (hb2.mono HB1.out.size)
  have kp2 := (hb2.block w.heap.size (by simp)).trans HK1.out
  clear HT HB1 HK1 hb2
  cases T with
  | false =>
    go_wp2_with fail
    go_ret
    exact ⟨by rw [← HR8.out]; rfl, hbw2⟩
  | true =>
    have HR2 : Hid (ns.all (nodeHas []) = R) := HR8.out
    clear HR8
    have pA := cell_of_heap kp2 0
    have pB := cell_of_heap kp2 1
    simp at pA pB
    go_wp2_with fail
    refine wp_loop_rounds 1 ?_
    rw [rounds_succ]
    go_wp2_with fail
    clear pA pB
    go_loopw [5] (fun j wr => ∃ k : Nat, j = .int .i64 k ∧ k ≤ ln ∧ Hid ((ns.take k).all (nodeHas []) = true) ∧ wr.heap[w.heap.size]? = some (.cells #[.slice none 0 0, .slice (some ⟨bt, 0, none⟩) ln cn] 33) ∧ Below w.heap.size w wr) (fun j _ => ln - (intOf j).toNat)
    case atStart => exact ⟨0, rfl, Nat.zero_le _, rfl, kp2, hbw2⟩
    case round =>
      clear kp2 hbw2
      obtain ⟨k, rfl, hk, HI, kp, hbx⟩ := hrel
      have hAlt := heap_lt kp
      have pA := cell_of_heap kp 0
      have pB := cell_of_heap kp 1
      simp at pA pB
      by_cases hlt : (k : Int) < (ln : Int)
      · have hil : k < ns.length := by rw [Hlen.out]; omega
        have hNx := HN.out.below hbx hbt
        have c0 := hNx k hil 0 (by omega)
        have c1 := hNx k hil 1 (by omega)
        have c2 := hNx k hil 2 (by omega)
        have c3 := hNx k hil 3 (by omega)
        have c4 := hNx k hil 4 (by omega)
        have c5 := hNx k hil 5 (by omega)
        obtain ⟨nd, hnd⟩ : ∃ nd, ns.getD k default = nd := ⟨_, rfl⟩
        have hF : nodeHas [] nd = false → Hid (R = false) := fun h => by
          show R = false
          rw [← HR2.out]
          exact has_false hil (by rw [hnd]; exact h)
        have hS : nodeHas [] nd = true → Hid ((ns.take (k + 1)).all (nodeHas []) = true) := fun h => has_step hil HI.out (by rw [hnd]; exact h)
        rw [hnd] at c0 c1 c2 c3 c4 c5
        simp only [Nd.cell, Nat.add_zero, Nat.zero_add] at c0 c1 c2 c3 c4 c5
        obtain ⟨kd, num, a, bb, cc, kids⟩ := nd
        dsimp only at *
        have hpl := effPlace_lt [] a 0
        have hszx := hbx.size
        have HP : Hid (∀ w', _) := fun w' => l2Eff_calls none 0 [] a w' (by simp) (fun h => absurd rfl h)
        simp only [nodeHas] at hF hS
        clear hNx hil hnd HI
        generalize effPlace [] a 0 = pl at *
        generalize effIn [] a = ein at *
        have hq : (kd == 22) = true ∨ ((kd == 22) = false ∧ (kd == 26) = true) ∨ ((kd == 22) = false ∧ (kd == 26) = false) := by
          cases (kd == 22) <;> cases (kd == 26) <;> simp
        rcases hq with k22 | ⟨k22, k26⟩ | ⟨k22, k26⟩
        · by_cases hp : pl < 0
          · have hei : ein = false := hpl.1 hp
            have HF := hF (by rw [hei, k22]; rfl)
            clear hF hS hpl
            go_wp2_with fail
            refine (HP.out _).mono ?_
            rintro e w6 ⟨rfl, rfl⟩
            go_wp2_with fail
            go_ret
            exact ⟨by rw [HF.out]; rfl, hbx.alloc hszx _⟩
          · have hei : ein = true := by
              cases hx : ein with
              | true => rfl
              | false => exact absurd (hpl.2 hx) hp
            have HS := hS (by rw [hei]; simp)
            clear hF hS hpl
            go_wp2_with fail
            refine (HP.out _).mono ?_
            rintro e w6 ⟨rfl, rfl⟩
            go_wp2_with fail
            have hs : ln - (intOf (.int .i64 ((k + 1 : Nat) : Int))).toNat < ln - (intOf (.int .i64 (k : Int))).toNat := by simp only [intOf, Int.toNat_natCast]; omega
            try rw [show wrap64 ((k : Int) + 1) = ((k + 1 : Nat) : Int) by have := HM.out; unfold wrap64; omega]
            exact ⟨⟨k + 1, rfl, by omega, HS, (Below.heap_alloc _ _ _ hAlt).trans kp, hbx.alloc hszx _⟩, hs⟩
        · by_cases hp : pl < 0
          · have hei : ein = false := hpl.1 hp
            have HF := hF (by rw [hei, k26]; simp)
            clear hF hS hpl
            go_wp2_with fail
            refine (HP.out _).mono ?_
            rintro e w6 ⟨rfl, rfl⟩
            go_wp2_with fail
            go_ret
            exact ⟨by rw [HF.out]; rfl, hbx.alloc hszx _⟩
          · have hei : ein = true := by
              cases hx : ein with
              | true => rfl
              | false => exact absurd (hpl.2 hx) hp
            have HS := hS (by rw [hei]; simp)
            clear hF hS hpl
            go_wp2_with fail
            refine (HP.out _).mono ?_
            rintro e w6 ⟨rfl, rfl⟩
            go_wp2_with fail
            have hs : ln - (intOf (.int .i64 ((k + 1 : Nat) : Int))).toNat < ln - (intOf (.int .i64 (k : Int))).toNat := by simp only [intOf, Int.toNat_natCast]; omega
            try rw [show wrap64 ((k : Int) + 1) = ((k + 1 : Nat) : Int) by have := HM.out; unfold wrap64; omega]
            exact ⟨⟨k + 1, rfl, by omega, HS, (Below.heap_alloc _ _ _ hAlt).trans kp, hbx.alloc hszx _⟩, hs⟩
        · have HS := hS (by rw [k22, k26]; rfl)
          clear hF hS hpl HP
          go_wp2_with fail
          have hs : ln - (intOf (.int .i64 ((k + 1 : Nat) : Int))).toNat < ln - (intOf (.int .i64 (k : Int))).toNat := by simp only [intOf, Int.toNat_natCast]; omega
          try rw [show wrap64 ((k : Int) + 1) = ((k + 1 : Nat) : Int) by have := HM.out; unfold wrap64; omega]
          exact ⟨⟨k + 1, rfl, by omega, HS, (Below.heap_alloc _ _ _ hAlt).trans kp, hbx.alloc hszx _⟩, hs⟩
      · have e : k = ln := by omega
        have HT : Hid (R = true) := by
          show R = true
          rw [← HR2.out]
          have := HI.out
          rwa [List.take_of_length_le (by rw [Hlen.out]; omega)] at this
        clear HI
        go_wp2_with fail
        go_ret
        exact ⟨by rw [HT.out]; rfl, hbx⟩

/-- The operations of a program, as they lie. -/
def EffW (W : World) (ae : Option Addr) (ce : Nat) (es : List Ef) : Prop := (ae = none ∧ es = [] ∧ ce = 0) ∨ ∃ be, ae = some ⟨be, 0, none⟩ ∧ be < W.heap.size ∧ EffsAt W be 0 es ∧ es.length ≤ ce

theorem progOk_at {W : World} {ae : Option Addr} {ce bt cn : Nat} {es : List Ef} {ns : List Nd} {T : Bool} (hE : EffW W ae ce es) (hel : es.length ≤ 1000) (hbt : bt < W.heap.size) (hN : NodesAt W bt 0 ns) (hl : ns.length ≤ 300) (hA : SpecAns ns T) :
    Calls Tryz.prog 15 #[.agg #[.slice ae es.length ce, .slice (some ⟨bt, 0, none⟩) ns.length cn]] W fun e W' => e = .returned (.bool (progZ es ns T)) ∧ Below W.heap.size W W' := by
  rcases hE with ⟨rfl, rfl, rfl⟩ | ⟨be, rfl, hbe, hEA, hce⟩
  · exact specProgN_calls bt cn ns T W hbt hN (by omega) (fun w' hb hn => specTree_calls bt 0 cn ns w' T (by omega) hb hn hA)
  · exact specProgC_calls be bt ce cn es ns T W hce hbe hbt hEA hN (by omega) (by omega) (fun w' hb hn => specTree_calls bt 0 cn ns w' T (by omega) hb hn hA)

theorem EffW.below {W W' : World} {ae : Option Addr} {ce : Nat} {es : List Ef} (h : EffW W ae ce es) (hb : Below W.heap.size W W') : EffW W' ae ce es := by
  rcases h with h | ⟨be, e, hbe, hEA, hce⟩
  · exact Or.inl h
  · exact Or.inr ⟨be, e, Nat.lt_of_lt_of_le hbe hb.size, hEA.below hb hbe, hce⟩
end Go.Proofs.YtgiejnmphfgmgaaGreatDoor

/- A name in a list, and a name put into a list where it belongs, as the specification does it. -/
namespace Go.Proofs.YtgiejnmphfgmgaaGreatDoor
open Go.RowKit Go.Deep

def bys (l : List Tx) : List ByteArray := l.map fun x => ⟨x.toArray⟩

theorem bys_len (l : List Tx) : (bys l).length = l.length := by unfold bys; simp

theorem bys_get (l : List Tx) (j : Nat) (h : j < l.length) : (bys l).getD j ⟨#[]⟩ = ⟨(l.getD j []).toArray⟩ := by
  unfold bys
  simp [List.getD, h]

/-- The list with the name put in, as a loop puts it. -/
def addGo (s : Tx) : List Tx → Bool → List Tx → List Tx
  | [], pt, acc => if pt then acc else acc ++ [s]
  | y :: r, pt, acc => if pt = false ∧ s < y then addGo s r true (acc ++ [s] ++ [y]) else addGo s r pt (acc ++ [y])

theorem addGo_true (s : Tx) : ∀ (l acc : List Tx), addGo s l true acc = acc ++ l
  | [], acc => by simp [addGo]
  | y :: r, acc => by simp [addGo, addGo_true s r]

theorem addGo_false (s : Tx) : ∀ (l acc : List Tx), addGo s l false acc = acc ++ insL l s
  | [], acc => by simp [addGo, insL]
  | y :: r, acc => by
    unfold addGo insL
    by_cases h : s < y
    · rw [if_pos ⟨rfl, h⟩, if_pos h, addGo_true]
      simp
    · rw [if_neg (fun x => h x.2), if_neg h, addGo_false s r]
      simp

def memB (ss : List ByteArray) (s : ByteArray) : Bool := ss.any fun x => x.toList == s.toList

theorem memB_iff (ss : List ByteArray) (s : ByteArray) : memB ss s = true ↔ s ∈ ss := by
  unfold memB
  rw [List.any_eq_true]
  constructor
  · rintro ⟨x, hx, h⟩
    rw [str_eq, decide_eq_true_eq] at h
    rwa [← h]
  · intro h
    exact ⟨s, h, by rw [str_eq, decide_eq_true_eq]⟩

set_option maxRecDepth 100000 in
theorem in_none (s : ByteArray) (w : World) : Calls Tryz.prog 75 #[.slice none 0 0, .string s] w fun e w' => e = .returned (.bool false) ∧ w' = w := by
  go_enter Tryz.func75, Tryz.ntmps75
  go_wp2_with fail
  refine wp_loop_rounds 1 ?_
  rw [rounds_succ]
  go_wp2_with fail
  go_ret
  exact ⟨rfl, rfl⟩

theorem in_any {v : Value} {ss : List ByteArray} (s : ByteArray) (w : World) (h : NamesV w v ss) (hl : ss.length ≤ 1000000) : Calls Tryz.prog 75 #[v, .string s] w fun e w' => e = .returned (.bool (memB ss s)) ∧ w' = w := by
  rcases h with ⟨rfl, rfl⟩ | ⟨g, o, c, rfl, hg, hc⟩
  · exact in_none s w
  · refine (in_calls g o ss.length c ss s w (Nat.le_refl _) hl hc).mono ?_
    rintro e w' ⟨rfl, rfl⟩
    rw [List.take_length]
    exact ⟨rfl, rfl⟩

theorem add_step {w wr W' : World} {out v' : Value} {acc : List Tx} {y : Tx} {yb : ByteArray} {o : Obj} (hy : (⟨y.toArray⟩ : ByteArray) = yb) (h : wr.ownsRow w.heap.size 9 1 out acc.length (strRow (bys acc)) ∧ Below w.heap.size w wr) (hown : W'.ownsRow w.heap.size 9 1 v' (acc.length + 1) (strRow (bys acc) ++ [.string yb])) (hg : (wr.alloc o).grownBy W' out.ownBlock) :
    W'.ownsRow w.heap.size 9 1 v' (acc ++ [y]).length (strRow (bys (acc ++ [y]))) ∧ Below w.heap.size w W' := by
  subst hy
  have hs := h.2.size
  refine ⟨?_, Below.grown (h.2.alloc (by omega) _) hg (by simp; omega) (fun j hj => (h.1.lt _ hj).1)⟩
  rw [List.length_append, show bys (acc ++ [y]) = bys acc ++ [⟨y.toArray⟩] by unfold bys; rw [List.map_append]; rfl, strRow_snoc]
  exact hown

theorem bytes_back (s : ByteArray) : (⟨s.data.toList.toArray⟩ : ByteArray) = s := rfl

set_option maxHeartbeats 4000000 in
set_option maxRecDepth 100000 in
theorem add_calls {v : Value} {l : List Tx} (s : ByteArray) (w : World) (hv : NamesV w v (bys l)) (hl : l.length ≤ 90000) :
    Calls Tryz.prog 76 #[v, .string s] w fun e w' => ∃ u, e = .returned u ∧ NamesV w' u (bys (addL l s.data.toList)) ∧ Below w.heap.size w w' := by
  obtain ⟨ad, cp, rfl⟩ := hv.slice
  rw [bys_len] at hv ⊢
  obtain ⟨L, hL⟩ : ∃ L, l.length = L := ⟨_, rfl⟩
  have HV := hid hv
  have HL := hid (And.intro hL hl)
  rw [hL] at HV ⊢
  clear hv hl hL
  obtain ⟨i0, hinf, hz0, hz1, hz2⟩ := info_parts info_str
  go_enter Tryz.func76, Tryz.ntmps76
  go_wp2_with fail
  go_loopw [5, 6, 7] (fun out put i wr => ∃ (i' : Nat) (pt : Bool) (acc : List Tx), i = .int .i64 i' ∧ put = .bool pt ∧ i' ≤ L ∧ Hid (wr.ownsRow w.heap.size 9 1 out acc.length (strRow (bys acc)) ∧ Below w.heap.size w wr) ∧ Hid (s.data.toList ∉ l.take i' ∧ addGo s.data.toList (l.drop i') pt acc = insL l s.data.toList ∧ acc.length ≤ i' + pt.toNat)) (fun _ _ i _ => L - (intOf i).toNat)
  case atStart => exact ⟨0, false, [], rfl, rfl, Nat.zero_le _, ⟨World.ownsRow_nil _ _ _ _, Below.refl _ _⟩, ⟨by simp, by rw [List.drop_zero, addGo_false]; rfl, Nat.zero_le _⟩⟩
  case round =>
    obtain ⟨i', pt, acc, rfl, rfl, hle, HO, HA⟩ := hrel
    by_cases hi : (i' : Int) < (L : Int)
    · have hcx := HV.out.cell (by omega : 0 < L)
      obtain ⟨-, g, o, rfl, hg, hc⟩ := hcx
      have hcell := (HO.out.2.cell (p := ⟨g, o + i', none⟩) hg).trans (hc i' (by omega))
      have hil : i' < l.length := by have := HL.out.1; omega
      rw [bys_get l i' hil] at hcell
      obtain ⟨y, hy⟩ : ∃ y, l.getD i' [] = y := ⟨_, rfl⟩
      rw [hy] at hcell
      have hyd : l.drop i' = y :: l.drop (i' + 1) := by rw [List.drop_eq_getElem_cons hil, ← hy]; simp [List.getD, hil]
      have hyt : l.take (i' + 1) = l.take i' ++ [y] := by rw [List.take_add_one, ← hy]; simp [List.getD, hil]
      have HY := hid (And.intro hyd hyt)
      obtain ⟨yb, hyb⟩ : ∃ yb : ByteArray, (⟨y.toArray⟩ : ByteArray) = yb := ⟨_, rfl⟩
      rw [hyb] at hcell
      have HYb := hid hyb
      have hyl : yb.toList = y := by rw [← hyb]; simp
      have HYl := hid hyl
      have HC0 : Hid (w.cell? ⟨g, o + i', none⟩ = some (.string yb)) := (HO.out.2.cell (p := ⟨g, o + i', none⟩) hg).symm.trans hcell
      have HLn : Hid (acc.length ≤ 90001) := by show _ ≤ _; have := HA.out.2.2; have := HL.out; have : pt.toNat ≤ 1 := (by cases pt <;> decide); omega
      clear hc hy hyb hyd hyt hil hyl
      have hi0 : (0 : Int) ≤ (i' : Int) := by omega
      cases heq : (yb.toList == s.toList) with
      | true =>
        have HM : Hid (s.data.toList ∈ l) := by
          show _ ∈ _
          have e1 : y = s.data.toList := by rw [← HYl.out, ← ByteArray.toList_eq]; simpa using heq
          have := List.mem_of_mem_drop (i := i') (l := l) (a := y) (by rw [HY.out.1]; exact List.mem_cons_self)
          rwa [e1] at this
        go_wp2_with fail
        go_ret
        refine ⟨_, rfl, ?_, HO.out.2⟩
        unfold addL
        rw [if_pos HM.out]
        exact HV.out.below HO.out.2
      | false =>
        have hne : y ≠ s.data.toList := by
          intro e1
          rw [HYl.out, e1, ByteArray.toList_eq] at heq
          simp at heq
        have HNe : Hid (s.data.toList ∉ l.take (i' + 1)) := by
          show _ ∉ _
          rw [HY.out.2, List.mem_append, List.mem_singleton]
          rintro (h | h)
          · exact HA.out.1 h
          · exact hne h.symm
        clear hne
        have hstep : L - (intOf (.int .i64 ((i' + 1 : Nat) : Int))).toNat < L - (intOf (.int .i64 (i' : Int))).toNat := lt_step' hi
        cases pt with
        | true =>
          have HG : Hid (addGo s.data.toList (l.drop (i' + 1)) true (acc ++ [y]) = insL l s.data.toList) := by
            show _ = _
            rw [← HA.out.2.1, HY.out.1]
            conv => rhs; unfold addGo
            rw [if_neg (by simp)]
          have HAl := hid HA.out.2.2
          clear HA
          go_wp2_with (first
            | (at_builtin; refine wpList_append_own_at _ rfl _ _ 43 rfl w.heap.size 9 i0 (.string ⟨#[]⟩) 1 16 Tryz.underlying43 hinf hz0 hz1 hz2 rfl (by decide) _ _ _ rfl (HO.out.1.alloc _) ⟨wr.heap.size, 0, none⟩ 1 1 [.string yb] rfl rfl (cell_one_new _ _ rfl _ _) (fun x hx => by simp at hx; subst hx; rfl) (by have := HLn.out; unfold maxLen; omega) (by have := HLn.out; omega) (by have := HO.out.2.size; simp; omega) ?_
               intro v5HOa w5HOa hown' hgrow hnil hat
               have HOa := hid (add_step HYb.out HO.out hown' hgrow)
               clear hown' hgrow hnil hat))
          try rw [wrap_succ (by have := HL.out; omega)]
          exact ⟨⟨i' + 1, true, acc ++ [y], rfl, rfl, by omega, HOa, ⟨HNe.out, HG.out, by have hq := HAl.out; rw [List.length_append]; simp [Bool.toNat] at hq ⊢; omega⟩⟩, hstep⟩
        | false =>
          cases hlt : Op.bytesLess s.toList yb.toList with
          | true =>
            have hsy : s.data.toList < y := by rw [bytesLess_eq, HYl.out, ByteArray.toList_eq] at hlt; exact of_decide_eq_true hlt
            have HG : Hid (addGo s.data.toList (l.drop (i' + 1)) true (acc ++ [s.data.toList] ++ [y]) = insL l s.data.toList) := by
              show _ = _
              rw [← HA.out.2.1, HY.out.1]
              conv => rhs; unfold addGo
              rw [if_pos ⟨rfl, hsy⟩]
            have HAl := hid HA.out.2.2
            have HLn2 : Hid ((acc ++ [s.data.toList]).length ≤ 90002) := by show _ ≤ _; rw [List.length_append]; exact Nat.succ_le_succ HLn.out
            clear HA hsy
            go_wp2_with (first
              | (at_builtin; refine wpList_append_own_at _ rfl _ _ 43 rfl w.heap.size 9 i0 (.string ⟨#[]⟩) 1 16 Tryz.underlying43 hinf hz0 hz1 hz2 rfl (by decide) _ _ _ rfl (HO.out.1.alloc _) ⟨wr.heap.size, 0, none⟩ 1 1 [.string s] rfl rfl (cell_one_new _ _ rfl _ _) (fun x hx => by simp at hx; subst hx; rfl) (by have := HLn.out; unfold maxLen; omega) (by have := HLn.out; omega) (by have := HO.out.2.size; simp; omega) ?_
                 intro v5HOb w5HOb hown' hgrow hnil hat
                 have HOb := hid (add_step (bytes_back s) HO.out hown' hgrow)
                 have hcell2 := (HOb.out.2.cell (p := ⟨g, o + i', none⟩) hg).trans HC0.out
                 clear hown' hgrow hnil hat)
              | (at_builtin; refine wpList_append_own_at _ rfl _ _ 43 rfl w.heap.size 9 i0 (.string ⟨#[]⟩) 1 16 Tryz.underlying43 hinf hz0 hz1 hz2 rfl (by decide) _ _ _ rfl (HOb.out.1.alloc _) ⟨w5HOb.heap.size, 0, none⟩ 1 1 [.string yb] rfl rfl (cell_one_new _ _ rfl _ _) (fun x hx => by simp at hx; subst hx; rfl) (by have := HLn2.out; unfold maxLen; omega) (by have := HLn2.out; omega) (by have := HOb.out.2.size; simp; omega) ?_
                 intro v5HOc w5HOc hown' hgrow hnil hat
                 have HOc := hid (add_step HYb.out HOb.out hown' hgrow)
                 clear hown' hgrow hnil hat))
            try rw [wrap_succ (by have := HL.out; omega)]
            exact ⟨⟨i' + 1, true, acc ++ [s.data.toList] ++ [y], rfl, rfl, by omega, HOc, ⟨HNe.out, HG.out, by have hq := HAl.out; rw [List.length_append, List.length_append]; simp [Bool.toNat] at hq ⊢; omega⟩⟩, hstep⟩
          | false =>
            have hsy : ¬ s.data.toList < y := by rw [bytesLess_eq, HYl.out, ByteArray.toList_eq] at hlt; exact of_decide_eq_false hlt
            have HG : Hid (addGo s.data.toList (l.drop (i' + 1)) false (acc ++ [y]) = insL l s.data.toList) := by
              show _ = _
              rw [← HA.out.2.1, HY.out.1]
              conv => rhs; unfold addGo
              rw [if_neg (fun x => hsy x.2)]
            have HAl := hid HA.out.2.2
            clear HA hsy
            go_wp2_with (first
              | (at_builtin; refine wpList_append_own_at _ rfl _ _ 43 rfl w.heap.size 9 i0 (.string ⟨#[]⟩) 1 16 Tryz.underlying43 hinf hz0 hz1 hz2 rfl (by decide) _ _ _ rfl (HO.out.1.alloc _) ⟨wr.heap.size, 0, none⟩ 1 1 [.string yb] rfl rfl (cell_one_new _ _ rfl _ _) (fun x hx => by simp at hx; subst hx; rfl) (by have := HLn.out; unfold maxLen; omega) (by have := HLn.out; omega) (by have := HO.out.2.size; simp; omega) ?_
                 intro v5HOd w5HOd hown' hgrow hnil hat
                 have HOd := hid (add_step HYb.out HO.out hown' hgrow)
                 clear hown' hgrow hnil hat))
            try rw [wrap_succ (by have := HL.out; omega)]
            exact ⟨⟨i' + 1, false, acc ++ [y], rfl, rfl, by omega, HOd, ⟨HNe.out, HG.out, by have hq := HAl.out; rw [List.length_append]; simp [Bool.toNat] at hq ⊢; omega⟩⟩, hstep⟩
    · have e : i' = L := by omega
      subst e
      have hdn : l.drop i' = [] := List.drop_eq_nil_of_le (by have := HL.out.1; omega)
      have htk : l.take i' = l := List.take_of_length_le (by have := HL.out.1; omega)
      have HAd : Hid (addL l s.data.toList = insL l s.data.toList) := by
        show _ = _
        unfold addL
        rw [if_neg]
        have := HA.out.1
        rwa [htk] at this
      have HLn : Hid (acc.length ≤ 90001) := by show _ ≤ _; have := HA.out.2.2; have := HL.out; have : pt.toNat ≤ 1 := (by cases pt <;> decide); omega
      cases pt with
      | true =>
        have HG : Hid (acc = insL l s.data.toList) := by
          show _ = _
          rw [← HA.out.2.1, hdn]
          simp [addGo]
        clear HA hdn htk
        go_wp2_with fail
        go_ret
        refine ⟨_, rfl, ?_, HO.out.2⟩
        rw [HAd.out, ← HG.out]
        exact (names_owns HO.out.1).1
      | false =>
        have HG : Hid (acc ++ [s.data.toList] = insL l s.data.toList) := by
          show _ = _
          rw [← HA.out.2.1, hdn]
          simp [addGo]
        clear HA hdn htk
        go_wp2_with (first
          | (at_builtin; refine wpList_append_own_at _ rfl _ _ 43 rfl w.heap.size 9 i0 (.string ⟨#[]⟩) 1 16 Tryz.underlying43 hinf hz0 hz1 hz2 rfl (by decide) _ _ _ rfl (HO.out.1.alloc _) ⟨wr.heap.size, 0, none⟩ 1 1 [.string s] rfl rfl (cell_one_new _ _ rfl _ _) (fun x hx => by simp at hx; subst hx; rfl) (by have := HLn.out; unfold maxLen; omega) (by have := HLn.out; omega) (by have := HO.out.2.size; simp; omega) ?_
             intro v5HOe w5HOe hown' hgrow hnil hat
             have HOe := hid (add_step (bytes_back s) HO.out hown' hgrow)
             clear hown' hgrow hnil hat))
        go_ret
        refine ⟨_, rfl, ?_, HOe.out.2⟩
        rw [HAd.out, ← HG.out]
        exact (names_owns HOe.out.1).1
end Go.Proofs.YtgiejnmphfgmgaaGreatDoor

/- The names that stand free in a tree, as the specification finds them. -/
namespace Go.Proofs.YtgiejnmphfgmgaaGreatDoor
open Go.RowKit Go.Deep

/-- The kids of a node from the one at i on. -/
def freeK (old : Nd) : Nat → Fo → List ByteArray → List Tx → List Tx
  | _, .none, _, out => out
  | i, .tree n k r, bd, out => freeK old (i + 1) r bd (if n.kind = 5 then (if memB (bd ++ knownZ old i) n.a then out else addL out n.a.data.toList) else freeK n 0 k (bd ++ knownZ old i) out)

/-- A tree. -/
def freeN (n : Nd) (k : Fo) (bd : List ByteArray) (out : List Tx) : List Tx := if n.kind = 5 then (if memB bd n.a then out else addL out n.a.data.toList) else freeK n 0 k bd out

theorem freeK_tree (old n : Nd) (k r : Fo) (i : Nat) (bd : List ByteArray) (out : List Tx) : freeK old i (.tree n k r) bd out = freeK old (i + 1) r bd (freeN n k (bd ++ knownZ old i) out) := by
  unfold freeN
  rw [freeK]

theorem insL_len (s : Tx) : ∀ l : List Tx, (insL l s).length = l.length + 1
  | [] => rfl
  | x :: r => by
    unfold insL
    split
    · rfl
    · rw [List.length_cons, insL_len s r, List.length_cons]

theorem addL_len (l : List Tx) (s : Tx) : (addL l s).length ≤ l.length + 1 := by
  unfold addL
  split
  · omega
  · rw [insL_len]
    exact Nat.le_refl _

theorem freeK_len : ∀ (f : Fo) (old : Nd) (i : Nat) (bd : List ByteArray) (out : List Tx), (freeK old i f bd out).length ≤ out.length + f.flat.length
  | .none, _, _, _, _ => by simp [freeK, Fo.flat]
  | .tree n k r, old, i, bd, out => by
    rw [freeK]
    have h1 := freeK_len r old (i + 1) bd (if n.kind = 5 then (if memB (bd ++ knownZ old i) n.a then out else addL out n.a.data.toList) else freeK n 0 k (bd ++ knownZ old i) out)
    have h2 := freeK_len k n 0 (bd ++ knownZ old i) out
    have h3 := addL_len out n.a.data.toList
    have h4 : (if n.kind = 5 then (if memB (bd ++ knownZ old i) n.a then out else addL out n.a.data.toList) else freeK n 0 k (bd ++ knownZ old i) out).length ≤ out.length + 1 + k.flat.length := by
      repeat' split
      all_goals omega
    simp only [Fo.flat, List.length_cons, List.length_append]
    omega

theorem freeN_len (n : Nd) (k : Fo) (bd : List ByteArray) (out : List Tx) : (freeN n k bd out).length ≤ out.length + 1 + k.flat.length := by
  have h2 := freeK_len k n 0 bd out
  have h3 := addL_len out n.a.data.toList
  unfold freeN
  repeat' split
  all_goals omega

set_option maxHeartbeats 4000000 in
set_option maxRecDepth 100000 in
theorem free_calls (b off cap : Nat) (ns : List Nd) (hm : ns.length ≤ 300) (hok : ∀ m ∈ ns, m.kind = 9 → m.kids ≤ 2) : ∀ (N : Nat) (n : Nd) (k : Fo) (suf : List Nd) (p : Nat) (bd : List ByteArray) (out : List Tx) (bv ov : Value) (w : World), b < w.heap.size → NodesAt w b off ns → ns.drop p = n :: (k.flat ++ suf) → n.kids = k.count → k.wf → k.flat.length < N → NamesV w bv bd → NamesV w ov (bys out) → bd.length + 2 * k.flat.length ≤ 1000 → out.length + k.flat.length ≤ 1000 →
    Calls Tryz.prog 37 #[.slice (some ⟨b, off, none⟩) ns.length cap, .int .i64 (p : Int), bv, ov] w fun e w' => ∃ u, e = .returned u ∧ NamesV w' u (bys (freeN n k bd out)) ∧ Below w.heap.size w w' := by
  intro N
  induction N with
  | zero => intro n k suf p bd out bv ov w _ _ _ _ _ h; omega
  | succ N ih =>
    intro n k suf p bd out bv ov w hbw hn hp hkc hk hN hbd hov hbl hol
    obtain ⟨hpl, hpn, hp1⟩ := at_drop hp
    have c0 := hn p hpl 0 (by omega)
    have c1 := hn p hpl 1 (by omega)
    have c2 := hn p hpl 2 (by omega)
    have c3 := hn p hpl 3 (by omega)
    have c4 := hn p hpl 4 (by omega)
    have c5 := hn p hpl 5 (by omega)
    rw [hpn] at c0 c1 c2 c3 c4 c5
    simp only [Nd.cell, Nat.add_zero] at c0 c1 c2 c3 c4 c5
    have HIH := hid ih
    have HN := hid hn
    have HM := hid hm
    have HP1 := hid hp1
    have HWf := hid hk
    have HNl := hid hN
    have HBd := hid hbd
    have HOv := hid hov
    have HLs := hid (And.intro hbl hol)
    have HK9 := hid (hok n (by rw [← List.take_append_drop p ns, hp]; simp))
    have HPl := hid hpl
    have HCt : Hid (k.count ≤ 1000) := by
      show _ ≤ _
      have := Fo.count_le k
      omega
    obtain ⟨ad3, cp3, rfl⟩ := hov.slice
    obtain ⟨ad2, cp2, rfl⟩ := hbd.slice
    obtain ⟨kd, num, a, bb, cc, kids⟩ := n
    dsimp only at *
    obtain ⟨kc, hkc'⟩ : ∃ kc, k.count = kc := ⟨_, rfl⟩
    rw [hkc'] at hkc
    have HKc := hid hkc'
    subst hkc
    obtain ⟨len, hlen⟩ : ∃ len, ns.length = len := ⟨_, rfl⟩
    have Hlen := hid hlen
    rw [hlen] at hpl ⊢
    have hpl2 : (p : Int) < (len : Int) := by omega
    have hp0 : (0 : Int) ≤ (p : Int) := by omega
    obtain ⟨bl, hbl2⟩ : ∃ bl, bd.length = bl := ⟨_, rfl⟩
    obtain ⟨ol, hol2⟩ : ∃ ol, (bys out).length = ol := ⟨_, rfl⟩
    rw [hbl2, hol2]
    rw [hbl2] at HBd
    rw [hol2] at HOv
    clear ih hn hm hp1 hk hN hbd hov hbl hol hp hpn hkc' hlen hok hbl2 hol2
    go_enter Tryz.func37, Tryz.ntmps37
    by_cases k5 : (kd == 5) = true
    · have hba := (Below.refl w.heap.size w).alloc (Nat.le_refl _) (.cells #[.int .i64 kd, .int .i64 num, .string a, .string bb, .string cc, .int .i64 (kc : Int)] 81)
      have HIn := hid (in_any a _ (HBd.out.below hba) (by have := HLs.out.1; omega))
      have HAd := hid (fun X (hb : Below w.heap.size w X) => add_calls a X (HOv.out.below hb) (by have := HLs.out.2; omega))
      have e5 := hid (show kd = 5 from eq_of_beq k5)
      have HBa := hid hba
      clear hba HIH
      go_wp2_with fail
      refine HIn.out.mono ?_
      rintro e w2 ⟨rfl, rfl⟩
      cases hmb : memB bd a with
      | true =>
        have HT : Hid (freeN ⟨kd, num, a, bb, cc, kc⟩ k bd out = out) := by
          show _ = _
          unfold freeN
          rw [if_pos e5.out, if_pos hmb]
        go_wp2_with fail
        go_ret
        refine ⟨_, rfl, ?_, HBa.out⟩
        rw [HT.out]
        exact HOv.out.below HBa.out
      | false =>
        have HT : Hid (freeN ⟨kd, num, a, bb, cc, kc⟩ k bd out = addL out a.data.toList) := by
          show _ = _
          unfold freeN
          rw [if_pos e5.out, if_neg (by rw [hmb]; decide)]
        go_wp2_with fail
        refine (HAd.out _ HBa.out).mono ?_
        rintro e w3 ⟨u, rfl, hu, hb3⟩
        have HU := hid (And.intro hu hb3)
        clear hu hb3
        go_wp2_with fail
        go_ret
        refine ⟨_, rfl, ?_, HBa.out.trans (HU.out.2.mono HBa.out.size)⟩
        rw [HT.out]
        exact HU.out.1
    · have hne5 := hid (show kd ≠ 5 from fun e => k5 (by rw [e]; rfl))
      obtain ⟨TG, hTG⟩ : ∃ TG, freeN ⟨kd, num, a, bb, cc, kc⟩ k bd out = TG := ⟨_, rfl⟩
      have HTG : Hid (freeK ⟨kd, num, a, bb, cc, kc⟩ 0 k bd out = TG) := by
        show _ = _
        rw [← hTG]
        unfold freeN
        rw [if_neg hne5.out]
      rw [hTG]
      clear hTG
      have hA := (MapKept.heap_alloc w (.cells #[.int .i64 kd, .int .i64 num, .string a, .string bb, .string cc, .int .i64 (kc : Int)] 81)).1
      have hba := (Below.refl w.heap.size w).alloc (Nat.le_refl _) (.cells #[.int .i64 kd, .int .i64 num, .string a, .string bb, .string cc, .int .i64 (kc : Int)] 81)
      have HA := hid (And.intro hA hba)
      clear hA hba
      go_wp2_with fail
      clear c0 c1 c2 c3 c4 c5
      generalize w.alloc (.cells #[.int .i64 kd, .int .i64 num, .string a, .string bb, .string cc, .int .i64 (kc : Int)] 81) = wA at *
      rw [wrap_succ (by have := HPl.out; have := HM.out; omega)]
      generalize p + 1 = p1 at *
      go_loopw [3, 10, 11] (fun o q i wr => ∃ (q' i' : Nat) (r : Fo) (ot : List Tx), q = .int .i64 q' ∧ i = .int .i64 i' ∧ Hid (ns.drop q' = r.flat ++ suf ∧ r.wf ∧ i' + r.count = kc ∧ r.flat.length < N + 1 ∧ r.flat.length ≤ k.flat.length ∧ freeK ⟨kd, num, a, bb, cc, kc⟩ i' r bd ot = TG ∧ ot.length + r.flat.length ≤ 1000) ∧ Hid (NamesV wr o (bys ot)) ∧ Hid (Below wA.heap.size wA wr)) (fun _ _ i _ => kc - (intOf i).toNat)
      case atStart => exact ⟨p1, 0, k, out, rfl, rfl, ⟨HP1.out, HWf.out, by rw [HKc.out]; omega, HNl.out, Nat.le_refl _, HTG.out, by have := HLs.out.2; omega⟩, HOv.out.below HA.out.2, Below.refl _ _⟩
      case round =>
        obtain ⟨q', i', r, ot, rfl, rfl, HR, HOt, HB⟩ := hrel
        have hx := (HB.out.block _ (heap_lt HA.out.1)).trans HA.out.1
        have c0 := cell_of_heap hx 0
        have c1 := cell_of_heap hx 1
        have c2 := cell_of_heap hx 2
        have c3 := cell_of_heap hx 3
        have c4 := cell_of_heap hx 4
        have c5 := cell_of_heap hx 5
        simp at c0 c1 c2 c3 c4 c5
        have HX := hid hx
        clear hx
        cases r with
        | none =>
          obtain ⟨_, _, h1, _, _, h2, _⟩ := HR.out
          simp only [Fo.count, freeK] at h1 h2
          have h1' : i' = kc := by omega
          subst h1'
          subst h2
          clear HR h1
          go_wp2_with fail
          go_ret
          exact ⟨_, rfl, HOt.out, HA.out.2.trans (HB.out.mono HA.out.2.size)⟩
        | tree n' k' r' =>
          obtain ⟨h0, hw, h1, h3, h3', h4, h5⟩ := HR.out
          obtain ⟨hw0, hw1, hw2⟩ := hw
          simp only [Fo.count, Fo.flat, List.length_cons, List.length_append] at h1 h3 h3' h5
          simp only [Fo.flat, List.cons_append, List.append_assoc] at h0
          obtain ⟨hql, hqn, hq1⟩ := at_drop h0
          have hend : treeEnd ns q' = _ := treeEnd_at h0 hw0 hw1
          have hnew := drop_past hq1
          rw [freeK_tree] at h4
          have hi : (i' : Int) < (kc : Int) := by omega
          have hfl := freeN_len n' k' (bd ++ knownZ ⟨kd, num, a, bb, cc, kc⟩ i') ot
          have HNx : Hid (ns.drop (q' + 1 + k'.flat.length) = r'.flat ++ suf ∧ r'.wf ∧ i' + 1 + r'.count = kc ∧ r'.flat.length < N + 1 ∧ r'.flat.length ≤ k.flat.length ∧ freeK ⟨kd, num, a, bb, cc, kc⟩ (i' + 1) r' bd (freeN n' k' (bd ++ knownZ ⟨kd, num, a, bb, cc, kc⟩ i') ot) = TG ∧ (freeN n' k' (bd ++ knownZ ⟨kd, num, a, bb, cc, kc⟩ i') ot).length + r'.flat.length ≤ 1000) := ⟨hnew, hw2, by omega, by omega, by omega, h4, by omega⟩
          have hkl := knownZ_len ⟨kd, num, a, bb, cc, kc⟩ i'
          have HC := hid (fun (X : World) (bv ov : Value) (h1 : b < X.heap.size) (h2 : NodesAt X b off ns) (h3 : NamesV X bv (bd ++ knownZ ⟨kd, num, a, bb, cc, kc⟩ i')) (h4 : NamesV X ov (bys ot)) => HIH.out n' k' (r'.flat ++ suf) q' (bd ++ knownZ ⟨kd, num, a, bb, cc, kc⟩ i') ot bv ov X h1 h2 h0 hw0 hw1 (by omega) h3 h4 (by rw [List.length_append]; have := HLs.out.1; omega) (by omega))
          have HQ := hid (And.intro hql hend)
          have HBi := hid (fun X => binds_calls ⟨kd, num, a, bb, cc, kc⟩ i' X (fun e => by have := HK9.out e; omega))
          unfold ndV at HBi
          dsimp only at HBi
          have HKl : Hid (bd.length + (knownZ ⟨kd, num, a, bb, cc, kc⟩ i').length ≤ 2000) := by show _ ≤ _; have := HLs.out.1; omega
          clear HR h0 hw0 hw1 hw2 hql hqn hq1 hend hnew h4 h1 h3 h3' h5 hfl hkl
          obtain ⟨ad5, cp5, ho5⟩ := HOt.out.slice
          rw [Hlen.out] at HC
          subst ho5
          have hS : Below wr.heap.size wr wr.drew := (Below.refl _ _).drew
          have q0 := fun (y : World) (h : Below wr.heap.size wr y) => (h.cell (p := ⟨w.heap.size, 0, none⟩) (heap_lt HX.out)).trans c0
          have q1 := fun (y : World) (h : Below wr.heap.size wr y) => (h.cell (p := ⟨w.heap.size, 1, none⟩) (heap_lt HX.out)).trans c1
          have q2 := fun (y : World) (h : Below wr.heap.size wr y) => (h.cell (p := ⟨w.heap.size, 2, none⟩) (heap_lt HX.out)).trans c2
          have q3 := fun (y : World) (h : Below wr.heap.size wr y) => (h.cell (p := ⟨w.heap.size, 3, none⟩) (heap_lt HX.out)).trans c3
          have q4 := fun (y : World) (h : Below wr.heap.size wr y) => (h.cell (p := ⟨w.heap.size, 4, none⟩) (heap_lt HX.out)).trans c4
          have q5 := fun (y : World) (h : Below wr.heap.size wr y) => (h.cell (p := ⟨w.heap.size, 5, none⟩) (heap_lt HX.out)).trans c5
          go_upto_region 1 with fail
          refine pick_begin (S := fun w' => Below wr.heap.size wr w') (by kernel_rfl) rfl rfl ?_
          refine pick_op (i := 0) (v := .slice (some ⟨b, off, none⟩) len cap) (by kernel_rfl) rfl (by kernel_rfl) (by kernel_rfl) rfl rfl (fun w' hw' => by simp [go_sem]) hS (by simp [go_sem]; exact rfl) ?_
          refine pick_op (i := 1) (v := .int .i64 (q' : Int)) (by kernel_rfl) rfl (by kernel_rfl) (by kernel_rfl) rfl rfl (fun w' hw' => by simp [go_sem]) hS (by simp [go_sem]; exact rfl) ?_
          refine pick_op (i := 3) (v := .slice ad2 bl cp2) (by kernel_rfl) rfl (by kernel_rfl) (by kernel_rfl) rfl rfl (fun w' hw' => by simp [go_sem]) hS (by simp [go_sem]; exact rfl) ?_
          refine pick_op (i := 5) (v := .agg #[.int .i64 kd, .int .i64 num, .string a, .string bb, .string cc, .int .i64 (kc : Int)]) (by kernel_rfl) rfl (by kernel_rfl) (by kernel_rfl) rfl rfl (fun w' hw' => by simp [go_sem, q0 w' hw', q1 w' hw', q2 w' hw', q3 w' hw', q4 w' hw', q5 w' hw']) hS (by simp [go_sem]; exact rfl) ?_
          refine pick_op (i := 6) (v := .int .i64 (i' : Int)) (by kernel_rfl) rfl (by kernel_rfl) (by kernel_rfl) rfl rfl (fun w' hw' => by simp [go_sem]) hS (by simp [go_sem]; exact rfl) ?_
          refine pick_op (i := 9) (v := .slice ad5 (bys ot).length cp5) (by kernel_rfl) rfl (by kernel_rfl) (by kernel_rfl) rfl rfl (fun w' hw' => by simp [go_sem]) hS (by simp [go_sem]; exact rfl) ?_
          refine pick_make (i := 2) (v := .slice (some ⟨wr.heap.size, 0, none⟩) 0 0) (w1 := wr.drew.alloc (.cells #[] 9)) rfl (by kernel_rfl) rfl rfl (by simp [go_sem]) (hS.alloc (Nat.le_refl _) _) (by simp [go_sem]; exact rfl) ?_
          clear c0 c1 c2 c3 c4 c5 q0 q1 q2 q3 q4 q5
          have hX0 := hS.alloc (Nat.le_refl _) (.cells #[] 9)
          have hown0 : (wr.drew.alloc (.cells #[] 9)).ownsRow wr.heap.size 9 1 (.slice (some ⟨wr.heap.size, 0, none⟩) 0 0) 0 (strRow []) := World.ownsRow_made wr.drew #[] 0 (Nat.le_refl _) (Nat.zero_le _) rfl
          generalize wr.drew.alloc (.cells #[] 9) = X0 at *
          have HBdr := hid ((HBd.out.below HA.out.2).below HB.out)
          obtain ⟨v1, X1, hrun1, hown1, hg1, -⟩ := app_names (ss := []) (ys := bd) 43 hown0 (HBdr.out.below hX0) (by have := HKl.out; simp; omega) hX0.size
          have hX1 : Below wr.heap.size wr X1 := Below.grown hX0 hg1 hX0.size (fun j hj => (hown0.lt _ hj).1)
          refine pick_make (i := 4) (v := v1) (w1 := X1) rfl (by kernel_rfl) rfl rfl (append_runN (s := .tmp 38) (x := .tmp 39) (t := 43) rfl rfl rfl hrun1) hX1 (by simp [go_sem]; exact rfl) ?_
          rw [List.nil_append] at hown1
          clear hrun1 hg1 hown0 hX0
          refine pick_enter (i := 7) (f := 77) (args := #[.agg #[.int .i64 kd, .int .i64 num, .string a, .string bb, .string cc, .int .i64 (kc : Int)], .int .i64 (i' : Int)]) rfl (by kernel_rfl) rfl rfl (by simp [go_sem]) ?_
          refine (HBi.out X1).mono ?_
          rintro e X2 ⟨sv, rfl, hnv, hb2⟩
          have hX2 := hX1.trans (hb2.mono hX1.size)
          refine ⟨sv, rfl, hX2, ?_⟩
          refine pick_frame (by simp [go_sem]; exact rfl) ?_
          have hown2 := owns_below hown1 hb2
          obtain ⟨v3, X3, hrun3, hown3, hg3, -⟩ := app_names 43 hown2 hnv (by have := HKl.out; omega) (Nat.le_trans hX1.size hb2.size)
          have hX3 : Below wr.heap.size wr X3 := Below.grown hX2 hg3 hX2.size (fun j hj => (hown2.lt _ hj).1)
          refine pick_make (i := 8) (v := v3) (w1 := X3) rfl (by kernel_rfl) rfl rfl (append_runN (s := .tmp 40) (x := .tmp 43) (t := 43) rfl rfl rfl hrun3) hX3 (by simp [go_sem]; exact rfl) ?_
          clear hrun3 hg3 hown1 hown2 hnv hb2 hX2 hX1
          have hw3 := HA.out.2.trans ((HB.out.trans (hX3.mono HB.out.size)).mono HA.out.2.size)
          refine pick_enter (i := 10) (f := 37) (args := #[.slice (some ⟨b, off, none⟩) len cap, .int .i64 (q' : Int), v3, .slice ad5 (bys ot).length cp5]) rfl (by kernel_rfl) rfl rfl (by simp [go_sem]) ?_
          refine (HC.out X3 v3 _ (by have := hw3.size; omega) (HN.out.below hw3 hbw) (names_owns hown3).1 (HOt.out.below hX3)).mono ?_
          rintro e X4 ⟨u, rfl, hu, hb4⟩
          have hX4 := hX3.trans (hb4.mono hX3.size)
          refine ⟨u, rfl, hX4, ?_⟩
          refine pick_frame (by simp [go_sem]; exact rfl) ?_
          refine pick_make (i := 11) (v := u) (w1 := X4) rfl (by kernel_rfl) rfl rfl (by simp [go_sem]) hX4 (by simp [go_sem]; exact rfl) ?_
          refine pick_end (by kernel_rfl) ?_
          have hw4 := HB.out.trans (hX4.mono HB.out.size)
          have hw5 := HA.out.2.trans (hw4.mono HA.out.2.size)
          have hT := specEnd_calls b off cap ns q' X4 (HN.out.below hw5 hbw) (by have := HM.out; omega)
          rw [HQ.out.2, Hlen.out] at hT
          have HT := hid hT
          have HU := hid (And.intro hu hw4)
          clear hT hu hb4 hw3 hX3 hX4 hw4 hw5 hown3 HC HBi hS
          have hi9 : i' ≤ 1048576 := by have := HNx.out.2.2.1; have := HKc.out; have := HCt.out; omega
          generalize q' + 1 + k'.flat.length = ee at *
          go_wp2_with fail
          refine HT.out.mono ?_
          rintro e w6 ⟨rfl, rfl⟩
          go_wp2_with fail
          try rw [wrap_succ hi9]
          exact ⟨⟨ee, i' + 1, r', _, rfl, rfl, HNx, HU.out.1, HU.out.2⟩, lt_step hi⟩
end Go.Proofs.YtgiejnmphfgmgaaGreatDoor

/- The specification's TreeFree: the names that the program's walk finds free, each once, sorted. -/
namespace Go.Proofs.YtgiejnmphfgmgaaGreatDoor
open Go.RowKit Go.Deep

/-- A name's node bears no kids. -/
def leaf5 : Fo → Prop
  | .none => True
  | .tree n k r => (n.kind = 5 → k = .none) ∧ leaf5 k ∧ leaf5 r

theorem leaf5_of : ∀ (f : Fo), f.wf → (∀ m ∈ f.flat, m.kind = 5 → m.kids = 0) → leaf5 f
  | .none, _, _ => trivial
  | .tree n k r, hw, h => by
    obtain ⟨h1, h2, h3⟩ := hw
    refine ⟨fun e => ?_, leaf5_of k h2 (fun m hm => h m (by simp [Fo.flat, hm])), leaf5_of r h3 (fun m hm => h m (by simp [Fo.flat, hm]))⟩
    have h0 := h n (by simp [Fo.flat]) e
    cases k with
    | none => rfl
    | tree n' k' r' =>
      simp only [Fo.count] at h1
      omega

theorem findS_open : ∀ (xs ys : List ByteArray) (sc : Sco) (x : ByteArray), xs.length = ys.length → (findS ((xs.zip ys).foldl (fun s p => p :: s) sc) x ≠ none ↔ x ∈ xs ∨ findS sc x ≠ none)
  | [], ys, sc, x, _ => by simp
  | a :: xs, [], sc, x, h => by simp at h
  | a :: xs, b :: ys, sc, x, h => by
    rw [List.zip_cons_cons, List.foldl_cons, findS_open xs ys ((a, b) :: sc) x (by simpa using h), List.mem_cons]
    by_cases e : a = x
    · subst e
      simp [findS]
    · simp only [findS, if_neg e]
      constructor
      · rintro (h | h)
        · exact Or.inl (Or.inr h)
        · exact Or.inr h
      · rintro ((h | h) | h)
        · exact absurd h.symm e
        · exact Or.inl h
        · exact Or.inr h

theorem texts_app (a b : List ByteArray) : textsOf (a ++ b) = textsOf a ++ textsOf b := by unfold textsOf; rw [List.map_append]

theorem free_pure : ∀ (f : Fo) (old new : Nd) (i : Nat) (bd : List ByteArray) (sc : Sco) (s : Wst), leaf5 f → old.kind = new.kind → (∀ x, x ∈ bd ↔ findS sc x ≠ none) → freeK old i f bd ((textsOf s.free).foldl addL []) = (textsOf (kidsW old new i f sc s).free).foldl addL []
  | .none, _, _, _, _, _, _, _, _, _ => rfl
  | .tree n k r, old, new, i, bd, sc, s, hl, hk, hb => by
    obtain ⟨h1, h2, h3⟩ := hl
    have hb2 : ∀ x, x ∈ bd ++ knownZ old i ↔ findS (openS old new i sc) x ≠ none := fun x => by
      unfold openS
      rw [findS_open _ _ _ _ (knownZ_same hk i), List.mem_append, ← hb x, or_comm]
    rw [freeK, kidsW, ← free_pure r old new (i + 1) bd sc _ h3 hk hb]
    congr 1
    by_cases e : n.kind = 5
    · rw [if_pos e, h1 e]
      simp only [kidsW, stepW]
      unfold lostZ
      by_cases hf : findS (openS old new i sc) n.a = none
      · rw [if_neg (by rw [memB_iff, hb2]; exact fun h => h hf), if_pos ⟨e, hf⟩, texts_app, List.foldl_append]
        rfl
      · rw [if_pos (by rw [memB_iff, hb2]; exact hf), if_neg (fun h => hf h.2), List.append_nil]
    · rw [if_neg e, ← free_pure k n _ 0 _ _ _ h2 (renZ_kind _ _ _).symm hb2]
      congr 1
      unfold stepW lostZ
      rw [if_neg (fun h => e h.1)]
      simp

theorem free_whole (n : Nd) (k : Fo) (hl : leaf5 (.tree n k .none)) : freeN n k [] [] = freeOf (wholeW n k) := by
  obtain ⟨h1, h2, -⟩ := hl
  unfold freeN freeOf wholeW walkW
  by_cases e : n.kind = 5
  · rw [if_pos e, h1 e, if_neg (by rw [memB_iff]; simp)]
    simp only [kidsW, stepW, lostZ, findS]
    rw [if_pos ⟨e, trivial⟩]
    rfl
  · rw [if_neg e, ← free_pure k n _ 0 [] [] _ h2 (renZ_kind _ _ _).symm (fun x => by simp [findS])]
    congr 1
    unfold stepW lostZ
    rw [if_neg (fun h => e h.1)]
    rfl

theorem own_kids {m : Nd} (h : ownOk m = true) : (m.kind = 9 → m.kids ≤ 2) ∧ (m.kind = 5 → m.kids = 0) := by
  simp only [ownOk, Bool.and_eq_true] at h
  have hk := h.1
  constructor
  · intro e
    rw [e] at hk
    have : m.kids = 2 := of_decide_eq_true hk
    omega
  · intro e
    rw [e] at hk
    exact of_decide_eq_true hk

set_option maxRecDepth 100000 in
theorem specFree_calls {b off cap : Nat} {ns : List Nd} {n : Nd} {k : Fo} (w : World) (hm : ns.length ≤ 300) (hbw : b < w.heap.size) (hn : NodesAt w b off ns) (hA : SpecAns ns true) (hall : ns.all ownOk = true) (h1 : ns = n :: k.flat) (h2 : n.kids = k.count) (h3 : k.wf) :
    Calls Tryz.prog 16 #[.slice (some ⟨b, off, none⟩) ns.length cap] w fun e w' => ∃ u, e = .returned u ∧ NamesV w' u (bys (freeOf (wholeW n k))) ∧ Below w.heap.size w w' := by
  have HT := hid (specTree_calls b off cap ns w true (by omega) hbw hn hA)
  have hown : ∀ m ∈ ns, ownOk m = true := fun m hm => List.all_eq_true.1 hall m hm
  have hl : leaf5 (.tree n k .none) := leaf5_of _ ⟨h2, h3, trivial⟩ (fun m hm => (own_kids (hown m (by rw [h1]; simpa [Fo.flat] using hm))).2)
  have hkl : k.flat.length ≤ 300 := by rw [h1, List.length_cons] at hm; omega
  have HF := hid (fun X (hb : Below w.heap.size w X) => free_calls b off cap ns hm (fun m hm => (own_kids (hown m hm)).1) (k.flat.length + 1) n k [] 0 [] [] _ _ X (by have := hb.size; omega) (hn.below hb hbw) (by rw [h1]; simp) h2 h3 (Nat.lt_succ_self _) (names_none X) (names_none X) (by simp; omega) (by simp; omega))
  rw [← free_whole n k hl]
  clear hn hA hall hown hl hkl hm
  generalize ns.length = len at *
  go_enter Tryz.func16, Tryz.ntmps16
  go_wp2_with fail
  refine HT.out.mono ?_
  rintro e w2 ⟨rfl, hb2⟩
  go_wp2_with fail
  refine (HF.out w2 hb2).mono ?_
  rintro e w3 ⟨u, rfl, hu, hb3⟩
  have HU := hid (And.intro hu (hb2.trans (hb3.mono hb2.size)))
  clear hu hb3
  go_wp2_with fail
  go_ret
  exact ⟨_, rfl, HU.out.1, HU.out.2⟩

set_option maxRecDepth 100000 in
theorem specFree_bad {b off cap : Nat} {ns : List Nd} (w : World) (hm : ns.length ≤ 1048576) (hbw : b < w.heap.size) (hn : NodesAt w b off ns) (hA : SpecAns ns false) :
    Calls Tryz.prog 16 #[.slice (some ⟨b, off, none⟩) ns.length cap] w fun e w' => e = .returned (.slice none 0 0) ∧ Below w.heap.size w w' := by
  have HT := hid (specTree_calls b off cap ns w false hm hbw hn hA)
  clear hm hbw hn hA
  generalize ns.length = len at *
  go_enter Tryz.func16, Tryz.ntmps16
  go_wp2_with fail
  refine HT.out.mono ?_
  rintro e w2 ⟨rfl, hb2⟩
  go_wp2_with fail
  go_ret
  exact ⟨rfl, hb2⟩
end Go.Proofs.YtgiejnmphfgmgaaGreatDoor

/- Every part; what was put off; the whole: the specification's Compile. -/
namespace Go.Proofs.YtgiejnmphfgmgaaGreatDoor
open Go.RowKit Go.Deep

section
variable {W0 : World} {Mb : Nat} {ae : Option Addr} {ce b off cap : Nat} {es : List Ef} {ns : List Nd} {K : Nat}

theorem part_all (cx : Cx W0 Mb ae b off es ns) (hk1 : K ≤ 1000) : ∀ F, PartC W0 Mb ae ce b off cap es ns K F := by
  intro F
  induction F with
  | zero => intro t ss s v W hF; have := t.size_pos; omega
  | succ F ih =>
    intro t ss s v W hF hs hK hB h hv
    by_cases n1 : t.n.kind = 1
    · rw [part1 n1]; exact part_c1 cx hk1 hF hs hK hB h hv n1
    by_cases n2 : t.n.kind = 2
    · rw [part2 n2]; exact part_c2 cx hk1 hF hs hK hB h hv n2
    by_cases n3 : t.n.kind = 3
    · rw [part3 n3]; exact part_c3 cx hk1 hF hs hK hB h hv n3
    by_cases n4 : t.n.kind = 4
    · rw [part4 n4]; exact part_c4 cx hk1 hF hs hK hB h hv n4
    by_cases n5 : t.n.kind = 5
    · rw [part5 n5]; exact part_c5 cx hk1 hF hs hK hB h hv n5
    by_cases n6 : t.n.kind = 6
    · rw [part6 n6]; exact part_c6 cx hk1 hF hs hK hB h hv n6
    by_cases n8 : t.n.kind = 8
    · rw [part8 n8]; exact part_c8 cx hk1 ih hF hs hK hB h hv n8
    by_cases n9 : t.n.kind = 9
    · rw [part9 n9]; exact part_c9 cx hk1 ih hF hs hK hB h hv n9
    by_cases n10 : t.n.kind = 10
    · rw [part10 n10]; exact part_c10 cx hk1 ih hF hs hK hB h hv n10
    by_cases n20 : t.n.kind = 20
    · rw [part20 n20]; exact part_c20 cx hk1 ih hF hs hK hB h hv n20
    by_cases nh : t.n.kind = 23 ∨ t.n.kind = 24
    · rw [partH nh]; exact part_h cx hk1 ih hF hs hK hB h hv nh
    · have n23 : t.n.kind ≠ 23 := fun e => nh (Or.inl e)
      have n24 : t.n.kind ≠ 24 := fun e => nh (Or.inr e)
      rw [partK n1 n2 n3 n4 n5 n6 n8 n9 n10 n20 n23 n24]
      exact part_k cx hk1 ih hF hs hK hB h hv ⟨n1, n2, n3, n4, n5, n6, n8, n9, n10, n20, n23, n24⟩
end

/-- What is put off and not yet made. -/
def pend (s : Cs) (i : Nat) : Nat := ((s.later.drop i).map (fun l => l.t.size)).sum

theorem pend_next {s : Cs} {i : Nat} (h : i < s.later.length) : pend s i = (s.later.getD i default).t.size + pend s (i + 1) := by
  have e : s.later.getD i default = s.later[i] := by simp [List.getD, h]
  rw [e]
  unfold pend
  rw [List.drop_eq_getElem_cons h, List.map_cons, List.sum_cons]

theorem rest_split (s : Cs) (i : Nat) : s.rest = ((s.later.take i).map (fun l => l.t.size)).sum + pend s i := by
  unfold Cs.rest pend
  conv => lhs; rw [← List.take_append_drop i s.later]
  rw [List.map_append, List.sum_append]

/-- One that was put off is made. -/
def nextZ (es : List Ef) (l : Lt) (s : Cs) : Cs := (partZ es 400 l.t l.names (s.lead l.fr l.wh)).put ⟨9, 0, 0, 0⟩

theorem next_r {ns : List Nd} {es : List Ef} {s : Cs} {i : Nat} (hi : i < s.later.length) (hl : ns.length ≤ 300) (hok : LOk ns 1000 s) (hB : s.out.length + 10 * s.rest + 3000 * pend s i ≤ 900001) (hP : i + pend s i ≤ 300) :
    LOk ns 1000 (nextZ es (s.later.getD i default) s) ∧ (nextZ es (s.later.getD i default) s).out.length + 10 * (nextZ es (s.later.getD i default) s).rest + 3000 * pend (nextZ es (s.later.getD i default) s) (i + 1) ≤ 900001 ∧ i + 1 + pend (nextZ es (s.later.getD i default) s) (i + 1) ≤ 300 ∧ i + 1 ≤ (nextZ es (s.later.getD i default) s).later.length := by
  obtain ⟨l, hl2⟩ : ∃ l, s.later.getD i default = l := ⟨_, rfl⟩
  have hp := pend_next hi
  rw [hl2] at hp ⊢
  have hmem : l ∈ s.later := by rw [← hl2]; exact getD_mem hi
  obtain ⟨h1, ⟨h2, -⟩, h3⟩ := hok l hmem
  have hsz := h1.lt.2.2
  have hpos := l.t.size_pos
  have r := ((Rs.lead ns 1000 s l.fr l.wh).trans (part_r (ns := ns) (K := 1000) (es := es) 400 l.t l.names (s.lead l.fr l.wh) (by omega) h1 h2)).trans (Rs.put ns 1000 _ ⟨9, 0, 0, 0⟩)
  have r' : Rs ns 1000 (10 * l.t.size) (l.t.size - 1) s (nextZ es l s) := r.mono (by omega) (by omega)
  obtain ⟨q, hq⟩ := r'.pre
  have e1 := rest_split s (i + 1)
  have e2 := rest_split (nextZ es l s) (i + 1)
  have e3 : (nextZ es l s).later.take (i + 1) = s.later.take (i + 1) := by rw [hq, List.take_append_of_le_length (by omega)]
  rw [e3] at e2
  have c1 := r'.cost
  have c2 := r'.rest
  have c3 := r'.len
  refine ⟨r'.ok hok, ?_, ?_, by omega⟩
  · omega
  · omega

theorem cm_start {W : World} (ve vt : Value) : Cm (W.alloc (.cells #[ve, vt, .slice none 0 0, .slice none 0 0] 48)) W.heap.size ve vt ⟨[], []⟩ [] (.slice none 0 0) (.slice none 0 0) (W.alloc (.cells #[ve, vt, .slice none 0 0, .slice none 0 0] 48)) :=
  ⟨(MapKept.heap_alloc W _).1, World.ownsRow_nil _ _ _ _, World.ownsRow_nil _ _ _ _, fun x hx => by simp at hx, rfl, rfl, rfl, rfl, Nat.le_refl _, fun _ _ _ => rfl, by simp⟩

theorem spec_ans_one {ns : List Nd} {T T' : Bool} (h : SpecAns ns T) (h' : SpecAns ns T') : T = T' := by
  rcases h with ⟨a1, rfl⟩ | ⟨a1, a2, a3, rfl⟩ | ⟨a1, a2, n, k, e1, e2, e3, h⟩ <;> rcases h' with ⟨b1, rfl⟩ | ⟨b1, b2, b3, rfl⟩ | ⟨b1, b2, n', k', e1', e2', e3', h'⟩
  · rfl
  · rfl
  · omega
  · rfl
  · rfl
  · exact absurd (end_of_tree e1' e2' e3') a3
  · omega
  · exact absurd (end_of_tree e1 e2 e3) b3
  · obtain ⟨rfl, rfl⟩ := tree_inj e1 e2 e3 e1' e2' e3'
    rw [h, h']

/-- Whether there is code, and which. -/
def CompZ (es : List Ef) (ns : List Nd) (x : Bool) (cs : List In) : Prop :=
  (x = false ∧ cs = [] ∧ ∀ T, SpecAns ns T → progZ es ns T = true → ∃ n k, ns = n :: k.flat ∧ n.kids = k.count ∧ k.wf ∧ freeOf (wholeW n k) ≠ []) ∨
  (x = true ∧ ∃ n k, (∃ T, SpecAns ns T ∧ progZ es ns T = true) ∧ ns = n :: k.flat ∧ n.kids = k.count ∧ k.wf ∧ freeOf (wholeW n k) = [] ∧ cs = codeZ es n k)

theorem compZ_one {es : List Ef} {ns : List Nd} {x x' : Bool} {cs cs' : List In} (h : CompZ es ns x cs) (h' : CompZ es ns x' cs') : x = x' ∧ cs = cs' := by
  rcases h with ⟨rfl, rfl, h⟩ | ⟨rfl, n, k, ⟨T, hT, hP⟩, e1, e2, e3, hf, rfl⟩ <;> rcases h' with ⟨rfl, rfl, h'⟩ | ⟨rfl, n', k', ⟨T', hT', hP'⟩, e1', e2', e3', hf', rfl⟩
  · exact ⟨rfl, rfl⟩
  · obtain ⟨n, k, g1, g2, g3, g4⟩ := h T' hT' hP'
    obtain ⟨rfl, rfl⟩ := tree_inj g1 g2 g3 e1' e2' e3'
    exact absurd hf' g4
  · obtain ⟨n', k', g1, g2, g3, g4⟩ := h' T hT hP
    obtain ⟨rfl, rfl⟩ := tree_inj g1 g2 g3 e1 e2 e3
    exact absurd hf g4
  · obtain ⟨rfl, rfl⟩ := tree_inj e1 e2 e3 e1' e2' e3'
    exact ⟨rfl, rfl⟩

def CompR (es : List Ef) (ns : List Nd) (W : World) (e : Ending) (W' : World) : Prop :=
  ∃ v cs x, e = .returned (.tuple #[v, .bool x]) ∧ W'.ownsRow W.heap.size 52 4 v cs.length (rowZ In.cell 4 cs) ∧ cs.length ≤ 950000 ∧ Below W.heap.size W W' ∧ CompZ es ns x cs

def CompPost (es : List Ef) (ns : List Nd) (W : World) (e : Ending) (W' : World) : Prop :=
  ∃ v cs x, e = .returned (.tuple #[v, .bool x]) ∧ W'.ownsRow W.heap.size 52 4 v cs.length (rowZ In.cell 4 cs) ∧ cs.length ≤ 950000 ∧ Below W.heap.size W W' ∧ (x = false → cs = []) ∧ (x = true → ∃ n k, ns = n :: k.flat ∧ n.kids = k.count ∧ k.wf ∧ cs = codeZ es n k)

theorem cm_below {W W0 : World} {Mb : Nat} {ve vt : Value} {s : Cs} {ls : List (Lt × Value)} {vo vl : Value} {X : World} (h : Cm W0 Mb ve vt s ls vo vl X) (hb : Below W.heap.size W W0) (hM : W.heap.size ≤ Mb) : Below W.heap.size W X :=
  ⟨h.os.trans hb.os, h.tape.trans hb.tape, h.output.trans hb.output, Nat.le_trans hb.size h.size, fun q hq => (h.kept q (Nat.lt_of_lt_of_le hq hb.size) (by omega)).trans (hb.block q hq)⟩

set_option maxHeartbeats 8000000 in
set_option maxRecDepth 100000 in
theorem compile_callsR {W : World} {ae : Option Addr} {ce bt cn : Nat} {es : List Ef} {ns : List Nd} (hE : EffW W ae ce es) (hel : es.length ≤ 1000) (hbt : bt < W.heap.size) (hN : NodesAt W bt 0 ns) (hl : ns.length ≤ 300) :
    Calls Tryz.prog 5 #[.agg #[.slice ae es.length ce, .slice (some ⟨bt, 0, none⟩) ns.length cn]] W (CompR es ns W) := by
  obtain ⟨T, hSA, -⟩ := answers ns
  have hA := (MapKept.heap_alloc W (.cells #[.slice ae es.length ce, .slice (some ⟨bt, 0, none⟩) ns.length cn] 33)).1
  have hB1 := (Below.refl W.heap.size W).alloc (Nat.le_refl _) (.cells #[.slice ae es.length ce, .slice (some ⟨bt, 0, none⟩) ns.length cn] 33)
  obtain ⟨Y, hY⟩ : ∃ Y, W.alloc (.cells #[.slice ae es.length ce, .slice (some ⟨bt, 0, none⟩) ns.length cn] 33) = Y := ⟨_, rfl⟩
  rw [hY] at hA hB1
  have HP := hid (progOk_at (cn := cn) (hE.below hB1) hel (Nat.lt_of_lt_of_le hbt hB1.size) (hN.below hB1 hbt) hl hSA)
  have HY := hid hY
  have HA := hid hA
  have HB1 := hid hB1
  have HE := hid hE
  have HN := hid (And.intro hbt hN)
  have HL := hid (And.intro hel hl)
  have HSA := hid hSA
  have e0 := cell_of_heap HA.out 0
  have e1 := cell_of_heap HA.out 1
  simp at e0 e1
  clear hE hel hbt hN hl hSA hA hB1 hY
  go_enter Tryz.func5, Tryz.ntmps5
  go_upto_region 1 with fail
  rw [HY.out]
  clear HY
  go_wp2_with fail
  refine HP.out.mono ?_
  rintro e X1 ⟨rfl, hb2⟩
  have HB2 := hid (HB1.out.trans (hb2.mono HB1.out.size))
  have HA2 := hid ((hb2.block W.heap.size (heap_lt HA.out)).trans HA.out)
  clear hb2 HP e0 e1
  have e0 := cell_of_heap HA2.out 0
  have e1 := cell_of_heap HA2.out 1
  simp at e0 e1
  cases hR : progZ es ns T with
  | false =>
    go_wp2_with fail
    go_ret2
    exact ⟨_, [], false, rfl, World.ownsRow_nil _ _ _ _, Nat.zero_le _, HB2.out, Or.inl ⟨rfl, rfl, fun T' h1 h2 => by rw [spec_ans_one h1 HSA.out, hR] at h2; cases h2⟩⟩
  | true =>
    have hT : T = true := by
      unfold progZ at hR
      simp only [Bool.and_eq_true] at hR
      exact hR.2.1
    subst hT
    have HR := hid hR
    clear hR
    obtain ⟨n, k, g1, g2, g3, hown⟩ : ∃ (n : Nd) (k : Fo), ns = n :: k.flat ∧ n.kids = k.count ∧ k.wf ∧ ns.all ownOk = true := by
      rcases HSA.out with ⟨-, h⟩ | ⟨-, -, -, h⟩ | ⟨-, -, n, k, e1, e2, e3, h⟩
      · cases h
      · cases h
      · have h' := h.symm
        simp only [Bool.and_eq_true] at h'
        exact ⟨n, k, e1, e2, e3, h'.1⟩
    have HG := hid (And.intro g1 (And.intro g2 g3))
    have HF := hid (specFree_calls (cap := cn) X1 HL.out.2 (Nat.lt_of_lt_of_le HN.out.1 HB2.out.size) (HN.out.2.below HB2.out HN.out.1) HSA.out hown g1 g2 g3)
    clear g1 g2 g3 hown
    go_wp2_with fail
    refine HF.out.mono ?_
    rintro e X2 ⟨u, rfl, hu, hb3⟩
    obtain ⟨au, cu, rfl⟩ := hu.slice
    have HB3 := hid (HB2.out.trans (hb3.mono HB2.out.size))
    have HA3 := hid ((hb3.block W.heap.size (heap_lt HA2.out)).trans HA2.out)
    obtain ⟨L, hL⟩ : ∃ L, (bys (freeOf (wholeW n k))).length = L := ⟨_, rfl⟩
    rw [hL]
    have HLn := hid hL
    clear hu hb3 HF e0 e1 hL
    by_cases hL0 : (0 : Int) < (L : Int)
    · go_wp2_with fail
      go_ret2
      exact ⟨_, [], false, rfl, World.ownsRow_nil _ _ _ _, Nat.zero_le _, HB3.out, Or.inl ⟨rfl, rfl, fun _ _ _ => ⟨n, k, HG.out.1, HG.out.2.1, HG.out.2.2, fun e => by have := HLn.out; rw [e] at this; simp [bys] at this; omega⟩⟩⟩
    · have HFr := hid (show freeOf (wholeW n k) = [] from List.eq_nil_of_length_eq_zero (by have := HLn.out; rw [bys_len] at this; omega))
      have e0 := cell_of_heap HA3.out 0
      have e1 := cell_of_heap HA3.out 1
      simp at e0 e1
      have hC := cm_start (W := X2) (.slice ae es.length ce) (.slice (some ⟨bt, 0, none⟩) ns.length cn)
      have hB4 := (Below.refl X2.heap.size X2).alloc (Nat.le_refl _) (.cells #[.slice ae es.length ce, .slice (some ⟨bt, 0, none⟩) ns.length cn, .slice none 0 0, .slice none 0 0] 48)
      obtain ⟨W0, hW0⟩ : ∃ W0, X2.alloc (.cells #[.slice ae es.length ce, .slice (some ⟨bt, 0, none⟩) ns.length cn, .slice none 0 0, .slice none 0 0] 48) = W0 := ⟨_, rfl⟩
      rw [hW0] at hC hB4
      have HW0 := hid hW0
      have HB4 := hid (HB3.out.trans (hB4.mono HB3.out.size))
      have hbt2 : bt < X2.heap.size := Nat.lt_of_lt_of_le HN.out.1 HB3.out.size
      have HX : Hid (Cx W0 X2.heap.size ae bt 0 es ns) := by
        refine ⟨Nat.lt_of_lt_of_le hbt2 hB4.size, by omega, HN.out.2.below HB4.out HN.out.1, HL.out.2, HL.out.1, fun he => ?_⟩
        rcases HE.out with ⟨-, h, -⟩ | ⟨be, h1, h2, h3, -⟩
        · exact absurd h he
        · have h4 : be < X2.heap.size := Nat.lt_of_lt_of_le h2 HB3.out.size
          exact ⟨be, 0, h1, Nat.lt_of_lt_of_le h4 hB4.size, by omega, h3.below HB4.out h2⟩
      have HPA := hid (part_all (ce := ce) (cap := cn) (K := 1000) HX.out (Nat.le_refl _) 400)
      have HS := hid (stands_of HSA.out HG.out.1 HG.out.2.1 HG.out.2.2)
      have HSz : Hid ((⟨n, k, 0⟩ : Tp).size ≤ 300) := by
        show _ ≤ _
        have := HL.out.2
        rw [HG.out.1, List.length_cons] at this
        exact this
      have S0 : Hid (CmE W0 X2.heap.size (.slice ae es.length ce) (.slice (some ⟨bt, 0, none⟩) ns.length cn) ⟨[], []⟩ W0) := ⟨_, _, _, hC⟩
      have HM : Hid (W.heap.size ≤ X2.heap.size) := HB3.out.size
      have HC0 := hid (HPA.out ⟨n, k, 0⟩ [] ⟨[], []⟩ (.slice none 0 0) W0 (by have := HSz.out; omega) HS.out (by have := HSz.out; simp; omega) (by have := HSz.out; simp [Cs.rest]; omega) S0.out (Or.inl ⟨rfl, rfl⟩))
      have R0 := hid (part_r (ns := ns) (K := 1000) (es := es) 400 ⟨n, k, 0⟩ [] ⟨[], []⟩ (by have := HSz.out; omega) HS.out (by have := HSz.out; simp; omega))
      obtain ⟨Mb, hMb⟩ : ∃ Mb, X2.heap.size = Mb := ⟨_, rfl⟩
      rw [hMb] at HX HPA S0 HM HC0
      clear hC hB4 hW0 hbt2 S0
      go_upto_region 4 with fail
      rw [HW0.out]
      try rw [hMb]
      clear HW0 e0 e1 hMb
      go_wp2_with fail
      refine HC0.out.mono ?_
      rintro e X4 ⟨⟨x4, rfl⟩, h4, -⟩
      obtain ⟨s4, hs4⟩ : ∃ x, partZ es 400 ⟨n, k, 0⟩ [] ⟨[], []⟩ = x := ⟨_, rfl⟩
      rw [hs4] at h4 R0
      have S4 := hid h4
      have HS4 := hid hs4
      clear h4 hs4 HC0
      have HR0 : Hid (s4.out.length + 10 * s4.rest ≤ 3000 ∧ s4.rest ≤ 299 ∧ LOk ns 1000 s4) := by
        have h1 := R0.out.cost
        have h2 := R0.out.rest
        have h3 := HSz.out
        have h4 : (⟨[], []⟩ : Cs).rest = 0 := rfl
        have h5 : (⟨[], []⟩ : Cs).out.length = 0 := rfl
        exact ⟨by omega, by omega, R0.out.ok (fun l hl => by cases hl)⟩
      go_wp2_with fail
      refine (putM_calls ⟨0, 0, 0, 0⟩ S4.out (by have := HR0.out.1; omega)).mono ?_
      rintro e X5 ⟨rfl, h5, -⟩
      obtain ⟨n5, hn5⟩ : ∃ m, s4.out.length = m := ⟨_, rfl⟩
      rw [hn5]
      have S5 := hid h5
      clear h5 hn5
      obtain ⟨FIN, hFIN⟩ : ∃ x, codeZ es n k = x := ⟨_, rfl⟩
      have HFIN : Hid ((restZ es 400 0 (s4.put ⟨0, 0, 0, 0⟩)).out = FIN) := by
        show _ = _
        rw [← hFIN, ← HS4.out]
        rfl
      have HFQ := hid hFIN
      clear hFIN
      go_wp2_with fail
      go_loopw [5] (fun i wr => ∃ (i' : Nat) (s : Cs), i = .int .i64 (i' : Int) ∧ Hid (CmE W0 Mb (.slice ae es.length ce) (.slice (some ⟨bt, 0, none⟩) ns.length cn) s wr ∧ LOk ns 1000 s ∧ s.out.length + 10 * s.rest + 3000 * pend s i' ≤ 900001 ∧ i' + pend s i' ≤ 300 ∧ i' ≤ s.later.length ∧ (restZ es (400 - i') i' s).out = FIN)) (fun i _ => 400 - (intOf i).toNat)
      case atStart =>
        refine ⟨0, _, rfl, S5.out, ?_, ?_, ?_, Nat.zero_le _, HFIN.out⟩
        · exact (Rs.put ns 1000 s4 ⟨0, 0, 0, 0⟩).ok HR0.out.2.2
        · have h1 := HR0.out
          have h2 : (s4.put ⟨0, 0, 0, 0⟩).rest = s4.rest := rfl
          have h3 : pend (s4.put ⟨0, 0, 0, 0⟩) 0 = s4.rest := rfl
          have h4 : (s4.put ⟨0, 0, 0, 0⟩).out.length = s4.out.length + 1 := by simp [Cs.put]
          omega
        · have h1 := HR0.out
          have h3 : pend (s4.put ⟨0, 0, 0, 0⟩) 0 = s4.rest := rfl
          omega
      case round =>
        obtain ⟨i', s, rfl, HI⟩ := hrel
        obtain ⟨ls, vo, vl, hcm⟩ := HI.out.1
        obtain ⟨adl, cpl, hvl⟩ := own_slice hcm.lrow
        subst hvl
        have hll : ls.length = s.later.length := by rw [← hcm.lfst, List.length_map]
        have d3 := cell_of_heap hcm.blk 3
        simp at d3
        by_cases hi : (i' : Int) < (ls.length : Int)
        · have hil : i' < s.later.length := by omega
          obtain ⟨gl, hgl⟩ : ∃ g, adl = some ⟨g, 0, none⟩ := by
            obtain ⟨-, ⟨-, h0⟩ | ⟨g, cap, cur, e, -⟩⟩ := hcm.lrow
            · omega
            · cases e
              exact ⟨g, rfl⟩
          subst hgl
          have hcs : ∀ c, c < 4 → wr.cell? ⟨gl, i' * 4 + c, none⟩ = some (ltV (ls.getD i' default) c) := fun c hc => by
            rw [hcm.lrow.cellAt (i' * 4 + c) (by omega), rowZ_get ltV 4 (by decide) ls _ (by omega)]
            rw [show (i' * 4 + c) / 4 = i' by omega, show (i' * 4 + c) % 4 = c by omega]
          have hmem : ls.getD i' default ∈ ls := getD_mem (by omega)
          have hls : s.later.getD i' default = (ls.getD i' default).1 := by
            rw [← hcm.lfst]
            simp [List.getD, show i' < ls.length by omega]
          obtain ⟨⟨l, v⟩, hlv⟩ : ∃ x, ls.getD i' default = x := ⟨_, rfl⟩
          rw [hlv] at hcs hmem hls
          have hnm := hcm.lnam _ hmem
          dsimp only at hls hnm
          obtain ⟨adv, cpv, rfl⟩ := hnm.is
          have b0 := hcs 0 (by omega)
          have b1 := hcs 1 (by omega)
          have b2 := hcs 2 (by omega)
          have b3 := hcs 3 (by omega)
          simp only [ltV, Nat.add_zero] at b0 b1 b2 b3
          have hlm : l ∈ s.later := by rw [← hls]; exact getD_mem hil
          obtain ⟨q1, q2, q3⟩ := HI.out.2.1 l hlm
          have HQ := hid (And.intro q1 (And.intro q2 q3))
          have hnx := next_r (es := es) hil HL.out.2 HI.out.2.1 HI.out.2.2.1 HI.out.2.2.2.1
          rw [hls] at hnx
          have HNx := hid hnx
          have hpn := pend_next hil
          rw [hls] at hpn
          have HPn := hid hpn
          have HFn : Hid ((restZ es (400 - (i' + 1)) (i' + 1) (nextZ es l s)).out = FIN) := by
            have h1 := HI.out.2.2.2.2.2
            rw [show 400 - i' = (400 - (i' + 1)) + 1 by have := HI.out.2.2.2.1; omega, restZ, if_pos hil] at h1
            dsimp only at h1
            have hd : s.later.getD i' ⟨default, [], 0, 0⟩ = l := hls
            rw [hd] at h1
            exact h1
          have hA5 := (MapKept.heap_alloc wr (.cells #[.int .i64 (l.t.at_ : Int), .slice adv l.names.length cpv, .int .i64 (l.fr : Int), .int .i64 (l.wh : Int)] 54)).1
          have hB5 := (Below.refl wr.heap.size wr).alloc (Nat.le_refl _) (.cells #[.int .i64 (l.t.at_ : Int), .slice adv l.names.length cpv, .int .i64 (l.fr : Int), .int .i64 (l.wh : Int)] 54)
          obtain ⟨V, hV⟩ : ∃ V, wr.alloc (.cells #[.int .i64 (l.t.at_ : Int), .slice adv l.names.length cpv, .int .i64 (l.fr : Int), .int .i64 (l.wh : Int)] 54) = V := ⟨_, rfl⟩
          rw [hV] at hA5 hB5
          have HV := hid hV
          have HA5 := hid hA5
          have V0 := hid (HI.out.1.below hB5)
          have VN := hid (hnm.frame (Cf.of_below hB5))
          have hi0 : (0 : Int) ≤ (i' : Int) := by omega
          have hstep : 400 - (intOf (.int .i64 ((i' + 1 : Nat) : Int))).toNat < 400 - (intOf (.int .i64 (i' : Int))).toNat := by
            have := HI.out.2.2.2.1
            simp only [intOf, Int.toNat_natCast]
            omega
          clear hcm hll hil hcs hmem hls hlv hnm hlm q1 q2 q3 hnx hpn hA5 hB5 hV
          go_upto_region 10 with fail
          rw [HV.out]
          clear HV b0 b1 b2 b3 d3
          have x2 := cell_of_heap HA5.out 2
          have x3 := cell_of_heap HA5.out 3
          simp at x2 x3
          go_wp2_with fail
          refine (lead2_calls l.fr l.wh V0.out (by have := HI.out.2.2.1; omega) HQ.out.2.2 (by have := HQ.out.2.1.2; omega)).mono ?_
          rintro e E1 ⟨⟨⟨y1, rfl⟩, h1, f1⟩, l1⟩
          have E1S := hid h1
          have E1N := hid (VN.out.frame f1)
          have E1A := hid ((l1 _ _ HA5.out).trans HA5.out)
          clear h1 f1 l1 x2 x3
          have y0 := cell_of_heap E1A.out 0
          have y1 := cell_of_heap E1A.out 1
          simp at y0 y1
          go_wp2_with fail
          refine (HPA.out l.t l.names _ _ _ (by have := HQ.out.1.lt.2.2; have := HL.out.2; omega) HQ.out.1 HQ.out.2.1.1 (by have h1 := HI.out.2.2.1; have h2 := HQ.out.1.lt.2.2; have h3 := HL.out.2; have h4 : (s.lead l.fr l.wh).out.length = s.out.length := lead_len _ _ _; have h5 : (s.lead l.fr l.wh).rest = s.rest := rfl; omega) E1S.out E1N.out).mono ?_
          rintro e E2 ⟨⟨z2, rfl⟩, h2, -⟩
          have E2S := hid h2
          clear h2 y0 y1
          have HOut : Hid ((partZ es 400 l.t l.names (s.lead l.fr l.wh)).out.length ≤ 950000) := by
            show _ ≤ _
            have h1 := HNx.out.2.1
            have h2 : (nextZ es l s).out.length = (partZ es 400 l.t l.names (s.lead l.fr l.wh)).out.length + 1 := by simp [nextZ, Cs.put]
            omega
          go_wp2_with fail
          refine (putM_calls ⟨9, 0, 0, 0⟩ E2S.out (by have := HOut.out; omega)).mono ?_
          rintro e E3 ⟨rfl, h3, -⟩
          obtain ⟨m3, hm3⟩ : ∃ m, (partZ es 400 l.t l.names (s.lead l.fr l.wh)).out.length = m := ⟨_, rfl⟩
          rw [hm3]
          have E3S : Hid (CmE W0 Mb (.slice ae es.length ce) (.slice (some ⟨bt, 0, none⟩) ns.length cn) (nextZ es l s) E3) := h3
          clear h3 hm3
          have hi9 : Hid (i' ≤ 1000) := by show _ ≤ _; have := HI.out.2.2.2.1; omega
          go_wp2_with fail
          try rw [wrap_succ (by have := hi9.out; omega)]
          exact ⟨⟨i' + 1, nextZ es l s, rfl, E3S.out, HNx.out.1, HNx.out.2.1, HNx.out.2.2.1, HNx.out.2.2.2, HFn.out⟩, hstep⟩
        · have hie : ¬ i' < s.later.length := by omega
          have HFn : Hid (s.out = FIN) := by
            have h1 := HI.out.2.2.2.2.2
            rw [show 400 - i' = (399 - i') + 1 by have := HI.out.2.2.2.1; omega, restZ, if_neg hie] at h1
            exact h1
          obtain ⟨ado, cpo, hvo⟩ := own_slice hcm.orow
          subst hvo
          have d2 := cell_of_heap hcm.blk 2
          simp at d2
          have HCm := hid hcm
          clear hcm hll
          go_wp2_with fail
          go_ret2
          exact ⟨_, s.out, true, rfl, own_base HCm.out.orow HB4.out.size, by have := HI.out.2.2.1; omega, cm_below HCm.out HB4.out HM.out, Or.inr ⟨rfl, n, k, ⟨true, HSA.out, HR.out⟩, HG.out.1, HG.out.2.1, HG.out.2.2, HFr.out, by rw [HFn.out, HFQ.out]⟩⟩

theorem compile_calls {W : World} {ae : Option Addr} {ce bt cn : Nat} {es : List Ef} {ns : List Nd} (hE : EffW W ae ce es) (hel : es.length ≤ 1000) (hbt : bt < W.heap.size) (hN : NodesAt W bt 0 ns) (hl : ns.length ≤ 300) :
    Calls Tryz.prog 5 #[.agg #[.slice ae es.length ce, .slice (some ⟨bt, 0, none⟩) ns.length cn]] W (CompPost es ns W) := by
  refine (compile_callsR hE hel hbt hN hl).mono ?_
  rintro e W' ⟨v, cs, x, h1, h2, h3, h4, h5⟩
  refine ⟨v, cs, x, h1, h2, h3, h4, fun hx => ?_, fun hx => ?_⟩
  · rcases h5 with ⟨-, h, -⟩ | ⟨h, -⟩
    · exact h
    · rw [hx] at h; cases h
  · rcases h5 with ⟨h, -⟩ | ⟨-, n, k, -, g1, g2, g3, -, g4⟩
    · rw [hx] at h; cases h
    · exact ⟨n, k, g1, g2, g3, g4⟩
end Go.Proofs.YtgiejnmphfgmgaaGreatDoor

/- The program's maker of code: every kind of form. -/
namespace Go.Proofs.YtgiejnmphfgmgaaGreatDoor
open Go.RowKit Go.Deep

theorem part_plain {es : List Ef} {f : Nat} {t : Tp} {ss : List ByteArray} {s : Cs} (hs : Good t) (h5 : t.n.kind ≠ 5) (h6 : t.n.kind ≠ 6) (h8 : t.n.kind ≠ 8) (h9 : t.n.kind ≠ 9) (h10 : t.n.kind ≠ 10) (h20 : t.n.kind ≠ 20) (h23 : t.n.kind < 23) : partZ es (f + 1) t ss s = (t.kids.foldl (fun s c => partZ es f c ss s) s).put (plainZ es t.n) := by
  have hk0 : ∀ k : Int, t.n.kind = k → arityZ k = ((0 : Nat) : Int) → t.kids = [] := fun k e ha => List.eq_nil_of_length_eq_zero (by rw [t.kids_len]; exact count_of hs e ha)
  by_cases h1 : t.n.kind = 1
  · rw [part1 h1, hk0 1 h1 rfl]
    simp [plainZ, h1]
  by_cases h2 : t.n.kind = 2
  · rw [part2 h2, hk0 2 h2 rfl]
    simp [plainZ, h2]
  by_cases h3 : t.n.kind = 3
  · rw [part3 h3, hk0 3 h3 rfl]
    simp [plainZ, h3]
  by_cases h4 : t.n.kind = 4
  · rw [part4 h4, hk0 4 h4 rfl]
    simp [plainZ, h4]
  rw [partK h1 h2 h3 h4 h5 h6 h8 h9 h10 h20 (by omega) (by omega)]
  simp [plainZ, h1, h2, h3, h4]

section
variable {B : Nat} {W0 : World} {Mb : Nat} {ae : Option Addr} {ce : Nat} {es : List Ef} {ns : List Nd} {K F : Nat}

set_option maxHeartbeats 2000000 in
set_option maxRecDepth 100000 in
theorem put_k (ex : Ex W0 Mb ae es) (ih : PutC B W0 Mb (.slice ae es.length ce) es ns K F) {t : Tp} {fv : Value} {kn : Option Addr} {ss : List ByteArray} {s : Cs} {W : World} (hF : t.size ≤ F + 1) (hs : Stands ns t) (hb : BdT t ss) (hK : ss.length + 2 * t.size ≤ K) (hB : s.out.length + 10 * s.rest + 10 * t.size ≤ 950000) (hf : FormK B W0 t fv) (h : KmE B W0 Mb (.slice ae es.length ce) s W) (hk : KnAt W kn ss.reverse) (h5 : t.n.kind ≠ 5) (h6 : t.n.kind ≠ 6) (h8 : t.n.kind ≠ 8) (h9 : t.n.kind ≠ 9) (h10 : t.n.kind ≠ 10) (h20 : t.n.kind ≠ 20) (h23 : t.n.kind < 23) :
    Calls Tryz.prog 24 #[.pointer (some ⟨Mb, 0, none⟩), fv, .pointer kn] W (SetP B W0 Mb (.slice ae es.length ce) (partZ es (F + 1) t ss s) W) := by
  rw [part_plain hs.toGood h5 h6 h8 h9 h10 h20 h23]
  obtain ⟨us, hsh, hul, hif, hfk⟩ := hf.open
  have hP := plain_of hsh hif h5 h6 h8 h9 h10 h20 h23
  have HC := hid (putPlain_calls ex ih hF hs hb hK hB hP hul hif hfk (by omega) (fun i => by unfold knownZ; rw [if_neg (by omega), if_neg (by omega), if_neg (by omega), if_neg (by omega)]) h hk)
  obtain ⟨T, pv, rfl, hT, -, -⟩ := hP
  have t1 := miss_var hT.1 pv
  have t2 := miss_fn hT.2.1 pv
  have t3 := miss_rec hT.2.2.1 pv
  have t4 := miss_let hT.2.2.2.1 pv
  have t5 := miss_if hT.2.2.2.2.1 pv
  have t6 := miss_case hT.2.2.2.2.2.1 pv
  have t7 := miss_hand hT.2.2.2.2.2.2 pv
  clear hF hs hb hK hB h hk hsh hul hif hfk ih ex hT h5 h6 h8 h9 h10 h20 h23
  go_enter Tryz.func24, Tryz.ntmps24
  go_wp2_with fail
  refine HC.out.mono ?_
  rintro e X ⟨⟨x, rfl⟩, h1, f1⟩
  have S1 := hid (And.intro h1 f1)
  clear h1 f1 HC t1 t2 t3 t4 t5 t6 t7
  go_wp2_with fail
  go_end0
  exact ⟨⟨_, rfl⟩, S1.out.1, S1.out.2⟩

set_option maxHeartbeats 2000000 in
set_option maxRecDepth 100000 in
theorem put_h (ex : Ex W0 Mb ae es) (ih : PutC B W0 Mb (.slice ae es.length ce) es ns K F) (hk1 : K ≤ 1000) (hMB : Mb < B) {t : Tp} {fv : Value} {kn : Option Addr} {ss : List ByteArray} {s : Cs} {W : World} (hF : t.size ≤ F + 1) (hs : Stands ns t) (hb : BdT t ss) (hK : ss.length + 2 * t.size ≤ K) (hB : s.out.length + 10 * s.rest + 10 * t.size ≤ 950000) (hf : FormK B W0 t fv) (h : KmE B W0 Mb (.slice ae es.length ce) s W) (hk : KnAt W kn ss.reverse) (ek : t.n.kind = 23 ∨ t.n.kind = 24) :
    Calls Tryz.prog 24 #[.pointer (some ⟨Mb, 0, none⟩), fv, .pointer kn] W (SetP B W0 Mb (.slice ae es.length ce) (partZ es (F + 1) t ss s) W) := by
  rw [partH ek]
  obtain ⟨us, hsh, hul, hif, hfk⟩ := hf.open
  obtain ⟨u, us', sl, rfl, rfl, hrow, h5⟩ := shapeH hsh ek
  have h2 := ((arity_at hs.toGood).2.1 (by rcases ek with e | e <;> rw [e] <;> rfl)).1
  have f0 := hfk 0 (by omega)
  simp only [List.getD_cons_zero] at f0
  obtain ⟨Tu, pu, rfl⟩ := hif u (by simp)
  have hr2 := hrow
  obtain ⟨g, ro, cap, hsl, -⟩ := hr2
  obtain ⟨kd, hkd⟩ : ∃ k, t.n.kind = k := ⟨_, rfl⟩
  obtain ⟨L, hL⟩ : ∃ L, us'.length = L := ⟨_, rfl⟩
  rw [hL] at hsl
  subst hsl
  rw [hkd]
  have bl := (Below.refl W.heap.size W).alloc (Nat.le_refl _) (.cells #[.int .i64 kd, .iface Tu pu, .slice (some ⟨g, ro, none⟩) L cap] 124)
  have hA := (MapKept.heap_alloc W (.cells #[.int .i64 kd, .iface Tu pu, .slice (some ⟨g, ro, none⟩) L cap] 124)).1
  obtain ⟨Y, hY⟩ : ∃ Y, W.alloc (.cells #[.int .i64 kd, .iface Tu pu, .slice (some ⟨g, ro, none⟩) L cap] 124) = Y := ⟨_, rfl⟩
  rw [hY] at bl hA
  have HY := hid hY
  have HA1 := hid hA
  have S1 := hid (h.below bl)
  have F1 := hid (Kf.of_below bl)
  have KA1 := hid (KnAt.frame (Kf.of_below bl) _ _ hk)
  have t1 := miss_var (T := 124) (by decide) (.agg #[.int .i64 kd, .iface Tu pu, .slice (some ⟨g, ro, none⟩) L cap])
  have t2 := miss_fn (T := 124) (by decide) (.agg #[.int .i64 kd, .iface Tu pu, .slice (some ⟨g, ro, none⟩) L cap])
  have t3 := miss_rec (T := 124) (by decide) (.agg #[.int .i64 kd, .iface Tu pu, .slice (some ⟨g, ro, none⟩) L cap])
  have t4 := miss_let (T := 124) (by decide) (.agg #[.int .i64 kd, .iface Tu pu, .slice (some ⟨g, ro, none⟩) L cap])
  have t5 := miss_if (T := 124) (by decide) (.agg #[.int .i64 kd, .iface Tu pu, .slice (some ⟨g, ro, none⟩) L cap])
  have t6 := miss_case (T := 124) (by decide) (.agg #[.int .i64 kd, .iface Tu pu, .slice (some ⟨g, ro, none⟩) L cap])
  have t7 := hit_hand (.agg #[.int .i64 kd, .iface Tu pu, .slice (some ⟨g, ro, none⟩) L cap])
  have hpc := putHandler_calls ex ih hk1 hMB ek hF hs hb hK hB f0 hrow (by rw [← hul]; simp) h2 (fun x hx => hif x (by simp [hx])) (fun i hi => by have := hfk (i + 1) (by rw [← hul]; simp; omega); simpa using this) S1.out KA1.out
  rw [hkd] at hpc
  have HP := hid hpc
  have d0 := cell_of_heap HA1.out 0
  have d1 := cell_of_heap HA1.out 1
  have d2 := cell_of_heap HA1.out 2
  simp at d0 d1 d2
  clear hpc hF hs hb hK hB h hk hsh hul hif hfk h2 h5 f0 hrow bl hA hY ek ih ex hMB hk1 S1 KA1 HA1 hkd hL
  go_enter Tryz.func24, Tryz.ntmps24
  go_upto_region 27 with fail
  rw [HY.out]
  clear HY t1 t2 t3 t4 t5 t6 t7
  go_wp2_with fail
  refine HP.out.mono ?_
  rintro e X2 ⟨⟨x2, rfl⟩, h2, f2⟩
  have S2 := hid (And.intro h2 (F1.out.trans f2))
  clear h2 f2 d0 d1 d2 HP
  go_wp2_with fail
  go_end0
  exact ⟨⟨_, rfl⟩, S2.out.1, S2.out.2⟩

/-- The making of every part. -/
theorem put_all (ex : Ex W0 Mb ae es) (hk1 : K ≤ 1000) (hMB : Mb < B) : ∀ F, PutC B W0 Mb (.slice ae es.length ce) es ns K F := by
  intro F
  induction F with
  | zero => intro t fv kn ss s W hF; have := t.size_pos; omega
  | succ F ih =>
    intro t fv kn ss s W hF hs hb hK hB hf h hk
    by_cases h5 : t.n.kind = 5
    · exact put_5 hk1 hb hK hB hf h hk h5
    by_cases h6 : t.n.kind = 6
    · exact put_6 hk1 hs hb hK hB hf h hk h6
    by_cases h8 : t.n.kind = 8
    · exact put_8 ih hk1 hF hs hb hK hB hf h hk h8
    by_cases h9 : t.n.kind = 9
    · exact put_9 ih hk1 hF hs hb hK hB hf h hk h9
    by_cases h10 : t.n.kind = 10
    · exact put_10 ih hk1 hF hs hb hK hB hf h hk h10
    by_cases h20 : t.n.kind = 20
    · exact put_20 ih hk1 hF hs hb hK hB hf h hk h20
    by_cases h23 : t.n.kind = 23 ∨ t.n.kind = 24
    · exact put_h ex ih hk1 hMB hF hs hb hK hB hf h hk h23
    · have har := (arity_at hs.toGood).1
      have hlt : t.n.kind ≤ 26 := by
        rcases Int.lt_or_le 26 t.n.kind with hc | hc
        · exact absurd (tab_other (Or.inr hc)) har
        · exact hc
      have := hb.1.2
      exact put_k ex ih hF hs hb hK hB hf h hk h5 h6 h8 h9 h10 h20 (by omega)

/-- What is put off is made. -/
theorem late_named {W : World} {l : Lt} {v : Value} (h : LateK B W0 W Mb l v) : BdT l.t l.names := by
  obtain ⟨p4, p5, p6, p7, fv, kn, tv, e, h4, h5, h6, h7, h8, -⟩ := h
  exact h8.2

set_option maxHeartbeats 4000000 in
set_option maxRecDepth 100000 in
theorem late_calls (ih : PutC B W0 Mb (.slice ae es.length ce) es ns K 400) {l : Lt} {p4 p5 p6 p7 : Nat} {s : Cs} {W : World} (hl : LateK B W0 W Mb l (.func (.func 94) #[] #[.pointer (some ⟨p7, 0, none⟩), .pointer (some ⟨p4, 0, none⟩), .pointer (some ⟨p5, 0, none⟩), .pointer (some ⟨p6, 0, none⟩)])) (hsz : l.t.size ≤ 400) (hs : Stands ns l.t) (hK : l.names.length + 2 * l.t.size ≤ K) (hB : s.out.length + 10 * s.rest + 10 * l.t.size ≤ 950000) (hfr : l.fr < s.out.length) (h : KmE B W0 Mb (.slice ae es.length ce) s W) :
    Calls Tryz.prog 94 #[.pointer (some ⟨p7, 0, none⟩), .pointer (some ⟨p4, 0, none⟩), .pointer (some ⟨p5, 0, none⟩), .pointer (some ⟨p6, 0, none⟩)] W (SetP B W0 Mb (.slice ae es.length ce) (nextZ es l s) W) := by
  obtain ⟨q4, q5, q6, q7, fv, kn, tv, e, h4, h5, h6, h7, ⟨h8, h8b⟩, h9, h10⟩ := hl
  cases e
  obtain ⟨us, hus, hsh⟩ := h8
  obtain ⟨tyv, pv, rfl⟩ := hsh.iface
  have HF := hid (show FormK B W0 l.t (.iface tyv pv) from ⟨us, hus, hsh⟩)
  obtain ⟨q2, q3, f, rfl, g2, g3, g4⟩ := h10
  have HT : Hid (∀ (X : World) (v : Int), KmE B W0 Mb (.slice ae es.length ce) s X → X.heap[q2]? = some (.cells #[.pointer (some ⟨Mb, 0, none⟩)] 58) → X.heap[q3]? = some (.cells #[.int .i64 (l.fr : Int)] 3) → Calls Tryz.prog f #[.int .i64 v, .pointer (some ⟨q2, 0, none⟩), .pointer (some ⟨q3, 0, none⟩)] X (SetP B W0 Mb (.slice ae es.length ce) (s.setAt l.fr l.wh v) X)) := fun X v hx hx2 hx3 => by
    rcases g4 with ⟨e1, e2⟩ | ⟨e1, e2⟩
    · rw [e1, e2]; exact tellA_calls v hx hx2 hx3 hfr
    · rw [e1, e2]; exact tellB_calls v hx hx2 hx3 hfr
  have HG4 := hid g4
  have H0 := hid (And.intro hsz (And.intro hs (And.intro h8b (And.intro hK hB))))
  have HR := hid (part_r (es := es) (K := K) 400 l.t l.names (s.lead l.fr l.wh) hsz hs hK)
  have HIH := hid ih
  have bd : Below W.heap.size W W.drew := (Below.refl _ _).drew
  have S1 := hid (h.below bd)
  have A4 := hid (show W.drew.heap[p4]? = _ from h4)
  have A5 := hid (show W.drew.heap[p5]? = _ from h5)
  have A6 := hid (show W.drew.heap[p6]? = _ from h6)
  have A7 := hid (show W.drew.heap[p7]? = _ from h7)
  have G2 := hid (show W.drew.heap[q2]? = _ from g2)
  have G3 := hid (show W.drew.heap[q3]? = _ from g3)
  have K1 := hid (KnAt.frame (Kf.of_below bd) _ _ h9)
  have F1 := hid (Kf.of_below bd)
  obtain ⟨ad, cp, hlen⟩ := km_len S1.out
  clear hus hsh h4 h5 h6 h7 h8b h9 g2 g3 g4 hsz hs hK hB hfr h ih bd
  go_enter Tryz.func94, Tryz.ntmps94
  obtain ⟨L, hL⟩ : ∃ x : Nat, s.out.length = x := ⟨_, rfl⟩
  rw [hL] at hlen
  have HLe := hid hL
  clear hL
  have hG : (l.wh = 0 ∧ f = 96) ∨ (l.wh = 1 ∧ f = 123) := HG4.out
  rcases hG with ⟨-, rfl⟩ | ⟨-, rfl⟩
  · go_upto_region 0 with fail
    refine pick_begin (S := fun w => w.cell? ⟨p7, 0, none⟩ = some (.func (.func 96) #[] #[.pointer (some ⟨q2, 0, none⟩), .pointer (some ⟨q3, 0, none⟩)]) ∧ w.cell? ⟨p4, 0, none⟩ = some (.pointer (some ⟨Mb, 0, none⟩))) (n := 7) (ls := #[false, false, false, false, false, false, false]) (by kernel_rfl) rfl (by kernel_rfl) ?_
    generalize W.drew = X at *
    have hS := And.intro (cell_of_heap A7.out 0) (cell_of_heap A4.out 0)
    refine pick_op (i := 0) (v := .func (.func 96) #[] #[.pointer (some ⟨q2, 0, none⟩), .pointer (some ⟨q3, 0, none⟩)]) (by kernel_rfl) rfl (by kernel_rfl) (by kernel_rfl) rfl rfl (fun w' hw => by simp [go_sem, hw.1]) hS (by simp [go_sem]; exact rfl) ?_
    refine pick_op (i := 1) (v := .pointer (some ⟨Mb, 0, none⟩)) (by kernel_rfl) rfl (by kernel_rfl) (by kernel_rfl) rfl rfl (fun w' hw => by simp [go_sem, hw.2]) hS (by simp [go_sem]; exact rfl) ?_
    refine pick_op (i := 2) (v := .pointer (some ⟨Mb, 0, none⟩)) (by kernel_rfl) rfl (by kernel_rfl) (by kernel_rfl) rfl rfl (fun w' hw => by simp [go_sem]) hS (by simp [go_sem]; exact rfl) ?_
    refine pick_op (i := 3) (v := .pointer (some ⟨Mb, 1, none⟩)) (by kernel_rfl) rfl (by kernel_rfl) (by kernel_rfl) rfl rfl (fun w' hw => by simp [go_sem]) hS (by simp [go_sem]; exact rfl) ?_
    refine pick_make (i := 4) (v := .slice ad L cp) (w1 := X) rfl (by kernel_rfl) rfl rfl (by simp [go_sem, hlen]) hS (by simp [go_sem]; exact rfl) ?_
    refine pick_op (i := 5) (v := .int .i64 (L : Int)) (by kernel_rfl) rfl (by kernel_rfl) (by kernel_rfl) rfl rfl (fun w' hw => by simp [go_sem]) hS (by simp [go_sem]; exact rfl) ?_
    refine pick_enter (i := 6) (f := 96) (args := #[.int .i64 (L : Int), .pointer (some ⟨q2, 0, none⟩), .pointer (some ⟨q3, 0, none⟩)]) rfl (by kernel_rfl) rfl rfl (by simp [go_sem]) ?_
    refine (HT.out X (L : Int) S1.out G2.out G3.out).mono ?_
    rintro e X2 ⟨⟨x2, rfl⟩, h2, f2⟩
    rw [← HLe.out, setAt_lead] at h2
    have S2 := hid h2
    have F2 := hid (F1.out.trans f2)
    have A42 := hid (f2.keep A4.out (by decide) (by decide) (by decide))
    have A52 := hid (f2.keep A5.out (by decide) (by decide) (by decide))
    have A62 := hid (f2.keep A6.out (by decide) (by decide) (by decide))
    have A72 := hid (f2.keep A7.out (by decide) (by decide) (by decide))
    have K2 := hid (KnAt.frame f2 _ _ K1.out)
    refine ⟨_, rfl, ⟨cell_of_heap A72.out 0, cell_of_heap A42.out 0⟩, ?_⟩
    refine pick_frame (by simp [go_sem]; exact rfl) ?_
    refine pick_end (by kernel_rfl) ?_
    clear h2 f2 hS hlen HT A4 A5 A6 A7 G2 G3 K1 F1 S1
    have c4 := cell_of_heap A42.out 0
    have c5 := cell_of_heap A52.out 0
    have c6 := cell_of_heap A62.out 0
    simp at c4 c5 c6
    go_wp2_with fail
    clear c4 c5 c6
    refine (HIH.out l.t _ kn l.names _ X2 H0.out.1 H0.out.2.1 H0.out.2.2.1 H0.out.2.2.2.1 (by have h5 := H0.out.2.2.2.2; have h6 : (s.lead l.fr l.wh).rest = s.rest := rfl; rw [lead_len, h6]; exact h5) HF.out S2.out K2.out).mono ?_
    rintro e X3 ⟨⟨x3, rfl⟩, h3, f3⟩
    have S3 := hid h3
    have F3 := hid (F2.out.trans f3)
    have A43 := hid (f3.keep A42.out (by decide) (by decide) (by decide))
    clear h3 f3 S2 F2 A42 A52 A62 A72 K2
    have c4 := cell_of_heap A43.out 0
    simp at c4
    go_wp2_with fail
    clear c4
    refine (addI_calls ⟨9, 0, 0, 0⟩ S3.out (by have h1 := HR.out.cost; have h5 := H0.out.2.2.2.2; have h6 : (s.lead l.fr l.wh).rest = s.rest := rfl; rw [lead_len, h6] at h1; omega)).mono ?_
    rintro e X4 ⟨rfl, h4, f4⟩
    have S4 := hid (And.intro h4 (F3.out.trans f4))
    obtain ⟨m4, hm4⟩ : ∃ m : Int, ((partZ es 400 l.t l.names (s.lead l.fr l.wh)).out.length : Int) = m := ⟨_, rfl⟩
    rw [hm4]
    clear h4 f4 hm4
    go_wp2_with fail
    go_end0
    exact ⟨⟨_, rfl⟩, S4.out.1, S4.out.2⟩
  · go_upto_region 0 with fail
    refine pick_begin (S := fun w => w.cell? ⟨p7, 0, none⟩ = some (.func (.func 123) #[] #[.pointer (some ⟨q2, 0, none⟩), .pointer (some ⟨q3, 0, none⟩)]) ∧ w.cell? ⟨p4, 0, none⟩ = some (.pointer (some ⟨Mb, 0, none⟩))) (n := 7) (ls := #[false, false, false, false, false, false, false]) (by kernel_rfl) rfl (by kernel_rfl) ?_
    generalize W.drew = X at *
    have hS := And.intro (cell_of_heap A7.out 0) (cell_of_heap A4.out 0)
    refine pick_op (i := 0) (v := .func (.func 123) #[] #[.pointer (some ⟨q2, 0, none⟩), .pointer (some ⟨q3, 0, none⟩)]) (by kernel_rfl) rfl (by kernel_rfl) (by kernel_rfl) rfl rfl (fun w' hw => by simp [go_sem, hw.1]) hS (by simp [go_sem]; exact rfl) ?_
    refine pick_op (i := 1) (v := .pointer (some ⟨Mb, 0, none⟩)) (by kernel_rfl) rfl (by kernel_rfl) (by kernel_rfl) rfl rfl (fun w' hw => by simp [go_sem, hw.2]) hS (by simp [go_sem]; exact rfl) ?_
    refine pick_op (i := 2) (v := .pointer (some ⟨Mb, 0, none⟩)) (by kernel_rfl) rfl (by kernel_rfl) (by kernel_rfl) rfl rfl (fun w' hw => by simp [go_sem]) hS (by simp [go_sem]; exact rfl) ?_
    refine pick_op (i := 3) (v := .pointer (some ⟨Mb, 1, none⟩)) (by kernel_rfl) rfl (by kernel_rfl) (by kernel_rfl) rfl rfl (fun w' hw => by simp [go_sem]) hS (by simp [go_sem]; exact rfl) ?_
    refine pick_make (i := 4) (v := .slice ad L cp) (w1 := X) rfl (by kernel_rfl) rfl rfl (by simp [go_sem, hlen]) hS (by simp [go_sem]; exact rfl) ?_
    refine pick_op (i := 5) (v := .int .i64 (L : Int)) (by kernel_rfl) rfl (by kernel_rfl) (by kernel_rfl) rfl rfl (fun w' hw => by simp [go_sem]) hS (by simp [go_sem]; exact rfl) ?_
    refine pick_enter (i := 6) (f := 123) (args := #[.int .i64 (L : Int), .pointer (some ⟨q2, 0, none⟩), .pointer (some ⟨q3, 0, none⟩)]) rfl (by kernel_rfl) rfl rfl (by simp [go_sem]) ?_
    refine (HT.out X (L : Int) S1.out G2.out G3.out).mono ?_
    rintro e X2 ⟨⟨x2, rfl⟩, h2, f2⟩
    rw [← HLe.out, setAt_lead] at h2
    have S2 := hid h2
    have F2 := hid (F1.out.trans f2)
    have A42 := hid (f2.keep A4.out (by decide) (by decide) (by decide))
    have A52 := hid (f2.keep A5.out (by decide) (by decide) (by decide))
    have A62 := hid (f2.keep A6.out (by decide) (by decide) (by decide))
    have A72 := hid (f2.keep A7.out (by decide) (by decide) (by decide))
    have K2 := hid (KnAt.frame f2 _ _ K1.out)
    refine ⟨_, rfl, ⟨cell_of_heap A72.out 0, cell_of_heap A42.out 0⟩, ?_⟩
    refine pick_frame (by simp [go_sem]; exact rfl) ?_
    refine pick_end (by kernel_rfl) ?_
    clear h2 f2 hS hlen HT A4 A5 A6 A7 G2 G3 K1 F1 S1
    have c4 := cell_of_heap A42.out 0
    have c5 := cell_of_heap A52.out 0
    have c6 := cell_of_heap A62.out 0
    simp at c4 c5 c6
    go_wp2_with fail
    clear c4 c5 c6
    refine (HIH.out l.t _ kn l.names _ X2 H0.out.1 H0.out.2.1 H0.out.2.2.1 H0.out.2.2.2.1 (by have h5 := H0.out.2.2.2.2; have h6 : (s.lead l.fr l.wh).rest = s.rest := rfl; rw [lead_len, h6]; exact h5) HF.out S2.out K2.out).mono ?_
    rintro e X3 ⟨⟨x3, rfl⟩, h3, f3⟩
    have S3 := hid h3
    have F3 := hid (F2.out.trans f3)
    have A43 := hid (f3.keep A42.out (by decide) (by decide) (by decide))
    clear h3 f3 S2 F2 A42 A52 A62 A72 K2
    have c4 := cell_of_heap A43.out 0
    simp at c4
    go_wp2_with fail
    clear c4
    refine (addI_calls ⟨9, 0, 0, 0⟩ S3.out (by have h1 := HR.out.cost; have h5 := H0.out.2.2.2.2; have h6 : (s.lead l.fr l.wh).rest = s.rest := rfl; rw [lead_len, h6] at h1; omega)).mono ?_
    rintro e X4 ⟨rfl, h4, f4⟩
    have S4 := hid (And.intro h4 (F3.out.trans f4))
    obtain ⟨m4, hm4⟩ : ∃ m : Int, ((partZ es 400 l.t l.names (s.lead l.fr l.wh)).out.length : Int) = m := ⟨_, rfl⟩
    rw [hm4]
    clear h4 f4 hm4
    go_wp2_with fail
    go_end0
    exact ⟨⟨_, rfl⟩, S4.out.1, S4.out.2⟩
end
end Go.Proofs.YtgiejnmphfgmgaaGreatDoor

/- Whether a program may be, as the program asks it. -/
namespace Go.Proofs.YtgiejnmphfgmgaaGreatDoor
open Go.RowKit Go.Deep

set_option maxHeartbeats 8000000 in
set_option maxRecDepth 100000 in
theorem implProg_calls (be bt : Nat) (es : List Ef) (ns : List Nd) (T : Bool) (w : World) (hbe : be < w.heap.size) (hbt : bt < w.heap.size) (hE : EffsAt w be 0 es) (hN : NodesAt w bt 0 ns) (me : es.length ≤ 1048576) (mn : ns.length ≤ 1048576) (hsh : ∀ e ∈ es, e.name.size ≤ maxLen) (hTT : ∀ w' : World, bt < w'.heap.size → NodesAt w' bt 0 ns → Calls Tryz.prog 47 #[.slice (some ⟨bt, 0, none⟩) ns.length ns.length] w' fun e w'' => e = .returned (.bool T) ∧ Below w'.heap.size w' w'') :
    Calls Tryz.prog 22 #[.agg #[.slice (some ⟨be, 0, none⟩) es.length es.length, .slice (some ⟨bt, 0, none⟩) ns.length ns.length]] w fun e w' => e = .returned (.bool (progZ es ns T)) ∧ Below w.heap.size w w' := by
  have hb1 : Below w.heap.size w (w.alloc (.cells #[.slice (some ⟨be, 0, none⟩) es.length es.length, .slice (some ⟨bt, 0, none⟩) ns.length ns.length] 33)) := (Below.refl _ _).alloc (Nat.le_refl _) _
  have HT : Hid (Calls _ _ _ _ _) := hTT (w.alloc (.cells #[.slice (some ⟨be, 0, none⟩) es.length es.length, .slice (some ⟨bt, 0, none⟩) ns.length ns.length] 33)) (Nat.lt_of_lt_of_le hbt hb1.size) (hN.below hb1 hbt)
  have HB1 : Hid (Below w.heap.size w (w.alloc (.cells #[.slice (some ⟨be, 0, none⟩) es.length es.length, .slice (some ⟨bt, 0, none⟩) ns.length ns.length] 33))) := hb1
  have HK1 : Hid ((w.alloc (.cells #[.slice (some ⟨be, 0, none⟩) es.length es.length, .slice (some ⟨bt, 0, none⟩) ns.length ns.length] 33)).heap[w.heap.size]? = some (.cells #[.slice (some ⟨be, 0, none⟩) es.length es.length, .slice (some ⟨bt, 0, none⟩) ns.length ns.length] 33)) := (MapKept.heap_alloc w _).1
  obtain ⟨R, hR⟩ : ∃ R, progZ es ns T = R := ⟨_, rfl⟩
  have HR : Hid (progZ es ns T = R) := hR
  have HE : Hid (EffsAt w be 0 es) := hE
  have HN : Hid (NodesAt w bt 0 ns) := hN
  have HMN : Hid (ns.length ≤ 1048576) := mn
  rw [hR]
  obtain ⟨len, hlen⟩ : ∃ len, es.length = len := ⟨_, rfl⟩
  obtain ⟨ln, hln⟩ : ∃ ln, ns.length = ln := ⟨_, rfl⟩
  have Hlen : Hid (es.length = len ∧ ns.length = ln) := ⟨hlen, hln⟩
  rw [hlen, hln] at HT HB1 HK1 ⊢
  have HM : Hid (len ≤ 1048576 ∧ ln ≤ 1048576) := by show _ ∧ _; omega
  have HSH : Hid (∀ e ∈ es, e.name.size ≤ maxLen) := hsh
  clear hb1 hR hE hN me mn hTT hlen hln hsh
  by_cases h8 : (8 : Int) < (len : Int)
  · have HF : Hid (R = false) := by
      show R = false
      rw [← HR.out, progZ, Hlen.out.1, decide_eq_false (by omega), Bool.false_and]
    clear HT HE HN HK1
    go_enter Tryz.func22, Tryz.ntmps22
    go_wp2_with fail
    go_ret
    exact ⟨by rw [HF.out]; rfl, HB1.out⟩
  have h8' : (len : Int) ≤ 8 := by omega
  have HR8 : Hid ((T && ((List.range len).all (effOk es) && ns.all (nodeHas es))) = R) := by
    show _ = R
    rw [← HR.out, progZ, Hlen.out.1, decide_eq_true (by omega), Bool.true_and]
  clear h8
  go_enter Tryz.func22, Tryz.ntmps22
  go_wp2_with fail
  refine HT.out.mono ?_
  rintro e w2 ⟨rfl, hb2⟩
  have hbw2 := HB1.out.trans (hb2.mono HB1.out.size)
  have kp2 := (hb2.block w.heap.size (by simp)).trans HK1.out
  clear HT HB1 HK1 hb2
  cases T with
  | false =>
    go_wp2_with fail
    go_ret
    exact ⟨by rw [← HR8.out]; rfl, hbw2⟩
  | true =>
    have HRR : Hid (((List.range len).all (effOk es) && ns.all (nodeHas es)) = R) := HR8.out
    clear HR8 HR
    have pA0 := cell_of_heap kp2 0
    simp at pA0
    go_wp2_with fail
    clear pA0
    go_loopw [20] (fun i wr => ∃ i' : Nat, i = .int .i64 i' ∧ i' ≤ len ∧ Hid ((List.range i').all (effOk es) = true) ∧ wr.heap[w.heap.size]? = some (.cells #[.slice (some ⟨be, 0, none⟩) len len, .slice (some ⟨bt, 0, none⟩) ln ln] 33) ∧ Below w.heap.size w wr) (fun i _ => len - (intOf i).toNat)
    case atStart => exact ⟨0, rfl, Nat.zero_le _, rfl, kp2, hbw2⟩
    case round =>
      obtain ⟨i', rfl, hle, HI, kp, hbx⟩ := hrel
      have hAlt := heap_lt kp
      have pA := cell_of_heap kp 0
      have pB := cell_of_heap kp 1
      simp at pA pB
      have hEx := HE.out.below hbx hbe
      by_cases hlt : (i' : Int) < (len : Int)
      · have hil : i' < es.length := by rw [Hlen.out.1]; omega
        have c0 := hEx i' hil 0 (by omega)
        have c1 := hEx i' hil 1 (by omega)
        have c2 := hEx i' hil 2 (by omega)
        obtain ⟨ef, hef⟩ : ∃ ef, es.getD i' default = ef := ⟨_, rfl⟩
        have hF : effOk es i' = false → Hid (R = false) := fun h => by
          show R = false
          have := range_false hil h
          rw [Hlen.out.1] at this
          rw [← HRR.out, this, Bool.false_and]
        have hS : effOk es i' = true → Hid ((List.range (i' + 1)).all (effOk es) = true) := fun h => range_step HI.out h
        have hdef : effOk es i' = (nameOk ef.name && (!effIn (es.take i') ef.name && (decide (1 ≤ ef.arg ∧ ef.arg ≤ 4) && decide (1 ≤ ef.res ∧ ef.res ≤ 4)))) := by rw [effOk, hef]
        rw [hdef] at hF hS
        rw [hef] at c0 c1 c2
        simp only [Ef.cell, Nat.add_zero, Nat.zero_add] at c0 c1 c2
        have htl : (es.take i').length = i' := by simp; omega
        have HP : Hid (∀ w, be < w.heap.size → EffsAt w be 0 es → _) := fun w hb h => hasEff_calls (some ⟨be, 0, none⟩) len (es.take i') ef.name w (by rw [htl]; have := HM.out; omega) (fun _ => ⟨be, 0, rfl, hb, effsTake h⟩)
        rw [htl] at HP
        have hshe : ef.name.size ≤ maxLen := by
          rw [← hef]
          exact HSH.out _ (by simp [List.getD, List.getElem?_eq_getElem hil])
        have hLn : ∀ w, _ := fun w => implName_calls ef.name hshe w
        have hbW : Below w.heap.size w (wr.alloc (.cells #[.string ef.name, .int .i64 ef.arg, .int .i64 ef.res] 78)) := hbx.alloc (by have := hbx.size; omega) _
        have HEW : Hid (EffsAt (wr.alloc (.cells #[.string ef.name, .int .i64 ef.arg, .int .i64 ef.res] 78)) be 0 es) := HE.out.below hbW hbe
        obtain ⟨nm, ar, rs⟩ := ef
        dsimp only at *
        clear hEx hil hdef hef HI HE htl hshe
        generalize effIn (es.take i') nm = ein at *
        have hA1 : ∀ w, _ := fun w => baseOk_calls ar w
        have hA2 : ∀ w, _ := fun w => baseOk_calls rs w
        generalize decide (1 ≤ ar ∧ ar ≤ 4) = okA at *
        generalize decide (1 ≤ rs ∧ rs ≤ 4) = okR at *
        generalize nameOk nm = okN at *
        go_wp2_with fail
        have u0 : (wr.alloc (.cells #[.string nm, .int .i64 ar, .int .i64 rs] 78)).cell? ⟨wr.heap.size, 0, none⟩ = some (.string nm) := by simp [go_sem]
        have u1 : (wr.alloc (.cells #[.string nm, .int .i64 ar, .int .i64 rs] 78)).cell? ⟨wr.heap.size, 1, none⟩ = some (.int .i64 ar) := by simp [go_sem]
        have u2 : (wr.alloc (.cells #[.string nm, .int .i64 ar, .int .i64 rs] 78)).cell? ⟨wr.heap.size, 2, none⟩ = some (.int .i64 rs) := by simp [go_sem]
        have kpW := (Below.heap_alloc wr (.cells #[.string nm, .int .i64 ar, .int .i64 rs] 78) _ hAlt).trans kp
        have uA := cell_of_heap kpW 0
        simp at uA
        have hEW : wr.heap.size < (wr.alloc (.cells #[.string nm, .int .i64 ar, .int .i64 rs] 78)).heap.size := by simp
        have hAW : w.heap.size < (wr.alloc (.cells #[.string nm, .int .i64 ar, .int .i64 rs] 78)).heap.size := by simp; omega
        have hbeW : be < (wr.alloc (.cells #[.string nm, .int .i64 ar, .int .i64 rs] 78)).heap.size := by simp; omega
        generalize (wr.alloc (.cells #[.string nm, .int .i64 ar, .int .i64 rs] 78)) = W at *
        have HED : Hid (EffsAt W be 0 es) := HEW.out
        have v0 : ∀ x : Later W.heap.size W, x.w.cell? ⟨wr.heap.size, 0, none⟩ = some (.string nm) := fun x => x.cell hEW u0
        have v1 : ∀ x : Later W.heap.size W, x.w.cell? ⟨wr.heap.size, 1, none⟩ = some (.int .i64 ar) := fun x => x.cell hEW u1
        have v2 : ∀ x : Later W.heap.size W, x.w.cell? ⟨wr.heap.size, 2, none⟩ = some (.int .i64 rs) := fun x => x.cell hEW u2
        have vA : ∀ x : Later W.heap.size W, x.w.cell? ⟨w.heap.size, 0, none⟩ = some (.slice (some ⟨be, 0, none⟩) len len) := fun x => x.cell hAW uA
        clear c0 c1 c2 pA pB kp HEW
        have HL : Hid (∀ w, _) := hLn
        have H1 : Hid (∀ w, _) := hA1
        have H2 : Hid (∀ w, _) := hA2
        clear hLn hA1 hA2
        have HFF : Hid ((okN && (!ein && (okA && okR))) = false → Hid (R = false)) := hF
        have HSS : Hid ((okN && (!ein && (okA && okR))) = true → Hid ((List.range (i' + 1)).all (effOk es) = true)) := hS
        clear hF hS
        cases okN
        · have HF := HFF.out rfl
          clear HFF HSS
          refine wp_region_calm W.heap.size (by kernel_rfl) (by kernel_rfl) ?_
          repeat (go_big_quiet_step (first
            | (rename_i x; go_at_call 48; refine (HL.out _).mono ?_; rintro e w5 ⟨rfl, hb5⟩; exact ⟨rfl, ⟨w5, x.h.trans (hb5.mono x.h.size)⟩, rfl⟩)
            | (rename_i x; go_at_call 49; refine (H1.out _).mono ?_; rintro e w6 ⟨rfl, rfl⟩; exact ⟨rfl, x, rfl⟩)
            | (rename_i x; go_at_call 49; refine (H2.out _).mono ?_; rintro e w6 ⟨rfl, rfl⟩; exact ⟨rfl, x, rfl⟩)
            | (rename_i x; go_at_call 50; refine (HP.out _ (Nat.lt_of_lt_of_le hbeW x.h.size) (HED.out.below x.h hbeW)).mono ?_; rintro e w5 ⟨rfl, hb5⟩; exact ⟨rfl, ⟨w5, x.h.trans (hb5.mono x.h.size)⟩, rfl⟩)))
          refine wpQuiet_nil ?_
          rintro w5 ⟨x, rfl⟩
          have hx := hbW.trans (x.h.mono hbW.size)
          clear u0 u1 u2 uA v0 v1 v2 vA
          go_wp2_with fail
          go_ret
          exact ⟨by rw [HF.out]; rfl, hx⟩
        cases okA
        · have HF := HFF.out (by cases ein <;> rfl)
          clear HFF HSS
          refine wp_region_calm W.heap.size (by kernel_rfl) (by kernel_rfl) ?_
          repeat (go_big_quiet_step (first
            | (rename_i x; go_at_call 48; refine (HL.out _).mono ?_; rintro e w5 ⟨rfl, hb5⟩; exact ⟨rfl, ⟨w5, x.h.trans (hb5.mono x.h.size)⟩, rfl⟩)
            | (rename_i x; go_at_call 49; refine (H1.out _).mono ?_; rintro e w6 ⟨rfl, rfl⟩; exact ⟨rfl, x, rfl⟩)
            | (rename_i x; go_at_call 49; refine (H2.out _).mono ?_; rintro e w6 ⟨rfl, rfl⟩; exact ⟨rfl, x, rfl⟩)
            | (rename_i x; go_at_call 50; refine (HP.out _ (Nat.lt_of_lt_of_le hbeW x.h.size) (HED.out.below x.h hbeW)).mono ?_; rintro e w5 ⟨rfl, hb5⟩; exact ⟨rfl, ⟨w5, x.h.trans (hb5.mono x.h.size)⟩, rfl⟩)))
          refine wpQuiet_nil ?_
          rintro w5 ⟨x, rfl⟩
          have hx := hbW.trans (x.h.mono hbW.size)
          clear u0 u1 u2 uA v0 v1 v2 vA
          go_wp2_with fail
          go_ret
          exact ⟨by rw [HF.out]; rfl, hx⟩
        cases okR
        · have HF := HFF.out (by cases ein <;> rfl)
          clear HFF HSS
          refine wp_region_calm W.heap.size (by kernel_rfl) (by kernel_rfl) ?_
          repeat (go_big_quiet_step (first
            | (rename_i x; go_at_call 48; refine (HL.out _).mono ?_; rintro e w5 ⟨rfl, hb5⟩; exact ⟨rfl, ⟨w5, x.h.trans (hb5.mono x.h.size)⟩, rfl⟩)
            | (rename_i x; go_at_call 49; refine (H1.out _).mono ?_; rintro e w6 ⟨rfl, rfl⟩; exact ⟨rfl, x, rfl⟩)
            | (rename_i x; go_at_call 49; refine (H2.out _).mono ?_; rintro e w6 ⟨rfl, rfl⟩; exact ⟨rfl, x, rfl⟩)
            | (rename_i x; go_at_call 50; refine (HP.out _ (Nat.lt_of_lt_of_le hbeW x.h.size) (HED.out.below x.h hbeW)).mono ?_; rintro e w5 ⟨rfl, hb5⟩; exact ⟨rfl, ⟨w5, x.h.trans (hb5.mono x.h.size)⟩, rfl⟩)))
          refine wpQuiet_nil ?_
          rintro w5 ⟨x, rfl⟩
          have hx := hbW.trans (x.h.mono hbW.size)
          clear u0 u1 u2 uA v0 v1 v2 vA
          go_wp2_with fail
          go_ret
          exact ⟨by rw [HF.out]; rfl, hx⟩
        cases ein
        · have HS := HSS.out rfl
          clear HFF HSS
          refine wp_region_calm W.heap.size (by kernel_rfl) (by kernel_rfl) ?_
          repeat (go_big_quiet_step (first
            | (rename_i x; go_at_call 48; refine (HL.out _).mono ?_; rintro e w5 ⟨rfl, hb5⟩; exact ⟨rfl, ⟨w5, x.h.trans (hb5.mono x.h.size)⟩, rfl⟩)
            | (rename_i x; go_at_call 49; refine (H1.out _).mono ?_; rintro e w6 ⟨rfl, rfl⟩; exact ⟨rfl, x, rfl⟩)
            | (rename_i x; go_at_call 49; refine (H2.out _).mono ?_; rintro e w6 ⟨rfl, rfl⟩; exact ⟨rfl, x, rfl⟩)
            | (rename_i x; go_at_call 50; refine (HP.out _ (Nat.lt_of_lt_of_le hbeW x.h.size) (HED.out.below x.h hbeW)).mono ?_; rintro e w5 ⟨rfl, hb5⟩; exact ⟨rfl, ⟨w5, x.h.trans (hb5.mono x.h.size)⟩, rfl⟩)))
          refine wpQuiet_nil ?_
          rintro w5 ⟨x, rfl⟩
          have hx := hbW.trans (x.h.mono hbW.size)
          have kp5 := (x.h.block w.heap.size hAW).trans kpW
          clear u0 u1 u2 uA v0 v1 v2 vA
          go_wp2_with fail
          have hs : len - (intOf (.int .i64 ((i' + 1 : Nat) : Int))).toNat < len - (intOf (.int .i64 (i' : Int))).toNat := by simp only [intOf, Int.toNat_natCast]; omega
          try rw [show wrap64 ((i' : Int) + 1) = ((i' + 1 : Nat) : Int) by have := HM.out; unfold wrap64; omega]
          exact ⟨⟨i' + 1, rfl, by omega, HS, kp5, hx⟩, hs⟩
        · have HF := HFF.out rfl
          clear HFF HSS
          refine wp_region_calm W.heap.size (by kernel_rfl) (by kernel_rfl) ?_
          repeat (go_big_quiet_step (first
            | (rename_i x; go_at_call 48; refine (HL.out _).mono ?_; rintro e w5 ⟨rfl, hb5⟩; exact ⟨rfl, ⟨w5, x.h.trans (hb5.mono x.h.size)⟩, rfl⟩)
            | (rename_i x; go_at_call 49; refine (H1.out _).mono ?_; rintro e w6 ⟨rfl, rfl⟩; exact ⟨rfl, x, rfl⟩)
            | (rename_i x; go_at_call 49; refine (H2.out _).mono ?_; rintro e w6 ⟨rfl, rfl⟩; exact ⟨rfl, x, rfl⟩)
            | (rename_i x; go_at_call 50; refine (HP.out _ (Nat.lt_of_lt_of_le hbeW x.h.size) (HED.out.below x.h hbeW)).mono ?_; rintro e w5 ⟨rfl, hb5⟩; exact ⟨rfl, ⟨w5, x.h.trans (hb5.mono x.h.size)⟩, rfl⟩)))
          refine wpQuiet_nil ?_
          rintro w5 ⟨x, rfl⟩
          have hx := hbW.trans (x.h.mono hbW.size)
          clear u0 u1 u2 uA v0 v1 v2 vA
          go_wp2_with fail
          go_ret
          exact ⟨by rw [HF.out]; rfl, hx⟩
      · have e : i' = len := by omega
        subst e
        have HR2 : Hid (ns.all (nodeHas es) = R) := by
          show _ = R
          rw [← HRR.out, HI.out, Bool.true_and]
        clear HRR HI hEx
        go_wp2_with fail
        clear pA pB
        go_loopw [54] (fun j wr => ∃ k : Nat, j = .int .i64 k ∧ k ≤ ln ∧ Hid ((ns.take k).all (nodeHas es) = true) ∧ wr.heap[w.heap.size]? = some (.cells #[.slice (some ⟨be, 0, none⟩) i' i', .slice (some ⟨bt, 0, none⟩) ln ln] 33) ∧ Below w.heap.size w wr) (fun j _ => ln - (intOf j).toNat)
        case atStart => exact ⟨0, rfl, Nat.zero_le _, rfl, kp, hbx⟩
        case round =>
          clear kp hbx hAlt
          obtain ⟨k, rfl, hk, HI, kp, hbx⟩ := hrel
          have hAlt := heap_lt kp
          have pA := cell_of_heap kp 0
          have pB := cell_of_heap kp 1
          simp at pA pB
          by_cases hlt : (k : Int) < (ln : Int)
          · have hil : k < ns.length := by rw [Hlen.out.2]; omega
            have hNx := HN.out.below hbx hbt
            have c0 := hNx k hil 0 (by omega)
            have c1 := hNx k hil 1 (by omega)
            have c2 := hNx k hil 2 (by omega)
            have c3 := hNx k hil 3 (by omega)
            have c4 := hNx k hil 4 (by omega)
            have c5 := hNx k hil 5 (by omega)
            obtain ⟨nd, hnd⟩ : ∃ nd, ns.getD k default = nd := ⟨_, rfl⟩
            have hF : nodeHas es nd = false → Hid (R = false) := fun h => by
              show R = false
              rw [← HR2.out]
              exact has_false hil (by rw [hnd]; exact h)
            have hS : nodeHas es nd = true → Hid ((ns.take (k + 1)).all (nodeHas es) = true) := fun h => has_step hil HI.out (by rw [hnd]; exact h)
            rw [hnd] at c0 c1 c2 c3 c4 c5
            simp only [Nd.cell, Nat.add_zero, Nat.zero_add] at c0 c1 c2 c3 c4 c5
            obtain ⟨kd, num, a, bb, cc, kids⟩ := nd
            dsimp only at *
            have hszx := hbx.size
            have HP : Hid (∀ w', be < w'.heap.size → EffsAt w' be 0 es → _) := fun w' hb h => hasEff_calls (some ⟨be, 0, none⟩) i' es a w' (by rw [Hlen.out.1]; have := HM.out; omega) (fun _ => ⟨be, 0, rfl, hb, h⟩)
            rw [Hlen.out.1] at HP
            have HEx : Hid (EffsAt wr be 0 es) := HE.out.below hbx hbe
            have hbeR : be < wr.heap.size := by omega
            simp only [nodeHas] at hF hS
            clear hNx hil hnd HI
            generalize effIn es a = ein at *
            have hq : (kd == 22) = true ∨ ((kd == 22) = false ∧ (kd == 26) = true) ∨ ((kd == 22) = false ∧ (kd == 26) = false) := by
              cases (kd == 22) <;> cases (kd == 26) <;> simp
            rcases hq with k22 | ⟨k22, k26⟩ | ⟨k22, k26⟩
            · cases ein
              · have HF := hF (by rw [k22]; simp)
                clear hF hS
                go_wp2_with fail
                refine (HP.out _ (by simp; omega) (HEx.out.below ((Below.refl _ _).alloc (Nat.le_refl _) _) hbeR)).mono ?_
                rintro e w6 ⟨rfl, hb6⟩
                have hx6 := (hbx.alloc hszx _).trans (hb6.mono (by simp; omega))
                clear hb6
                go_wp2_with fail
                go_ret
                exact ⟨by rw [HF.out]; rfl, hx6⟩
              · have HS := hS (by simp)
                clear hF hS
                go_wp2_with fail
                refine (HP.out _ (by simp; omega) (HEx.out.below ((Below.refl _ _).alloc (Nat.le_refl _) _) hbeR)).mono ?_
                rintro e w6 ⟨rfl, hb6⟩
                have hx6 := (hbx.alloc hszx _).trans (hb6.mono (by simp; omega))
                have kp6 := (hb6.block w.heap.size (by simp; omega)).trans ((Below.heap_alloc _ _ _ hAlt).trans kp)
                clear hb6
                go_wp2_with fail
                have hs : ln - (intOf (.int .i64 ((k + 1 : Nat) : Int))).toNat < ln - (intOf (.int .i64 (k : Int))).toNat := by simp only [intOf, Int.toNat_natCast]; omega
                try rw [show wrap64 ((k : Int) + 1) = ((k + 1 : Nat) : Int) by have := HM.out; unfold wrap64; omega]
                exact ⟨⟨k + 1, rfl, by omega, HS, kp6, hx6⟩, hs⟩
            · cases ein
              · have HF := hF (by rw [k26]; simp)
                clear hF hS
                go_wp2_with fail
                refine (HP.out _ (by simp; omega) (HEx.out.below ((Below.refl _ _).alloc (Nat.le_refl _) _) hbeR)).mono ?_
                rintro e w6 ⟨rfl, hb6⟩
                have hx6 := (hbx.alloc hszx _).trans (hb6.mono (by simp; omega))
                clear hb6
                go_wp2_with fail
                go_ret
                exact ⟨by rw [HF.out]; rfl, hx6⟩
              · have HS := hS (by simp)
                clear hF hS
                go_wp2_with fail
                refine (HP.out _ (by simp; omega) (HEx.out.below ((Below.refl _ _).alloc (Nat.le_refl _) _) hbeR)).mono ?_
                rintro e w6 ⟨rfl, hb6⟩
                have hx6 := (hbx.alloc hszx _).trans (hb6.mono (by simp; omega))
                have kp6 := (hb6.block w.heap.size (by simp; omega)).trans ((Below.heap_alloc _ _ _ hAlt).trans kp)
                clear hb6
                go_wp2_with fail
                have hs : ln - (intOf (.int .i64 ((k + 1 : Nat) : Int))).toNat < ln - (intOf (.int .i64 (k : Int))).toNat := by simp only [intOf, Int.toNat_natCast]; omega
                try rw [show wrap64 ((k : Int) + 1) = ((k + 1 : Nat) : Int) by have := HM.out; unfold wrap64; omega]
                exact ⟨⟨k + 1, rfl, by omega, HS, kp6, hx6⟩, hs⟩
            · have HS := hS (by rw [k22, k26]; rfl)
              clear hF hS HP
              go_wp2_with fail
              have hs : ln - (intOf (.int .i64 ((k + 1 : Nat) : Int))).toNat < ln - (intOf (.int .i64 (k : Int))).toNat := by simp only [intOf, Int.toNat_natCast]; omega
              try rw [show wrap64 ((k : Int) + 1) = ((k + 1 : Nat) : Int) by have := HM.out; unfold wrap64; omega]
              exact ⟨⟨k + 1, rfl, by omega, HS, (Below.heap_alloc _ _ _ hAlt).trans kp, hbx.alloc hszx _⟩, hs⟩
          · have e : k = ln := by omega
            have HT : Hid (R = true) := by
              show R = true
              rw [← HR2.out]
              have := HI.out
              rwa [List.take_of_length_le (by rw [Hlen.out.2]; omega)] at this
            clear HI
            go_wp2_with fail
            go_ret
            exact ⟨by rw [HT.out]; rfl, hbx⟩
end Go.Proofs.YtgiejnmphfgmgaaGreatDoor

/- Names made anew, as the specification does it, are those that the program's walk makes, where nothing stands free. -/
namespace Go.Proofs.YtgiejnmphfgmgaaGreatDoor
open Go.RowKit

/-- A node with its names named anew: a name that is not known stays. -/
def renS (n : Nd) (sc : Sco) (made : Nat) : Nd := if n.kind = 5 then { n with a := (findS sc n.a).getD n.a } else renZ n sc made

def stepS (n : Nd) (sc : Sco) (s : Wst) : Wst := ⟨s.plain ++ [renS n sc s.made], s.free ++ lostZ n sc, s.made + makesZ n.kind⟩

def kidsS (old new : Nd) : Nat → Fo → Sco → Wst → Wst
  | _, .none, _, s => s
  | i, .tree n k r, sc, s =>
    kidsS old new (i + 1) r sc (kidsS n (renZ n (openS old new i sc) s.made) 0 k (openS old new i sc) (stepS n (openS old new i sc) s))

def walkS (n : Nd) (k : Fo) (sc : Sco) (s : Wst) : Wst := kidsS n (renZ n sc s.made) 0 k sc (stepS n sc s)

theorem kidsS_tree (old new n : Nd) (k r : Fo) (i : Nat) (sc : Sco) (s : Wst) : kidsS old new i (.tree n k r) sc s = kidsS old new (i + 1) r sc (walkS n k (openS old new i sc) s) := by
  unfold walkS
  rw [kidsS]

theorem kidsW_free : ∀ (f : Fo) (old new : Nd) (i : Nat) (sc : Sco) (s : Wst), ∃ l, (kidsW old new i f sc s).free = s.free ++ l
  | .none, _, _, _, _, s => ⟨[], by simp [kidsW]⟩
  | .tree n k r, old, new, i, sc, s => by
    obtain ⟨l1, h1⟩ := kidsW_free k n (renZ n (openS old new i sc) s.made) 0 (openS old new i sc) (stepW n (openS old new i sc) s)
    obtain ⟨l2, h2⟩ := kidsW_free r old new (i + 1) sc (kidsW n (renZ n (openS old new i sc) s.made) 0 k (openS old new i sc) (stepW n (openS old new i sc) s))
    refine ⟨lostZ n (openS old new i sc) ++ l1 ++ l2, ?_⟩
    rw [kidsW, h2, h1]
    simp [stepW, List.append_assoc]

theorem step_same {n : Nd} {sc : Sco} {s : Wst} (h : (stepW n sc s).free = []) : stepS n sc s = stepW n sc s := by
  unfold stepS stepW at *
  simp only [List.append_eq_nil_iff] at h
  have e : renS n sc s.made = renZ n sc s.made := by
    unfold renS
    by_cases h5 : n.kind = 5
    · rw [if_pos h5]
      unfold renZ
      rw [if_pos h5]
      have h2 := h.2
      unfold lostZ at h2
      by_cases hf : findS sc n.a = none
      · rw [if_pos ⟨h5, hf⟩] at h2
        cases h2
      · obtain ⟨y, hy⟩ := Option.ne_none_iff_exists'.1 hf
        rw [hy]
        rfl
    · rw [if_neg h5]
  rw [e]

theorem kidsS_same : ∀ (f : Fo) (old new : Nd) (i : Nat) (sc : Sco) (s : Wst), (kidsW old new i f sc s).free = [] → kidsS old new i f sc s = kidsW old new i f sc s
  | .none, _, _, _, _, _, _ => rfl
  | .tree n k r, old, new, i, sc, s, h => by
    rw [kidsW] at h
    obtain ⟨l2, h2⟩ := kidsW_free r old new (i + 1) sc (kidsW n (renZ n (openS old new i sc) s.made) 0 k (openS old new i sc) (stepW n (openS old new i sc) s))
    obtain ⟨l1, h1⟩ := kidsW_free k n (renZ n (openS old new i sc) s.made) 0 (openS old new i sc) (stepW n (openS old new i sc) s)
    have e2 : (kidsW n (renZ n (openS old new i sc) s.made) 0 k (openS old new i sc) (stepW n (openS old new i sc) s)).free = [] := by
      rw [h2] at h
      exact (List.append_eq_nil_iff.1 h).1
    have e1 : (stepW n (openS old new i sc) s).free = [] := by
      rw [h1] at e2
      exact (List.append_eq_nil_iff.1 e2).1
    rw [kidsS, kidsW, step_same e1, kidsS_same k n _ 0 _ _ e2]
    exact kidsS_same r old new (i + 1) sc _ h

theorem walkS_same {n : Nd} {k : Fo} {sc : Sco} {s : Wst} (h : (walkW n k sc s).free = []) : walkS n k sc s = walkW n k sc s := by
  unfold walkW at h
  obtain ⟨l1, h1⟩ := kidsW_free k n (renZ n sc s.made) 0 sc (stepW n sc s)
  have e1 : (stepW n sc s).free = [] := by
    rw [h1] at h
    exact (List.append_eq_nil_iff.1 h).1
  unfold walkS walkW
  rw [step_same e1]
  exact kidsS_same k n _ 0 sc _ h

theorem kidsS_len : ∀ (f : Fo) (old new : Nd) (i : Nat) (sc : Sco) (s : Wst), (kidsS old new i f sc s).plain.length = s.plain.length + f.flat.length ∧ (kidsS old new i f sc s).free.length ≤ s.free.length + f.flat.length ∧ (kidsS old new i f sc s).made ≤ s.made + 2 * f.flat.length
  | .none, _, _, _, _, _ => by simp [kidsS, Fo.flat]
  | .tree n k r, old, new, i, sc, s => by
    have h1 := kidsS_len k n (renZ n (openS old new i sc) s.made) 0 (openS old new i sc) (stepS n (openS old new i sc) s)
    have h2 := kidsS_len r old new (i + 1) sc (kidsS n (renZ n (openS old new i sc) s.made) 0 k (openS old new i sc) (stepS n (openS old new i sc) s))
    have hm := makesZ_le n.kind
    have hf := lostZ_len n (openS old new i sc)
    have hs1 : (stepS n (openS old new i sc) s).plain.length = s.plain.length + 1 := by simp [stepS]
    have hs2 : (stepS n (openS old new i sc) s).free.length ≤ s.free.length + 1 := by simp only [stepS, List.length_append]; omega
    have hs3 : (stepS n (openS old new i sc) s).made ≤ s.made + 2 := by simp only [stepS]; omega
    simp only [kidsS, Fo.flat, List.length_cons, List.length_append]
    omega

theorem walkS_room {n : Nd} {k : Fo} {sc : Sco} {s : Wst} {c : Nat} (h : Room (1 + k.flat.length + c) s) : Room c (walkS n k sc s) := by
  obtain ⟨h1, h2, h3⟩ := kidsS_len k n (renZ n sc s.made) 0 sc (stepS n sc s)
  have e1 := h.plain
  have e2 := h.free
  have e3 := h.made
  have h4 := lostZ_len n sc
  have h5 := makesZ_le n.kind
  have s1 : (stepS n sc s).plain.length = s.plain.length + 1 := by simp [stepS]
  have s2 : (stepS n sc s).free.length ≤ s.free.length + 1 := by simp only [stepS, List.length_append]; omega
  have s3 : (stepS n sc s).made ≤ s.made + 2 := by simp only [stepS]; omega
  unfold walkS
  exact ⟨by omega, by omega, by omega⟩

/-- The names known and what they are called now, the outermost first. -/
def fromZ (sc : Sco) : List ByteArray := (sc.map (·.1)).reverse
def toZ (sc : Sco) : List ByteArray := (sc.map (·.2)).reverse

theorem from_len (sc : Sco) : (fromZ sc).length = sc.length := by simp [fromZ]
theorem to_len (sc : Sco) : (toZ sc).length = sc.length := by simp [toZ]

theorem from_open : ∀ (xs ys : List ByteArray) (sc : Sco), xs.length = ys.length → fromZ ((xs.zip ys).foldl (fun s p => p :: s) sc) = fromZ sc ++ xs ∧ toZ ((xs.zip ys).foldl (fun s p => p :: s) sc) = toZ sc ++ ys
  | [], [], sc, _ => by simp
  | [], _ :: _, _, h => by simp at h
  | _ :: _, [], _, h => by simp at h
  | a :: xs, b :: ys, sc, h => by
    obtain ⟨h1, h2⟩ := from_open xs ys ((a, b) :: sc) (by simpa using h)
    rw [List.zip_cons_cons, List.foldl_cons, h1, h2]
    simp [fromZ, toZ]

/-- The names that a node makes. -/
def newsZ (k : Int) (made : Nat) : List ByteArray := if makesZ k = 0 then [] else if makesZ k = 1 then [freshZ made] else [freshZ made, freshZ (made + 1)]

theorem newsZ_len (k : Int) (made : Nat) : (newsZ k made).length = makesZ k := by
  have := makesZ_le k
  unfold newsZ
  by_cases h0 : makesZ k = 0
  · rw [if_pos h0, h0]; rfl
  · rw [if_neg h0]
    by_cases h1 : makesZ k = 1
    · rw [if_pos h1, h1]; rfl
    · rw [if_neg h1]
      simp
      omega

theorem known_news (n : Nd) (sc : Sco) (made i : Nat) : knownZ (renZ n sc made) i = (newsZ n.kind made).take (knownZ n i).length ∧ (knownZ n i).length ≤ makesZ n.kind := by
  obtain ⟨kd, num, a, b, c, kids⟩ := n
  have hk : (renZ ⟨kd, num, a, b, c, kids⟩ sc made).kind = kd := renZ_kind _ _ _
  unfold knownZ
  rw [hk]
  unfold newsZ makesZ renZ
  dsimp only
  by_cases h6 : kd = 6
  · subst h6; exact ⟨rfl, by simp⟩
  by_cases h25 : kd = 25
  · subst h25; exact ⟨rfl, by simp⟩
  by_cases h8 : kd = 8
  · subst h8
    by_cases hi : i = 1
    · subst hi; exact ⟨rfl, by simp⟩
    · simp [hi]
  by_cases h9 : kd = 9
  · subst h9
    by_cases hi : i = 1
    · subst hi; exact ⟨rfl, by simp⟩
    · simp [hi]
  by_cases h20 : kd = 20
  · subst h20
    by_cases hi : i = 2
    · subst hi; exact ⟨rfl, by simp⟩
    · simp [hi]
  by_cases h26 : kd = 26
  · subst h26; simp
  · simp [h6, h25, h8, h9, h20, h26]

theorem open_from (n : Nd) (sc : Sco) (made i : Nat) (sc' : Sco) : fromZ (openS n (renZ n sc made) i sc') = fromZ sc' ++ knownZ n i ∧ toZ (openS n (renZ n sc made) i sc') = toZ sc' ++ (newsZ n.kind made).take (knownZ n i).length := by
  rw [← (known_news n sc made i).1]
  exact from_open _ _ _ (knownZ_same (renZ_kind n sc made).symm i)

/-- What a name is called now, found from the end on. -/
theorem now_last : ∀ (sc : Sco) (s : ByteArray), (findS sc s).getD s = match sc.find? (fun p => decide (p.1 = s)) with | some p => p.2 | none => s
  | [], s => rfl
  | (x, y) :: r, s => by
    unfold findS
    by_cases h : x = s
    · simp [h]
    · rw [if_neg h, List.find?_cons_of_neg (by simpa using h)]
      exact now_last r s
end Go.Proofs.YtgiejnmphfgmgaaGreatDoor

/- The specification's decimals of a number that is not negative. -/
namespace Go.Proofs.YtgiejnmphfgmgaaGreatDoor
open Go.RowKit

theorem dec_append (a b : List UInt8) : (⟨a.toArray⟩ : ByteArray) ++ ⟨b.toArray⟩ = ⟨(a ++ b).toArray⟩ := by
  apply ByteArray.ext
  simp

theorem dec_size (a : List UInt8) : (⟨a.toArray⟩ : ByteArray).size = a.length := by
  simp [ByteArray.size]

def tx (l : List UInt8) : ByteArray := ⟨l.toArray⟩
theorem tx_size (l : List UInt8) : (tx l).size = l.length := dec_size l
theorem tx_append (a b : List UInt8) : tx a ++ tx b = tx (a ++ b) := dec_append a b

/-- Numbers of 64 bits. -/
def Long (n : Int) : Prop := -9223372036854775808 ≤ n ∧ n ≤ 9223372036854775807

/-- The digits of a number, put ahead one by one. -/
def decGo : Nat → Nat → List UInt8 → List UInt8
  | 0, _, out => out
  | f + 1, u, out => if u = 0 then out else decGo f (u / 10) (UInt8.ofNat (48 + u % 10) :: out)

theorem decGo_eq : ∀ (f u : Nat) (out : List UInt8), 0 < u → u < 10 ^ f → decGo f u out = Lib.decDigits u ++ out
  | 0, u, out, h0, h1 => by simp at h1; omega
  | f + 1, u, out, h0, h1 => by
    rw [decGo, if_neg (by omega)]
    by_cases h : u < 10
    · rw [Lib.decDigits_one h, show u / 10 = 0 by omega, show u % 10 = u by omega]
      cases f with
      | zero => rfl
      | succ f => rw [decGo, if_pos rfl]; rfl
    · rw [decGo_eq f (u / 10) _ (by omega) (by rw [Nat.pow_succ] at h1; omega)]
      conv => rhs; rw [Lib.decDigits, dif_neg h]
      simp

theorem itoa_zero : Lib.itoa 0 = [48] := by
  unfold Lib.itoa
  rw [if_neg (by omega)]
  exact Lib.decDigits_one (by decide)

def digB (u : Nat) : ByteArray := ⟨#[UInt8.ofNat (48 + u % 10)]⟩

theorem digB_run (j : Nat) (w : World) : (convert 158 9 (.slice (some ⟨w.heap.size, 0, none⟩) 1 1)).run Tryz.prog (w.alloc (.cells #[.int .u8 (48 + (j : Int) % 10)] 5)) = .ok (.string (digB j)) (w.alloc (.cells #[.int .u8 (48 + (j : Int) % 10)] 5)) := by
  have h := run_convert_bytes_back (P := Tryz.prog) (w.alloc (.cells #[.int .u8 (48 + (j : Int) % 10)] 5)) 158 9 5 ⟨w.heap.size, 0, none⟩ 1 [UInt8.ofNat (48 + j % 10)] Tryz.underlying158 Tryz.underlying5 Tryz.underlying9 (fun i hi => by
    have h0 : i = 0 := by simpa using hi
    subst h0
    simp [Addr.add]
    omega)
  exact h

theorem digB_append (j : Nat) (l : List UInt8) : digB j ++ ⟨l.toArray⟩ = ⟨(UInt8.ofNat (48 + j % 10) :: l).toArray⟩ := dec_append [UInt8.ofNat (48 + j % 10)] l

end Go.Proofs.YtgiejnmphfgmgaaGreatDoor

/- What the specification's plainer keeps in memory; its small functions. -/
namespace Go.Proofs.YtgiejnmphfgmgaaGreatDoor
open Go.RowKit Go.Deep

/-- What the plainer's functions leave as it was. -/
abbrev Pfr (Pb : Nat) (vo : Value) (W W' : World) : Prop := Nfr Pb vo (.slice none 0 0) W W'

theorem movd_none (W : World) : Movd W (.slice none 0 0) (.slice none 0 0) := Or.inl rfl

theorem Pfr.trans {Pb : Nat} {vo vo' : Value} {W W' W'' : World} (h : Pfr Pb vo W W') (hp : Movd W vo vo') (h' : Pfr Pb vo' W' W'') : Pfr Pb vo W W'' := Nfr.trans h hp (movd_none W) h'

/-- A slice of names in a row of names. -/
def NamesT (W : World) (v : Value) (ss : List ByteArray) : Prop :=
  (v = .slice none 0 0 ∧ ss = []) ∨ ∃ g c cur, v = .slice (some ⟨g, 0, none⟩) ss.length c ∧ ss.length ≤ c ∧ W.heap[g]? = some (.cells cur 9) ∧ ∀ j, j < ss.length → cur[j]? = some (.string (ss.getD j ⟨#[]⟩))

theorem NamesT.names {W : World} {v : Value} {ss : List ByteArray} (h : NamesT W v ss) : NamesV W v ss := by
  rcases h with h | ⟨g, c, cur, e, -, hg, hc⟩
  · exact Or.inl h
  · exact Or.inr ⟨g, 0, c, e, heap_lt hg, fun j hj => by rw [Nat.zero_add, cell_of_heap hg j]; exact hc j hj⟩

theorem NamesT.below {W W' : World} {v : Value} {ss : List ByteArray} (h : NamesT W v ss) (hb : Below W.heap.size W W') : NamesT W' v ss := by
  rcases h with h | ⟨g, c, cur, e, hl, hg, hc⟩
  · exact Or.inl h
  · exact Or.inr ⟨g, c, cur, e, hl, (hb.block g (heap_lt hg)).trans hg, hc⟩

theorem NamesT.slice {W : World} {v : Value} {ss : List ByteArray} (h : NamesT W v ss) : ∃ ad c, v = .slice ad ss.length c := h.names.slice

theorem namesT_owns {W : World} {B : Nat} {v : Value} {n : Nat} {ss : List ByteArray} (h : W.ownsRow B 9 1 v n (strRow ss)) : NamesT W v ss := by
  have hl : n = ss.length := (names_owns h).2
  subst hl
  obtain ⟨-, ⟨rfl, h0⟩ | ⟨g, cap, cur, rfl, hB, hg, h1, h2, h3, h4⟩⟩ := h
  · exact Or.inl ⟨rfl, List.eq_nil_of_length_eq_zero h0⟩
  · refine Or.inr ⟨g, cap, cur, rfl, h1, hg, fun j hj => ?_⟩
    have e := congrArg (fun l => l[j]?) h4
    simp only [List.getElem?_take_of_lt (show j < ss.length * 1 by omega), strRow_get ss j hj, Array.getElem?_toList] at e
    exact e

theorem namesZ_makes (k : Int) : (k ≠ 5 → k ≠ 22 → k ≠ 26 → namesZ k = (makesZ k : Int)) ∧ (k = 26 → namesZ k = 3 ∧ makesZ k = 2) ∧ (k = 22 → namesZ k = 1 ∧ makesZ k = 0) ∧ (k = 5 → namesZ k = 1 ∧ makesZ k = 0) := by
  rcases kinds k with rfl | rfl | rfl | rfl | rfl | rfl | rfl | rfl | rfl | rfl | rfl | rfl | rfl | rfl | rfl | rfl | rfl | rfl | rfl | rfl | rfl | rfl | rfl | rfl | rfl | rfl | h
  all_goals try decide
  have e : namesZ k = 0 := tab_other h
  have e2 : makesZ k = 0 := by
    unfold makesZ
    rw [if_neg (by omega), if_neg (by omega)]
  exact ⟨fun _ _ _ => by rw [e, e2]; rfl, fun _ => by omega, fun _ => by omega, fun _ => by omega⟩

theorem from_get (sc : Sco) (m : Nat) (h : m < sc.length) : (fromZ sc).getD m ⟨#[]⟩ = (sc[sc.length - 1 - m]'(by omega)).1 ∧ (toZ sc).getD m ⟨#[]⟩ = (sc[sc.length - 1 - m]'(by omega)).2 := by
  unfold fromZ toZ
  constructor
  · rw [List.getD, List.getElem?_reverse (by simpa using h)]
    simp [show sc.length - 1 - m < sc.length by omega]
  · rw [List.getD, List.getElem?_reverse (by simpa using h)]
    simp [show sc.length - 1 - m < sc.length by omega]

end Go.Proofs.YtgiejnmphfgmgaaGreatDoor

/- Two rows of names side by side; the plainer's row of nodes grows. -/
namespace Go.Proofs.YtgiejnmphfgmgaaGreatDoor
open Go.RowKit Go.Deep

/-- Two rows of names of one's own, in two blocks. -/
structure Two (B : Nat) (X : World) (v : Value) (ss : List ByteArray) (u : Value) (ys : List ByteArray) : Prop where
  one : X.ownsRow B 9 1 v ss.length (strRow ss)
  two : X.ownsRow B 9 1 u ys.length (strRow ys)
  ap : ∀ q, v.ownBlock = some q → u.ownBlock ≠ some q

theorem Two.symm {B : Nat} {X : World} {v u : Value} {ss ys : List ByteArray} (h : Two B X v ss u ys) : Two B X u ys v ss := ⟨h.two, h.one, fun q e e' => h.ap q e' e⟩

theorem own_empty {B : Nat} (X : World) (h : B ≤ X.heap.size) : (X.alloc (.cells #[] 9)).ownsRow B 9 1 (.slice (some ⟨X.heap.size, 0, none⟩) 0 0) ([] : List ByteArray).length (strRow []) := World.ownsRow_made X #[] 0 h (Nat.zero_le _) rfl

theorem two_new {B : Nat} {X : World} {v : Value} {ss : List ByteArray} (h : X.ownsRow B 9 1 v ss.length (strRow ss)) (hB : B ≤ X.heap.size) : Two B (X.alloc (.cells #[] 9)) v ss (.slice (some ⟨X.heap.size, 0, none⟩) 0 0) [] :=
  ⟨h.alloc _, own_empty X hB, fun q e e' => by
    have := (h.lt q e).2
    simp [Value.ownBlock] at e'
    omega⟩

theorem Two.app {B : Nat} {X : World} {v u : Value} {ss ys : List ByteArray} (h : Two B X v ss u ys) (ty : TypeId) {xv : Value} {zs : List ByteArray} (hx : NamesV X xv zs) (hm : ss.length + zs.length ≤ 200000) (hB : B ≤ X.heap.size) :
    ∃ v' X', (Builtin.append_ #[43, 43] ty #[v, xv]).run Tryz.prog X = .ok v' X' ∧ Two B X' v' (ss ++ zs) u ys ∧ (∀ w0, Below B w0 X → Below B w0 X') := by
  obtain ⟨v', X', hr, ho, hg, hat⟩ := app_names ty h.one hx hm hB
  refine ⟨v', X', hr, ⟨ho, ?_, fun q e e' => ?_⟩, fun w0 hb => Below.grown hb hg hB (fun j hj => (h.one.lt j hj).1)⟩
  · exact own_same h.two (fun g e => hg.block g (h.two.lt g e).2 (fun e2 => h.ap g e2.symm e))
  · rcases hat with h1 | h1
    · exact h.ap q (h1 ▸ e) e'
    · rw [h1] at e
      cases e
      have := (h.two.lt _ e').2
      omega

theorem own_app {B : Nat} {X : World} {v : Value} {ss : List ByteArray} (h : X.ownsRow B 9 1 v ss.length (strRow ss)) (ty : TypeId) {xv : Value} {zs : List ByteArray} (hx : NamesV X xv zs) (hm : ss.length + zs.length ≤ 200000) (hB : B ≤ X.heap.size) :
    ∃ v' X', (Builtin.append_ #[43, 43] ty #[v, xv]).run Tryz.prog X = .ok v' X' ∧ X'.ownsRow B 9 1 v' (ss ++ zs).length (strRow (ss ++ zs)) ∧ (∀ w0, Below B w0 X → Below B w0 X') := by
  obtain ⟨v', X', hr, ho, hg, -⟩ := app_names ty h hx hm hB
  exact ⟨v', X', hr, ho, fun w0 hb => Below.grown hb hg hB (fun j hj => (h.lt j hj).1)⟩

/-- The last cell of a row of names. -/
theorem own_last {X : World} {B n : Nat} {v : Value} {xs : List Value} (h : X.ownsRow B 9 1 v (n + 1) xs) : ∃ g cp, v = .slice (some ⟨g, 0, none⟩) (n + 1) cp ∧ X.cell? ⟨g, n, none⟩ = xs[n]? ∧ B ≤ g ∧ g < X.heap.size := by
  have h' := h
  obtain ⟨-, ⟨_, h0⟩ | ⟨g, cap, cur, rfl, hB, hc, -⟩⟩ := h
  · omega
  · exact ⟨g, cap, rfl, h'.cellAt n (by omega), hB, heap_lt hc⟩
end Go.Proofs.YtgiejnmphfgmgaaGreatDoor

/- A slice's first names. -/
namespace Go.Proofs.YtgiejnmphfgmgaaGreatDoor
open Go.RowKit Go.Deep

theorem take_slice {W : World} {nad : Option Addr} {L ncp l : Nat} {ss : List ByteArray} (h : NamesT W (.slice nad L ncp) ss) (hl : l ≤ ss.length) :
    ∃ v', (∀ (a : Act) (o : Oper) (x y : Operand), o.op = .slice 43 x none (some y) none → a.eval x = .slice nad L ncp → a.eval y = .int .i64 (l : Int) → ∀ X, (execOp a.eval o).run Tryz.prog X = .ok (.value v') X) ∧ ∀ X, Below W.heap.size W X → NamesV X v' (ss.take l) := by
  rcases h with ⟨e, rfl⟩ | ⟨g, c, cur, e, hlc, hg, hc⟩
  · cases e
    have h0 : l = 0 := by simpa using hl
    subst h0
    refine ⟨.slice none 0 0, fun a o x y ho hx hy X => ?_, fun X _ => Or.inl ⟨rfl, rfl⟩⟩
    unfold execOp
    simp only [ho, Option.map_none, Option.map_some, hx, hy]
    simp [go_sem, Tryz.underlying43]
  · cases e
    refine ⟨.slice (some ⟨g, 0, none⟩) l ncp, fun a o x y ho hx hy X => ?_, fun X hX => Or.inr ⟨g, 0, ncp, ?_, Nat.lt_of_lt_of_le (heap_lt hg) hX.size, fun j hj => ?_⟩⟩
    · unfold execOp
      simp only [ho, Option.map_none, Option.map_some, hx, hy]
      simp [go_sem, Tryz.underlying43]
      omega
    · rw [List.length_take, Nat.min_eq_left hl]
    · rw [List.length_take, Nat.min_eq_left hl] at hj
      rw [Nat.zero_add, hX.cell (p := ⟨g, j, none⟩) (heap_lt hg), cell_of_heap hg j, hc j (by omega)]
      congr 2
      simp [List.getD, List.getElem?_take_of_lt hj]
end Go.Proofs.YtgiejnmphfgmgaaGreatDoor

/- A mark: a number as a text. -/
namespace Go.Proofs.YtgiejnmphfgmgaaGreatDoor
open Go.RowKit

def dig (j : Nat) : ByteArray := ⟨#[UInt8.ofNat (48 + j % 10)]⟩

theorem dig_run (j : Nat) (w : World) : (convert 158 9 (.slice (some ⟨w.heap.size, 0, none⟩) 1 1)).run Tryz.prog (w.alloc (.cells #[.int .u8 (48 + (j : Int) % 10)] 5)) = .ok (.string (dig j)) (w.alloc (.cells #[.int .u8 (48 + (j : Int) % 10)] 5)) := by
  have h := run_convert_bytes_back (P := Tryz.prog) (w.alloc (.cells #[.int .u8 (48 + (j : Int) % 10)] 5)) 158 9 5 ⟨w.heap.size, 0, none⟩ 1 [UInt8.ofNat (48 + j % 10)] Tryz.underlying158 Tryz.underlying5 Tryz.underlying9 (fun i hi => by
    have h0 : i = 0 := by simpa using hi
    subst h0
    simp [Addr.add]
    omega)
  exact h

/-- The digits of a mark, put ahead one by one. -/
def markGo : Nat → Nat → ByteArray → ByteArray
  | 0, _, out => out
  | f + 1, j, out => if j = 0 then out else markGo f (j / 10) (dig j ++ out)

def markOf (k : Nat) : ByteArray := if k = 0 then ⟨#[109, 48]⟩ else ⟨#[109]⟩ ++ markGo k k ⟨#[]⟩

set_option maxHeartbeats 1000000 in
set_option maxRecDepth 100000 in
theorem mark_calls (k : Nat) (HK : Hid (k ≤ 10000000)) (w : World) :
    Calls Tryz.prog 67 #[.int .i64 k] w fun e w' => e = .returned (.string (markOf k)) ∧ Below w.heap.size w w' := by
  by_cases h0 : k = 0
  · subst h0
    go_enter Tryz.func67, Tryz.ntmps67
    go_wp2_with fail
    go_ret
    exact ⟨rfl, Below.refl _ _⟩
  obtain ⟨R, hR⟩ : ∃ R, markGo k k ⟨#[]⟩ = R := ⟨_, rfl⟩
  have e : markOf k = ⟨#[109]⟩ ++ R := by rw [markOf, if_neg h0, hR]
  rw [e]
  have HR : Hid (markGo k k ⟨#[]⟩ = R) := hR
  clear hR e
  go_enter Tryz.func67, Tryz.ntmps67
  go_wp2_with fail
  go_loopw [0, 3] (fun a o wr => ∃ (j f : Nat) (out : ByteArray), a = .int .i64 j ∧ o = .string out ∧ (j : Int) ≤ 10000000 ∧ out.size ≤ 8 ∧ Hid (j ≤ f ∧ ∃ d, out.size + d ≤ 8 ∧ j < 10 ^ d) ∧ Hid (markGo f j out = R) ∧ Below w.heap.size w wr) (fun a _ _ => (intOf a).toNat)
  case atStart => exact ⟨k, k, _, rfl, rfl, by have := HK.out; omega, Nat.zero_le _, ⟨Nat.le_refl _, 8, Nat.le_refl _, by have := HK.out; omega⟩, HR, Below.refl _ _⟩
  case round =>
    obtain ⟨j, f, out, rfl, rfl, hj9, hos, HFo, HE, hnx⟩ := hrel
    clear HR
    by_cases hj0 : j = 0
    · subst hj0
      have hE : out = R := by
        have := HE.out
        cases f with
        | zero => exact this
        | succ f => simpa [markGo] using this
      subst hE
      clear HE
      go_wp2_with fail
      go_ret
      exact ⟨rfl, hnx⟩
    · obtain ⟨f, rfl⟩ : ∃ f', f = f' + 1 := ⟨f - 1, by have := HFo.out.1; omega⟩
      have HFn : Hid (j / 10 ≤ f ∧ ∃ d, out.size + 1 + d ≤ 8 ∧ j / 10 < 10 ^ d) := by
        obtain ⟨h1, d, h2, h3⟩ := HFo.out
        cases d with
        | zero => exfalso; simp at h3; omega
        | succ d => exact ⟨by omega, d, by omega, by rw [Nat.pow_succ] at h3; omega⟩
      have hos2 : out.size ≤ 7 := by obtain ⟨-, d, h, -⟩ := HFn.out; omega
      have hE := HE.out
      rw [markGo, if_neg hj0] at hE
      have HE' : Hid (markGo f (j / 10) (dig j ++ out) = R) := hE
      have hcv := dig_run j wr
      have hdz : (dig j).size = 1 := rfl
      clear HE hE
      generalize dig j = dj at *
      go_wp2_with fail
      refine ⟨⟨j / 10, f, dj ++ out, by simp, rfl, by omega, ?_, ⟨HFn.out.1, ?_⟩, HE', hnx.alloc hnx.size _⟩, by simp [intOf]; omega⟩
      · rw [ByteArray.size_append, hdz]
        omega
      · obtain ⟨-, d, h1, h2⟩ := HFn.out
        exact ⟨d, by rw [ByteArray.size_append, hdz]; omega, h2⟩

theorem mark_callsZ (x : Int) (HX : Hid (0 ≤ x ∧ x ≤ 10000000)) (w : World) :
    Calls Tryz.prog 67 #[.int .i64 x] w fun e w' => e = .returned (.string (markOf x.toNat)) ∧ Below w.heap.size w w' := by
  obtain ⟨n, rfl⟩ := Int.eq_ofNat_of_zero_le HX.out.1
  rw [Int.toNat_natCast]
  exact mark_calls n (by have := HX.out.2; show _ ≤ _; omega) w
end Go.Proofs.YtgiejnmphfgmgaaGreatDoor

/- Lists of texts in memory: two that hold the same compare as alike; marks that are put into one are held by it. -/
namespace Go.Proofs.YtgiejnmphfgmgaaGreatDoor
open Go.RowKit

def strF (ss : List ByteArray) (i : Nat) : Value := .string (ss.getD i ⟨#[]⟩)

/-- The marks, told by the place. -/
def strMarks (i : Nat) : Value := .string (markOf (1 + i))

theorem wrap_inc {k n : Nat} (hk : k < n) (hm : n ≤ 1048576) : wrap64 ((k : Int) + 1) = ((k + 1 : Nat) : Int) := by
  unfold wrap64
  omega

theorem wrap_inc1 {x : Int} {k n : Nat} (hx : x = 1 + (k : Int)) (hk : k < n) (hm : n ≤ 1048576) : wrap64 (x + 1) = x + 1 := by
  unfold wrap64
  omega

/-- A slice that holds these texts. -/
def StrSlice (w : World) (v : Value) (ss : List ByteArray) : Prop :=
  ∃ ad cap, v = .slice ad ss.length cap ∧ (ss.length = 0 ∨ ∃ g o, ad = some ⟨g, o, none⟩ ∧ g < w.heap.size ∧ ∀ k, k < ss.length → w.cell? ⟨g, o + k, none⟩ = some (strF ss k))

theorem StrSlice.below {w w' : World} {v : Value} {ss : List ByteArray} (h : StrSlice w v ss) (hb : Below w.heap.size w w') : StrSlice w' v ss := by
  obtain ⟨ad, cap, rfl, h⟩ := h
  refine ⟨ad, cap, rfl, h.imp id ?_⟩
  rintro ⟨g, o, rfl, hg, hc⟩
  exact ⟨g, o, rfl, Nat.lt_of_lt_of_le hg hb.size, fun k hk => (hb.cell (p := ⟨g, o + k, none⟩) hg).trans (hc k hk)⟩

theorem SliceR.strSlice {B : Nat} {w : World} {v : Value} {ss : List ByteArray} (h : SliceR 9 1 B w v ss.length (strF ss)) : StrSlice w v ss := by
  obtain ⟨ad, cap, rfl, h⟩ := h
  refine ⟨ad, cap, rfl, h.imp id ?_⟩
  rintro ⟨g, rfl, hB, hr⟩
  exact ⟨g, 0, rfl, hr.lt, fun k hk => by rw [Nat.zero_add]; exact hr.cell (by omega)⟩

theorem row_more {k : Nat} {f f' F : Nat → Value} (hf : ∀ i, i < k → f i = F i) (ho : ∀ i, i < k → f' i = f i) (h0 : f' k = F k) : ∀ i, i < k + 1 → f' i = F i := by
  intro i hi
  by_cases h : i < k
  · rw [ho i h, hf i h]
  · rw [show i = k by omega]
    exact h0

end Go.Proofs.YtgiejnmphfgmgaaGreatDoor

/- Lists of nodes in memory: a copy lies in a row of its own; marks that are put into one are held by it. -/
namespace Go.Proofs.YtgiejnmphfgmgaaGreatDoor
open Go.RowKit

/-- The cells of nodes, told by place. -/
def ndF (ns : List Nd) (i : Nat) : Value := (ns.getD (i / 6) default).cell (i % 6)

theorem ndF_at (ns : List Nd) (j c : Nat) (hc : c < 6) : ndF ns (j * 6 + c) = (ns.getD j default).cell c := by
  unfold ndF
  rw [show (j * 6 + c) / 6 = j by omega, show (j * 6 + c) % 6 = c by omega]

theorem CellRow.nodes {w : World} {g : Nat} {ns : List Nd} (h : CellRow 81 w g (ns.length * 6) (ndF ns)) : NodesAt w g 0 ns := by
  intro j hj c hc
  rw [Nat.zero_add, h.cell (by omega), ndF_at ns j c hc]

set_option maxRecDepth 100000 in
theorem toNodeS_rowsF (b off len cap : Nat) (ns : List Nd) (w : World) (hb : b < w.heap.size) (hn : NodesAt w b off ns) (hl : len ≤ ns.length) (hm : len ≤ 1048576) :
    Calls Tryz.prog 21 #[.slice (some ⟨b, off, none⟩) len cap] w fun e w' => e = .returned (.slice (some ⟨w.heap.size, 0, none⟩) len len) ∧ CellRow 81 w' w.heap.size (len * 6) (ndF ns) ∧ Below w.heap.size w w' := by
  obtain ⟨c, hcs, hmk⟩ := made_nodes len hm w
  have hrow := World.rowIs_alloc w c 81 (fun i => c.getD i undef) (fun i hi => by simp [hi])
  rw [hcs] at hrow
  go_enter Tryz.func21, Tryz.ntmps21
  go_wp2_with fail
  clear hmk
  go_loopw [4] (fun i wr => ∃ (k : Nat) (f : Nat → Value), k ≤ len ∧ i = .int .i64 k ∧ wr.rowIs w.heap.size 81 (len * 6) f ∧ (∀ j, j < k → ∀ c, c < 6 → f (j * 6 + c) = (ns.getD j default).cell c) ∧ Below w.heap.size w wr) (fun i _ => len - (intOf i).toNat)
  case atStart => exact ⟨0, _, Nat.zero_le _, rfl, hrow, fun j hj => by omega, (Below.refl _ _).alloc (Nat.le_refl _) _⟩
  case round =>
    obtain ⟨k, f, hk, rfl, hown, hf, hnx⟩ := hrel
    by_cases hkl : k < len
    · have hcell := fun c (hc : c < 6) => (hnx.cell (p := ⟨b, off + k * 6 + c, none⟩) hb).trans (hn k (by omega) c hc)
      obtain ⟨n, hnd⟩ : ∃ n, ns.getD k default = n := ⟨_, rfl⟩
      rw [hnd] at hcell
      have c0 := hcell 0 (by omega)
      have c1 := hcell 1 (by omega)
      have c2 := hcell 2 (by omega)
      have c3 := hcell 3 (by omega)
      have c4 := hcell 4 (by omega)
      have c5 := hcell 5 (by omega)
      simp only [Nd.cell, Nat.add_zero] at c0 c1 c2 c3 c4 c5
      have Hf : Hid (∀ j, j < k → ∀ c, c < 6 → f (j * 6 + c) = (ns.getD j default).cell c) := hf
      have Hnd : Hid (ns.getD k default = n) := hnd
      clear hcell hn hf hnd
      go_wp2_with fail
      refine (toNode_calls _ _ _ _ _ _ _).mono ?_
      rintro e w1 ⟨rfl, hb1⟩
      clear c0 c1 c2 c3 c4 c5
      have hown1 := hown.of_block (hb1.block w.heap.size hown.lt)
      have hnx1 := hnx.trans (hb1.mono hnx.size)
      have q0 := hown1.cell (i := k * 6) (by omega)
      have q1 := hown1.cell (i := k * 6 + 1) (by omega)
      have q2 := hown1.cell (i := k * 6 + 2) (by omega)
      have q3 := hown1.cell (i := k * 6 + 3) (by omega)
      have q4 := hown1.cell (i := k * 6 + 4) (by omega)
      have q5 := hown1.cell (i := k * 6 + 5) (by omega)
      have z0 := hown1.frozen (k * 6)
      have z1 := hown1.frozen (k * 6 + 1)
      have z2 := hown1.frozen (k * 6 + 2)
      have z3 := hown1.frozen (k * 6 + 3)
      have z4 := hown1.frozen (k * 6 + 4)
      have z5 := hown1.frozen (k * 6 + 5)
      clear hown hnx hb1
      go_wp2_with fail
      obtain ⟨f', hr', hf'⟩ := copy_step hown1 Hf.out Hnd.out
      refine ⟨⟨k + 1, f', by omega, by simp, hr', hf', ?_⟩, by simp [intOf]; omega⟩
      exact (((((hnx1.setCell (by simp) _).setCell (by simp) _).setCell (by simp) _).setCell (by simp) _).setCell (by simp) _).setCell (by simp) _
    · go_wp2_with fail
      go_ret
      refine ⟨rfl, ⟨len * 6, f, rw_of_row hown _, Nat.le_refl _, fun i hi => ?_⟩, hnx⟩
      have := hf (i / 6) (by omega) (i % 6) (by omega)
      rw [show i / 6 * 6 + i % 6 = i by omega] at this
      exact this

theorem toNodeS_row {v : Value} {ns : List Nd} (w : World) (hv : NodeSlice w v ns) (hm : ns.length ≤ 1048576) :
    Calls Tryz.prog 21 #[v] w fun e w' => e = .returned (.slice (some ⟨w.heap.size, 0, none⟩) ns.length ns.length) ∧ SliceR 81 6 w.heap.size w' (.slice (some ⟨w.heap.size, 0, none⟩) ns.length ns.length) ns.length (ndF ns) ∧ w.heap.size < w'.heap.size ∧ Below w.heap.size w w' := by
  obtain ⟨a, cap, rfl, h⟩ := hv
  by_cases he : ns = []
  · subst he
    refine (toNodeS_none a cap w).mono ?_
    rintro e w' ⟨rfl, h1, h2⟩
    exact ⟨rfl, ⟨_, _, rfl, Or.inl rfl⟩, h1, h2⟩
  · obtain ⟨b, off, rfl, hb, hn⟩ := h.resolve_left he
    refine (toNodeS_rowsF b off ns.length cap ns w hb hn (Nat.le_refl _) hm).mono ?_
    rintro e w' ⟨rfl, h1, h3⟩
    exact ⟨rfl, ⟨_, _, rfl, Or.inr ⟨_, rfl, Nat.le_refl _, h1⟩⟩, h1.lt, h3⟩

theorem SliceR.nodesAt {B g n cap : Nat} {w : World} {ns : List Nd} (h : SliceR 81 6 B w (.slice (some ⟨g, 0, none⟩) n cap) ns.length (ndF ns)) : NodesAt w g 0 ns := by
  obtain ⟨ad, c, e, h⟩ := h
  cases e
  by_cases h0 : ns.length = 0
  · intro j hj
    omega
  · obtain ⟨g', e, -, hr⟩ := h.resolve_left h0
    cases e
    exact hr.nodes

/-- The marks, told by the place of the cell. -/
def ndMarks (i : Nat) : Value := if i % 6 = 2 ∨ i % 6 = 3 ∨ i % 6 = 4 then .string (markOf (1 + i)) else .int .i64 (1 + (i : Int))

theorem wrap_six {x : Int} {k n : Nat} (hx : x = 1 + 6 * (k : Int)) (hk : k < n) (hm : n ≤ 1048576) : wrap64 (x + 1) = x + 1 ∧ wrap64 (x + 1 + 1) = x + 1 + 1 ∧ wrap64 (x + 1 + 1 + 1) = x + 1 + 1 + 1 ∧ wrap64 (x + 1 + 1 + 1 + 1) = x + 1 + 1 + 1 + 1 ∧ wrap64 (x + 1 + 1 + 1 + 1 + 1) = x + 1 + 1 + 1 + 1 + 1 ∧ wrap64 (x + 1 + 1 + 1 + 1 + 1 + 1) = x + 1 + 1 + 1 + 1 + 1 + 1 := by
  unfold wrap64
  omega

theorem six_more {k : Nat} {f f' F : Nat → Value} (hf : ∀ i, i < k * 6 → f i = F i) (ho : ∀ i, i < k * 6 → f' i = f i) (h : ∀ c, c < 6 → f' (k * 6 + c) = F (k * 6 + c)) : ∀ i, i < (k + 1) * 6 → f' i = F i := by
  intro i hi
  by_cases hik : i < k * 6
  · rw [ho i hik, hf i hik]
  · have := h (i - k * 6) (by omega)
    rwa [show k * 6 + (i - k * 6) = i by omega] at this

theorem Rw.put {w : World} {g : Nat} {t : TypeId} {N n : Nat} {f : Nat → Value} (h : Rw w g t N f n) (i : Nat) (v : Value) : ∃ f', Rw (w.setCell ⟨g, i, none⟩ v) g t N f' n ∧ f' i = v ∧ ∀ j, j ≠ i → f' j = f j :=
  ⟨_, h.set i v, if_pos rfl, fun _ hj => if_neg hj⟩

set_option maxHeartbeats 4000000 in
set_option maxRecDepth 100000 in
theorem markNodeS_rows (g n cap : Nat) (F : Nat → Value) (w : World) (hm : n ≤ 1048576) (hr : CellRow 81 w g (n * 6) F) :
    Calls Tryz.prog 31 #[.slice (some ⟨g, 0, none⟩) n cap, .int .i64 1] w fun e w' => e = .returned (.int .i64 (1 + 6 * (n : Int))) ∧ CellRow 81 w' g (n * 6) ndMarks ∧ w.grownBy w' (some g) := by
  obtain ⟨N, f, hf, hN, _⟩ := hr
  have HM : Hid (n ≤ 1048576) := hm
  clear hm
  go_enter Tryz.func31, Tryz.ntmps31
  go_wp2_with fail
  go_loopw [1, 5] (fun m i wr => ∃ (k : Nat) (x : Int) (f : Nat → Value), k ≤ n ∧ i = .int .i64 k ∧ m = .int .i64 x ∧ Hid (x = 1 + 6 * (k : Int)) ∧ Rw wr g 81 N f (n * 6) ∧ Hid (∀ j, j < k * 6 → f j = ndMarks j) ∧ w.grownBy wr (some g)) (fun _ i _ => n - (intOf i).toNat)
  case atStart => exact ⟨0, 1, f, Nat.zero_le _, rfl, rfl, by show _ = _; simp, hf, fun j hj => by omega, kept_refl _ _⟩
  case round =>
    obtain ⟨k, x, f, hk, rfl, rfl, Hx, hrow, HF, hgr⟩ := hrel
    clear hf
    by_cases hkl : (k : Int) < (n : Int)
    · have HW := hid (wrap_six Hx.out (by omega) HM.out)
      have HC : Hid (∀ (c : Nat) (X : World), 2 ≤ c → c ≤ 4 → Calls Tryz.prog 67 #[.int .i64 (x + (c : Int))] X fun e w' => e = .returned (.string (markOf (1 + (k * 6 + c)))) ∧ Below X.heap.size X w') := fun c X h1 h2 => by
        have := mark_callsZ (x + (c : Int)) (by show _ ∧ _; have := Hx.out; have := HM.out; omega) X
        rwa [show (x + (c : Int)).toNat = 1 + (k * 6 + c) by have := Hx.out; omega] at this
      have HC2 := hid (fun X => HC.out 2 X (by decide) (by decide))
      have HC3 := hid (fun X => HC.out 3 X (by decide) (by decide))
      have HC4 := hid (fun X => HC.out 4 X (by decide) (by decide))
      rw [show x + ((2 : Nat) : Int) = x + 1 + 1 by omega] at HC2
      rw [show x + ((3 : Nat) : Int) = x + 1 + 1 + 1 by omega] at HC3
      rw [show x + ((4 : Nat) : Int) = x + 1 + 1 + 1 + 1 by omega] at HC4
      have HB : Hid (ndMarks (k * 6 + 0) = .int .i64 x ∧ ndMarks (k * 6 + 1) = .int .i64 (x + 1) ∧ ndMarks (k * 6 + 2) = .string (markOf (1 + (k * 6 + 2))) ∧ ndMarks (k * 6 + 3) = .string (markOf (1 + (k * 6 + 3))) ∧ ndMarks (k * 6 + 4) = .string (markOf (1 + (k * 6 + 4))) ∧ ndMarks (k * 6 + 5) = .int .i64 (x + 1 + 1 + 1 + 1 + 1)) := by
        have hx := Hx.out
        unfold ndMarks
        refine ⟨?_, ?_, ?_, ?_, ?_, ?_⟩
        · rw [if_neg (by omega)]; congr 1; omega
        · rw [if_neg (by omega)]; congr 1; omega
        · rw [if_pos (by omega)]
        · rw [if_pos (by omega)]
        · rw [if_pos (by omega)]
        · rw [if_neg (by omega)]; congr 1; omega
      generalize markOf (1 + (k * 6 + 2)) = m2 at *
      generalize markOf (1 + (k * 6 + 3)) = m3 at *
      generalize markOf (1 + (k * 6 + 4)) = m4 at *
      have q0 := hrow.cell (i := k * 6) (by omega)
      have q1 := hrow.cell (i := k * 6 + 1) (by omega)
      have z0 := hrow.frozen (k * 6) (by omega)
      have z1 := hrow.frozen (k * 6 + 1) (by omega)
      clear HC
      obtain ⟨e1, e2, e3, e4, e5, e6⟩ := HW.out
      have HE := hid (And.intro e1 (And.intro e2 (And.intro e3 (And.intro e4 (And.intro e5 e6)))))
      clear e1 e2 e3 e4 e5 e6 HW
      go_wp2_with fail
      obtain ⟨e1, e2, e3, e4, e5, e6⟩ := HE.out
      simp only [e1, e2]
      clear e1 e2 e3 e4 e5 e6
      refine (HC2.out _).mono ?_
      rintro e W1 ⟨rfl, hb1⟩
      obtain ⟨f0, r0, a0, o0⟩ := hrow.put (k * 6) (.int .i64 x)
      obtain ⟨f1, r1, a1, o1⟩ := r0.put (k * 6 + 1) (.int .i64 (x + 1))
      have r1' := r1.of_block (hb1.block g r1.lt)
      have hgr1 := kept_below (kept_set (kept_set hgr (k * 6) (.int .i64 x)) (k * 6 + 1) (.int .i64 (x + 1))) hb1
      have q2 := r1'.cell (i := k * 6 + 2) (by omega)
      have z2 := r1'.frozen (k * 6 + 2) (by omega)
      have HO0 := hid (And.intro a0 o0)
      have HO1 := hid (And.intro a1 o1)
      clear q0 q1 z0 z1 hrow r0 r1 hb1 hgr a0 o0 a1 o1 HC2
      go_wp2_with fail
      obtain ⟨e1, e2, e3, e4, e5, e6⟩ := HE.out
      simp only [e3]
      clear e1 e2 e3 e4 e5 e6
      refine (HC3.out _).mono ?_
      rintro e W2 ⟨rfl, hb2⟩
      obtain ⟨f2, r2, a2, o2⟩ := r1'.put (k * 6 + 2) (.string m2)
      have r2' := r2.of_block (hb2.block g r2.lt)
      have hgr2 := kept_below (kept_set hgr1 (k * 6 + 2) (.string m2)) hb2
      have q3 := r2'.cell (i := k * 6 + 3) (by omega)
      have z3 := r2'.frozen (k * 6 + 3) (by omega)
      have HO2 := hid (And.intro a2 o2)
      clear q2 z2 r1' r2 hb2 hgr1 a2 o2 HC3
      go_wp2_with fail
      obtain ⟨e1, e2, e3, e4, e5, e6⟩ := HE.out
      simp only [e4]
      clear e1 e2 e3 e4 e5 e6
      refine (HC4.out _).mono ?_
      rintro e W3 ⟨rfl, hb3⟩
      obtain ⟨f3, r3, a3, o3⟩ := r2'.put (k * 6 + 3) (.string m3)
      have r3' := r3.of_block (hb3.block g r3.lt)
      have hgr3 := kept_below (kept_set hgr2 (k * 6 + 3) (.string m3)) hb3
      have q4 := r3'.cell (i := k * 6 + 4) (by omega)
      have z4 := r3'.frozen (k * 6 + 4) (by omega)
      have q5 := r3'.cell (i := k * 6 + 5) (by omega)
      have z5 := r3'.frozen (k * 6 + 5) (by omega)
      have HO3 := hid (And.intro a3 o3)
      clear q3 z3 r2' r3 hb3 hgr2 a3 o3 HC4
      go_wp2_with fail
      obtain ⟨e1, e2, e3, e4, e5, e6⟩ := HE.out
      simp only [e5, e6]
      obtain ⟨f4, r4, a4, o4⟩ := r3'.put (k * 6 + 4) (.string m4)
      obtain ⟨f5, r5, a5, o5⟩ := r4.put (k * 6 + 5) (.int .i64 (x + 1 + 1 + 1 + 1 + 1))
      obtain ⟨a0, o0⟩ := HO0.out
      obtain ⟨a1, o1⟩ := HO1.out
      obtain ⟨a2, o2⟩ := HO2.out
      obtain ⟨a3, o3⟩ := HO3.out
      obtain ⟨b0, b1, b2, b3, b4, b5⟩ := HB.out
      rw [wrap_inc (n := n) (by omega) HM.out]
      have hs : n - (intOf (.int .i64 ((k + 1 : Nat) : Int))).toNat < n - (intOf (.int .i64 (k : Int))).toNat := by simp only [intOf, Int.toNat_natCast]; omega
      have hx := Hx.out
      refine ⟨⟨k + 1, x + 1 + 1 + 1 + 1 + 1 + 1, f5, by omega, rfl, rfl, by show _ = _; omega, r5, six_more HF.out (fun i hi => ?_) (fun c hc => ?_), kept_set (kept_set hgr3 _ _) _ _⟩, hs⟩
      · rw [o5 i (by omega), o4 i (by omega), o3 i (by omega), o2 i (by omega), o1 i (by omega), o0 i (by omega)]
      · match c, hc with
        | 0, _ => rw [o5 _ (by omega), o4 _ (by omega), o3 _ (by omega), o2 _ (by omega), o1 _ (by omega), b0]; exact a0
        | 1, _ => rw [o5 _ (by omega), o4 _ (by omega), o3 _ (by omega), o2 _ (by omega), a1, b1]
        | 2, _ => rw [o5 _ (by omega), o4 _ (by omega), o3 _ (by omega), a2, b2]
        | 3, _ => rw [o5 _ (by omega), o4 _ (by omega), a3, b3]
        | 4, _ => rw [o5 _ (by omega), a4, b4]
        | 5, _ => rw [a5, b5]
    · have hkn : k = n := by omega
      subst hkn
      have HX : Hid (x = 1 + 6 * (k : Int)) := Hx
      clear Hx
      go_wp2_with fail
      go_ret
      exact ⟨by rw [← HX.out]; rfl, ⟨N, f, hrow, hN, HF.out⟩, hgr⟩

set_option maxRecDepth 100000 in
theorem markNodeS_none (ad : Option Addr) (cap : Nat) (w : World) :
    Calls Tryz.prog 31 #[.slice ad 0 cap, .int .i64 1] w fun e w' => e = .returned (.int .i64 1) ∧ w = w' := by
  go_enter Tryz.func31, Tryz.ntmps31
  go_wp2
  refine wp_loop_rounds 1 ?_
  rw [rounds_succ]
  go_wp2
  go_ret
  exact ⟨rfl, rfl⟩

theorem markNodeS_any {B n : Nat} {v : Value} {F : Nat → Value} (w : World) (hm : n ≤ 1048576) (h : SliceR 81 6 B w v n F) :
    Calls Tryz.prog 31 #[v, .int .i64 1] w fun e w' => e = .returned (.int .i64 (1 + 6 * (n : Int))) ∧ SliceR 81 6 B w' v n ndMarks ∧ Turned w w' v n := by
  obtain ⟨ad, cap, rfl, h⟩ := h
  by_cases h0 : n = 0
  · subst h0
    refine (markNodeS_none ad cap w).mono ?_
    rintro e w' ⟨rfl, rfl⟩
    exact ⟨by simp, ⟨ad, cap, rfl, Or.inl rfl⟩, none, kept_refl _ _, Or.inl rfl⟩
  · obtain ⟨g, rfl, hB, hr⟩ := h.resolve_left h0
    refine (markNodeS_rows g n cap F w hm hr).mono ?_
    rintro e w' ⟨rfl, hr', hg⟩
    exact ⟨rfl, ⟨_, cap, rfl, Or.inr ⟨g, rfl, hB, hr'⟩⟩, some g, hg, Or.inr ⟨h0, rfl⟩⟩
end Go.Proofs.YtgiejnmphfgmgaaGreatDoor

/- The specification's plainer names a tree anew: the plain walk. -/
namespace Go.Proofs.YtgiejnmphfgmgaaGreatDoor
open Go.RowKit Go.Deep

/-- The first of a node's names that is made anew. -/
def firstZ (k : Int) : Nat := if k = 26 ∨ k = 22 then 1 else 0

theorem names_first {k : Int} (h5 : k ≠ 5) : namesZ k = ((firstZ k + makesZ k : Nat) : Int) := by
  obtain ⟨h1, h2, h3, -⟩ := namesZ_makes k
  unfold firstZ
  by_cases e26 : k = 26
  · rw [if_pos (Or.inl e26), (h2 e26).1, (h2 e26).2]; rfl
  by_cases e22 : k = 22
  · rw [if_pos (Or.inr e22), (h3 e22).1, (h3 e22).2]; rfl
  · rw [if_neg (by omega), h1 h5 e22 e26]; simp

/-- The texts of a node, told by place, the first made anew up to so many. -/
def textA (n : Nd) (made c : Nat) (j : Nat) : ByteArray := if firstZ n.kind ≤ j ∧ j < firstZ n.kind + c then freshZ (made + (j - firstZ n.kind)) else if j = 0 then n.a else if j = 1 then n.b else n.c

theorem textA_ren {n : Nd} (sc : Sco) (made : Nat) (h5 : n.kind ≠ 5) : renZ n sc made = { n with a := textA n made (makesZ n.kind) 0, b := textA n made (makesZ n.kind) 1, c := textA n made (makesZ n.kind) 2 } := by
  obtain ⟨kd, num, a, b, c, kids⟩ := n
  dsimp only at *
  unfold renZ textA firstZ makesZ
  dsimp only
  rw [if_neg h5]
  by_cases h6 : kd = 6
  · subst h6; simp
  by_cases h25 : kd = 25
  · subst h25; simp
  by_cases h8 : kd = 8
  · subst h8; simp
  by_cases h9 : kd = 9
  · subst h9; simp
  by_cases h20 : kd = 20
  · subst h20; simp
  by_cases h26 : kd = 26
  · subst h26; simp
  by_cases h22 : kd = 22
  · subst h22; simp
  · simp [h6, h25, h8, h9, h20, h26, h22]

theorem news_take_succ (k : Int) (made c : Nat) (h : c < makesZ k) : (newsZ k made).take (c + 1) = (newsZ k made).take c ++ [freshZ (made + c)] := by
  have h2 := makesZ_le k
  unfold newsZ
  have : makesZ k = 1 ∨ makesZ k = 2 := by omega
  rcases this with e | e
  · rw [e] at h ⊢
    have : c = 0 := by omega
    subst this
    rfl
  · rw [e] at h ⊢
    have : c = 0 ∨ c = 1 := by omega
    rcases this with rfl | rfl <;> rfl

theorem renS_same (n : Nd) (sc : Sco) (made : Nat) : (renS n sc made).kind = n.kind ∧ (renS n sc made).num = n.num ∧ (renS n sc made).kids = n.kids := by
  unfold renS renZ
  repeat' split
  all_goals exact ⟨rfl, rfl, rfl⟩

theorem snoc_get {xs : List Value} {x : Value} {c : Nat} (h : xs.length = c) : (xs ++ [x])[c]? = some x := by
  subst h
  simp

theorem textA_next (n : Nd) (made c : Nat) (j : Nat) (hj : j ≠ firstZ n.kind + c) : textA n made (c + 1) j = textA n made c j := by
  unfold textA
  by_cases h : firstZ n.kind ≤ j ∧ j < firstZ n.kind + c
  · rw [if_pos h, if_pos ⟨h.1, by omega⟩]
  · rw [if_neg h, if_neg (by omega)]

theorem textA_here (n : Nd) (made c : Nat) : textA n made (c + 1) (firstZ n.kind + c) = freshZ (made + c) := by
  unfold textA
  rw [if_pos ⟨by omega, by omega⟩]
  congr 1
  omega

end Go.Proofs.YtgiejnmphfgmgaaGreatDoor

/- The specification's TreePlain. -/
namespace Go.Proofs.YtgiejnmphfgmgaaGreatDoor
open Go.RowKit Go.Deep

theorem free_nil (s : Wst) : freeOf s = [] ↔ s.free = [] := by
  unfold freeOf
  constructor
  · intro h
    cases hf : s.free with
    | nil => rfl
    | cons x r =>
      exfalso
      have := (fold_sorted (textsOf s.free) [] List.Pairwise.nil).2 x.data.toList
      rw [h] at this
      have h2 := this.2 (Or.inl (by rw [hf]; unfold textsOf; simp))
      cases h2
  · intro h
    rw [h]
    rfl

end Go.Proofs.YtgiejnmphfgmgaaGreatDoor

/- The program's Compile. -/
namespace Go.Proofs.YtgiejnmphfgmgaaGreatDoor
open Go.RowKit Go.Deep

theorem km_start {B : Nat} {W : World} {ve : Value} {Mb : Nat} (h : W.heap[Mb]? = some (.cells #[ve, .slice none 0 0, .slice none 0 0] 61)) : Km B W Mb ve ⟨[], []⟩ [] (.slice none 0 0) (.slice none 0 0) W :=
  ⟨h, World.ownsRow_nil _ _ _ _, World.ownsRow_nil _ _ _ _, fun x hx => by simp at hx, rfl, rfl, rfl, rfl, Nat.le_refl _, fun _ _ _ => rfl, heap_lt h⟩

theorem km_belowW {B : Nat} {W W0 : World} {Mb : Nat} {ve : Value} {s : Cs} {ls : List (Lt × Value)} {vo vl : Value} {X : World} (h : Km B W0 Mb ve s ls vo vl X) (hb : Below W.heap.size W W0) (hM : W.heap.size ≤ Mb) : Below W.heap.size W X :=
  ⟨h.os.trans hb.os, h.tape.trans hb.tape, h.output.trans hb.output, Nat.le_trans hb.size h.size, fun q hq => (h.kept q (Nat.lt_of_lt_of_le hq hb.size) (by omega)).trans (hb.block q hq)⟩

theorem ans_parts {ns : List Nd} (h : SpecAns ns true) : ∃ (n : Nd) (k : Fo), ns = n :: k.flat ∧ n.kids = k.count ∧ k.wf ∧ ns.length ≤ 300 ∧ (n.kind ≠ 25 ∧ n.kind ≠ 26) ∧ specKids k n.kind 0 [] = true := by
  rcases h with ⟨-, h⟩ | ⟨-, -, -, h⟩ | ⟨h1, h2, n, k, e1, e2, e3, h⟩
  · cases h
  · cases h
  · have h' := h.symm
    simp only [Bool.and_eq_true] at h'
    have hs := h'.2.2
    unfold specTree at hs
    rw [Bool.and_eq_true] at hs
    exact ⟨n, k, e1, e2, e3, h2, clz_none (p := 0) (i := 0) (by simpa [role] using hs.1) (by omega), hs.2⟩

theorem prog_trueC {es : List Ef} {ns : List Nd} {T : Bool} (h : progZ es ns T = true) : T = true := by
  unfold progZ at h
  simp only [Bool.and_eq_true] at h
  exact h.2.1

theorem impl_all {ns : List Nd} (h : ImplAns ns true) : ns.all nodeOkZ = true := by
  rcases h with ⟨-, h⟩ | ⟨-, -, -, h⟩ | ⟨-, -, n, k, e1, e2, e3, h⟩
  · cases h
  · cases h
  · have h' := h.symm
    simp only [Bool.and_eq_true] at h'
    exact h'.1

theorem impl_fits {ns : List Nd} (hall : ns.all nodeOkZ = true) (m : Nd) (hm : m ∈ ns) : Fits m m.kids.toNat := by
  have := List.all_eq_true.1 hall m hm
  simp only [nodeOkZ, Bool.and_eq_true] at this
  exact fits_of_own this.1

set_option maxHeartbeats 8000000 in
set_option maxRecDepth 100000 in
theorem implCompile_calls {W : World} {be bt : Nat} {es : List Ef} {ns : List Nd} (hbe : be < W.heap.size) (hE : EffsAt W be 0 es) (hel : es.length ≤ 1000) (hsh : ∀ e ∈ es, e.name.size ≤ maxLen) (hbt : bt < W.heap.size) (hN : NodesAt W bt 0 ns) (hl : ns.length ≤ 300) (hns : Short ns) (hL : Laid W) :
    Calls Tryz.prog 7 #[.agg #[.slice (some ⟨be, 0, none⟩) es.length es.length, .slice (some ⟨bt, 0, none⟩) ns.length ns.length]] W (CompR es ns W) := by
  obtain ⟨T, hSA, hIA⟩ := answers ns
  have hA := (MapKept.heap_alloc W (.cells #[.slice (some ⟨be, 0, none⟩) es.length es.length, .slice (some ⟨bt, 0, none⟩) ns.length ns.length] 33)).1
  have hB1 := (Below.refl W.heap.size W).alloc (Nat.le_refl _) (.cells #[.slice (some ⟨be, 0, none⟩) es.length es.length, .slice (some ⟨bt, 0, none⟩) ns.length ns.length] 33)
  obtain ⟨Y, hY⟩ : ∃ Y, W.alloc (.cells #[.slice (some ⟨be, 0, none⟩) es.length es.length, .slice (some ⟨bt, 0, none⟩) ns.length ns.length] 33) = Y := ⟨_, rfl⟩
  rw [hY] at hA hB1
  have HP := hid (implProg_calls be bt es ns T Y (Nat.lt_of_lt_of_le hbe hB1.size) (Nat.lt_of_lt_of_le hbt hB1.size) (hE.below hB1 hbe) (hN.below hB1 hbt) (by omega) (by omega) hsh (fun w' h1 h2 => implTree_calls bt 0 ns.length ns w' T (by omega) h1 h2 hns hIA))
  have HY := hid hY
  have HA := hid hA
  have HB1 := hid hB1
  have HE := hid (And.intro hbe hE)
  have HN := hid (And.intro hbt hN)
  have HL := hid (And.intro hel hl)
  have HSA := hid hSA
  have HIA := hid hIA
  have HNs := hid hns
  have HLd := hid hL
  have e0 := cell_of_heap HA.out 0
  have e1 := cell_of_heap HA.out 1
  simp at e0 e1
  clear hE hel hbt hN hl hSA hA hB1 hY hbe hsh hns hL hIA
  go_enter Tryz.func7, Tryz.ntmps7
  go_upto_region 1 with fail
  rw [HY.out]
  clear HY
  go_wp2_with fail
  refine HP.out.mono ?_
  rintro e X1 ⟨rfl, hb2⟩
  have HB2 := hid (HB1.out.trans (hb2.mono HB1.out.size))
  have HA2 := hid ((hb2.block W.heap.size (heap_lt HA.out)).trans HA.out)
  clear hb2 HP e0 e1
  have e0 := cell_of_heap HA2.out 0
  have e1 := cell_of_heap HA2.out 1
  simp at e0 e1
  have hUni : ∀ T', SpecAns ns T' → T' = T := fun T' h' => spec_ans_one h' HSA.out
  have HUni := hid hUni
  clear hUni
  cases hR : progZ es ns T with
  | false =>
    go_wp2_with fail
    go_ret2
    exact ⟨_, [], false, rfl, World.ownsRow_nil _ _ _ _, Nat.zero_le _, HB2.out, Or.inl ⟨rfl, rfl, fun T' h1 h2 => by rw [HUni.out T' h1, hR] at h2; cases h2⟩⟩
  | true =>
    have hT := prog_trueC hR
    subst hT
    have HR := hid hR
    clear hR
    obtain ⟨n, k, g1, g2, g3, -, gk, gs⟩ := ans_parts HSA.out
    have hall : ns.all nodeOkZ = true := impl_all HIA.out
    have hfit : ∀ m ∈ ns, Fits m m.kids.toNat := fun m hm => impl_fits hall m hm
    have HG := hid (And.intro g1 (And.intro g2 g3))
    have HGk := hid (And.intro gk gs)
    have HFm := hid (fun (X : World) (hx : Below W.heap.size W X) => formOfTree_calls bt 0 ns.length ns n k X HL.out.2 hfit (Nat.lt_of_lt_of_le HN.out.1 hx.size) (HN.out.2.below hx HN.out.1) g1 g2 g3)
    have HF := hid (implFree_calls (cap := ns.length) X1 HL.out.2 (Nat.lt_of_lt_of_le HN.out.1 HB2.out.size) (HN.out.2.below HB2.out HN.out.1) HNs.out HIA.out hall g1 g2 g3 (HLd.out.stays HB2.out))
    clear g1 g2 g3 hall hfit gk gs
    go_wp2_with fail
    refine HF.out.mono ?_
    rintro e X2 ⟨u, rfl, hb3, hu⟩
    obtain ⟨au, cu, rfl⟩ := own_slice hu
    have HB3 := hid (HB2.out.trans (hb3.mono HB2.out.size))
    have HA3 := hid ((hb3.block W.heap.size (heap_lt HA2.out)).trans HA2.out)
    obtain ⟨L, hLn⟩ : ∃ L, (freeOf (wholeW n k)).length = L := ⟨_, rfl⟩
    rw [hLn]
    have HLn := hid hLn
    clear hu hb3 HF e0 e1 hLn
    by_cases hL0 : (0 : Int) < (L : Int)
    · go_wp2_with fail
      go_ret2
      exact ⟨_, [], false, rfl, World.ownsRow_nil _ _ _ _, Nat.zero_le _, HB3.out, Or.inl ⟨rfl, rfl, fun _ _ _ => ⟨n, k, HG.out.1, HG.out.2.1, HG.out.2.2, fun e => by have := HLn.out; rw [e] at this; simp at this; omega⟩⟩⟩
    · have hfr : freeOf (wholeW n k) = [] := List.eq_nil_of_length_eq_zero (by have := HLn.out; omega)
      have HFr := hid hfr
      have HBd := hid (bd_whole HGk.out.1 HGk.out.2 ((free_nil _).1 hfr) 0)
      have e0 := cell_of_heap HA3.out 0
      have e1 := cell_of_heap HA3.out 1
      simp at e0 e1
      have hC := (MapKept.heap_alloc X2 (.cells #[.slice (some ⟨be, 0, none⟩) es.length es.length, .slice none 0 0, .slice none 0 0] 61)).1
      have hB4 := (Below.refl X2.heap.size X2).alloc (Nat.le_refl _) (.cells #[.slice (some ⟨be, 0, none⟩) es.length es.length, .slice none 0 0, .slice none 0 0] 61)
      obtain ⟨W1, hW1⟩ : ∃ W1, X2.alloc (.cells #[.slice (some ⟨be, 0, none⟩) es.length es.length, .slice none 0 0, .slice none 0 0] 61) = W1 := ⟨_, rfl⟩
      rw [hW1] at hC hB4
      have HW1 := hid hW1
      have HC := hid hC
      have HA4 := hid ((hB4.block W.heap.size (heap_lt HA3.out)).trans HA3.out)
      have HB4 := hid (HB3.out.trans (hB4.mono HB3.out.size))
      obtain ⟨Mb, hMb⟩ : ∃ Mb, X2.heap.size = Mb := ⟨_, rfl⟩
      have HMb := hid (show W.heap.size ≤ Mb ∧ Mb < W1.heap.size ∧ be < Mb by have := HB3.out.size; have := heap_lt hC; have := HE.out.1; omega)
      rw [hMb] at HC
      have HF4 := hid (HFm.out W1 HB4.out)
      clear hfr hC hB4 hW1 HFm
      go_upto_region 4 with fail
      rw [HW1.out]
      try rw [hMb]
      clear HW1 e0 e1 hMb
      have e1 := cell_of_heap HA4.out 1
      simp at e1
      go_wp2_with fail
      clear e1
      refine HF4.out.mono ?_
      rintro e W0 ⟨v, us, rfl, hF, hS, hb5⟩
      have HB5 := hid (HB4.out.trans (hb5.mono HB4.out.size))
      have HFK : Hid (FormK W1.heap.size W0 ⟨n, k, 0⟩ v) := ⟨us, hF, hS⟩
      have hC0 := (hb5.block Mb (heap_lt HC.out)).trans HC.out
      have S0 : Hid (KmE W1.heap.size W0 Mb (.slice (some ⟨be, 0, none⟩) es.length es.length) ⟨[], []⟩ W0) := ⟨_, _, _, km_start hC0⟩
      have HX : Hid (Ex W0 Mb (some ⟨be, 0, none⟩) es) := ⟨HL.out.1, fun _ => ⟨be, 0, rfl, Nat.lt_of_lt_of_le HE.out.1 HB5.out.size, by have := HMb.out; omega, HE.out.2.below HB5.out HE.out.1⟩⟩
      have HPA := hid (put_all (ce := es.length) (ns := ns) (K := 1000) HX.out (Nat.le_refl _) HMb.out.2.1 400)
      have HS := hid (stands_of HSA.out HG.out.1 HG.out.2.1 HG.out.2.2)
      have HSz : Hid ((⟨n, k, 0⟩ : Tp).size ≤ 300) := by
        show _ ≤ _
        have := HL.out.2
        rw [HG.out.1, List.length_cons] at this
        exact this
      have HC0 := hid (HPA.out ⟨n, k, 0⟩ v none [] ⟨[], []⟩ W0 (by have := HSz.out; omega) HS.out HBd.out (by have := HSz.out; simp; omega) (by have := HSz.out; simp [Cs.rest]; omega) HFK.out S0.out rfl)
      have R0 := hid (part_r (ns := ns) (K := 1000) (es := es) 400 ⟨n, k, 0⟩ [] ⟨[], []⟩ (by have := HSz.out; omega) HS.out (by have := HSz.out; simp; omega))
      obtain ⟨tv, pv, rfl⟩ := hS.iface
      clear hF hS hb5 hC0 HF4
      go_wp2_with fail
      refine HC0.out.mono ?_
      rintro e X4 ⟨⟨x4, rfl⟩, h4, -⟩
      obtain ⟨s4, hs4⟩ : ∃ x, partZ es 400 ⟨n, k, 0⟩ [] ⟨[], []⟩ = x := ⟨_, rfl⟩
      rw [hs4] at h4 R0
      have S4 := hid h4
      have HS4 := hid hs4
      clear h4 hs4 HC0
      have HR0 : Hid (s4.out.length + 10 * s4.rest ≤ 3000 ∧ s4.rest ≤ 299 ∧ LOk ns 1000 s4) := by
        have h1 := R0.out.cost
        have h2 := R0.out.rest
        have h3 := HSz.out
        have h4 : (⟨[], []⟩ : Cs).rest = 0 := rfl
        have h5 : (⟨[], []⟩ : Cs).out.length = 0 := rfl
        exact ⟨by omega, by omega, R0.out.ok (fun l hl => by cases hl)⟩
      go_wp2_with fail
      refine (addI_calls ⟨0, 0, 0, 0⟩ S4.out (by have := HR0.out.1; omega)).mono ?_
      rintro e X5 ⟨rfl, h5, -⟩
      obtain ⟨n5, hn5⟩ : ∃ m, s4.out.length = m := ⟨_, rfl⟩
      rw [hn5]
      have S5 := hid h5
      clear h5 hn5
      obtain ⟨FIN, hFIN⟩ : ∃ x, codeZ es n k = x := ⟨_, rfl⟩
      have HFIN : Hid ((restZ es 400 0 (s4.put ⟨0, 0, 0, 0⟩)).out = FIN) := by
        show _ = _
        rw [← hFIN, ← HS4.out]
        rfl
      have HFQ := hid hFIN
      clear hFIN
      go_wp2_with fail
      go_loopw [5] (fun i wr => ∃ (i' : Nat) (s : Cs), i = .int .i64 (i' : Int) ∧ Hid (KmE W1.heap.size W0 Mb (.slice (some ⟨be, 0, none⟩) es.length es.length) s wr ∧ LOk ns 1000 s ∧ s.out.length + 10 * s.rest + 3000 * pend s i' ≤ 900001 ∧ i' + pend s i' ≤ 300 ∧ i' ≤ s.later.length ∧ (restZ es (400 - i') i' s).out = FIN)) (fun i _ => 400 - (intOf i).toNat)
      case atStart =>
        refine ⟨0, _, rfl, S5.out, ?_, ?_, ?_, Nat.zero_le _, HFIN.out⟩
        · exact (Rs.put ns 1000 s4 ⟨0, 0, 0, 0⟩).ok HR0.out.2.2
        · have h1 := HR0.out
          have h2 : (s4.put ⟨0, 0, 0, 0⟩).rest = s4.rest := rfl
          have h3 : pend (s4.put ⟨0, 0, 0, 0⟩) 0 = s4.rest := rfl
          have h4 : (s4.put ⟨0, 0, 0, 0⟩).out.length = s4.out.length + 1 := by simp [Cs.put]
          omega
        · have h1 := HR0.out
          have h3 : pend (s4.put ⟨0, 0, 0, 0⟩) 0 = s4.rest := rfl
          omega
      case round =>
        obtain ⟨i', s, rfl, HI⟩ := hrel
        obtain ⟨ls, vo, vl, hcm⟩ := HI.out.1
        obtain ⟨adl, cpl, hvl⟩ := own_slice hcm.lrow
        subst hvl
        have hll : ls.length = s.later.length := by rw [← hcm.lfst, List.length_map]
        have d2 := cell_of_heap hcm.blk 2
        simp at d2
        by_cases hi : (i' : Int) < (ls.length : Int)
        · have hil : i' < s.later.length := by omega
          obtain ⟨gl, hgl⟩ : ∃ g, adl = some ⟨g, 0, none⟩ := by
            obtain ⟨-, ⟨-, h0⟩ | ⟨g, cap, cur, e, -⟩⟩ := hcm.lrow
            · omega
            · cases e
              exact ⟨g, rfl⟩
          subst hgl
          have hls : s.later.getD i' default = (ls.getD i' default).1 := by
            rw [← hcm.lfst]
            simp [List.getD, show i' < ls.length by omega]
          have hmem : ls.getD i' default ∈ ls := getD_mem (by omega)
          have hcs : wr.cell? ⟨gl, i', none⟩ = some (ls.getD i' default).2 := by
            rw [hcm.lrow.cellAt i' (by omega)]
            simp [List.getD, show i' < ls.length by omega]
          obtain ⟨⟨l, v⟩, hlv⟩ : ∃ x, ls.getD i' default = x := ⟨_, rfl⟩
          rw [hlv] at hcs hmem hls
          have hlate := hcm.late _ hmem
          dsimp only at hls hlate hcs
          have hl2 := hlate
          obtain ⟨p4, p5, p6, p7, fv, kn, tv, rfl, -⟩ := hl2
          have hlm : l ∈ s.later := by rw [← hls]; exact getD_mem hil
          obtain ⟨q1, q2, q3⟩ := HI.out.2.1 l hlm
          have hnx := next_r (es := es) hil HL.out.2 HI.out.2.1 HI.out.2.2.1 HI.out.2.2.2.1
          rw [hls] at hnx
          have HNx := hid hnx
          have hpn := pend_next hil
          rw [hls] at hpn
          have HFn : Hid ((restZ es (400 - (i' + 1)) (i' + 1) (nextZ es l s)).out = FIN) := by
            have h1 := HI.out.2.2.2.2.2
            rw [show 400 - i' = (400 - (i' + 1)) + 1 by have := HI.out.2.2.2.1; omega, restZ, if_pos hil] at h1
            dsimp only at h1
            have hd : s.later.getD i' ⟨default, [], 0, 0⟩ = l := hls
            rw [hd] at h1
            exact h1
          have HLC := hid (late_calls HPA.out hlate (by have := q1.lt.2.2; have := HL.out.2; omega) q1 q2.1 (by have h1 := HI.out.2.2.1; have h2 := q1.lt.2.2; have h3 := HL.out.2; omega) q3 HI.out.1)
          have hi0 : (0 : Int) ≤ (i' : Int) := by omega
          have hstep : 400 - (intOf (.int .i64 ((i' + 1 : Nat) : Int))).toNat < 400 - (intOf (.int .i64 (i' : Int))).toNat := by
            have := HI.out.2.2.2.1
            simp only [intOf, Int.toNat_natCast]
            omega
          have HstP := hid hstep
          have hi9 : Hid (i' ≤ 1000) := by show _ ≤ _; have := HI.out.2.2.2.1; omega
          clear hcm hll hil hmem hls hlv hlate hlm q1 q2 q3 hnx hpn hstep
          go_wp2_with fail
          refine HLC.out.mono ?_
          rintro e E3 ⟨⟨x3, rfl⟩, h3, -⟩
          have E3S := hid h3
          clear h3 hcs d2 HLC
          go_wp2_with fail
          try rw [wrap_succ (by have := hi9.out; omega)]
          exact ⟨⟨i' + 1, nextZ es l s, rfl, E3S.out, HNx.out.1, HNx.out.2.1, HNx.out.2.2.1, HNx.out.2.2.2, HFn.out⟩, HstP.out⟩
        · have hie : ¬ i' < s.later.length := by omega
          have HFn : Hid (s.out = FIN) := by
            have h1 := HI.out.2.2.2.2.2
            rw [show 400 - i' = (399 - i') + 1 by have := HI.out.2.2.2.1; omega, restZ, if_neg hie] at h1
            exact h1
          obtain ⟨ado, cpo, hvo⟩ := own_slice hcm.orow
          subst hvo
          have d1 := cell_of_heap hcm.blk 1
          simp at d1
          have HCm := hid hcm
          clear hcm hll
          go_wp2_with fail
          go_ret2
          exact ⟨_, s.out, true, rfl, own_base HCm.out.orow HB5.out.size, by have := HI.out.2.2.1; omega, km_belowW HCm.out HB5.out HMb.out.1, Or.inr ⟨rfl, n, k, ⟨true, HSA.out, HR.out⟩, HG.out.1, HG.out.2.1, HG.out.2.2, HFr.out, by rw [HFn.out, HFQ.out]⟩⟩
end Go.Proofs.YtgiejnmphfgmgaaGreatDoor
