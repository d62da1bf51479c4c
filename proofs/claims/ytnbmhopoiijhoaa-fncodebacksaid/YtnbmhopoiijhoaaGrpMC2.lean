/- Whether a node has the fields of its kind, as the specification asks it: every kind. -/
import Derived.Test.YtnbmhopoiijhoaaSpecOwn
import Derived.Test.YtnbmhopoiijhoaaTreeAns
import Derived.Test.YtnbmhopoiijhoaaGrpMC1
import Derived.Test.YtnbmhopoiijhoaaGrpMC0
import Derived.Sort.Walk0
import Derived.BigQuiet
import Derived.Test.YtnbmhopoiijhoaaEffWalks
import Derived.Deep.Cut
namespace Go.Proofs.Ytnbmhopoiijhoaa
open Go.RowKit

set_option maxHeartbeats 4000000 in
set_option maxRecDepth 100000 in
theorem own_some (k num : Int) (a b c : ByteArray) (kids : Int) (w : World) (hK : kidsOk k kids = true) (ar : Int) (har : arityZ k = ar) (h0 : 0 ≤ ar) (h3 : ar ≤ 3) (hne : (kids != ar) = false) :
    Calls Try.prog 62 #[.agg #[.int .i64 k, .int .i64 num, .string a, .string b, .string c, .int .i64 kids]] w fun e w' => e = .returned (.bool (ownOk ⟨k, num, a, b, c, kids⟩)) ∧ Below w.heap.size w w' := by
  have HN : Hid (∀ w, _) := names_calls k
  have hac := arity_calls k
  rw [har] at hac
  have HC : Hid (∀ w, _) := hac
  have hm1 : (ar == -1) = false := by rw [beq_eq_false_iff_ne]; omega
  have hm2 : (ar == -2) = false := by rw [beq_eq_false_iff_ne]; omega
  clear hac har
  go_enter Try.func62, Try.ntmps62
  go_wp2_with (first | (go_at_call 77; refine (HC.out _).mono ?_; rintro e w2 ⟨rfl, rfl⟩))
  go_loopw [5] (fun i wr => ∃ j : Nat, i = .int .i64 j ∧ j ≤ 3 ∧ Hid (∀ i, i < j → fit (namesZ k) i (Nd.nm ⟨k, num, a, b, c, kids⟩ i) = true) ∧ wr.heap[w.heap.size]? = some (.cells #[.int .i64 k, .int .i64 num, .string a, .string b, .string c, .int .i64 kids] 92) ∧ wr.heap[w.heap.size + 1]? = some (.cells #[.string a, .string b, .string c] 9) ∧ Below w.heap.size w wr) (fun i _ => 3 - (intOf i).toNat)
  case atStart =>
    have e1 := (MapKept.heap_alloc w (.cells #[.int .i64 k, .int .i64 num, .string a, .string b, .string c, .int .i64 kids] 92)).1
    refine ⟨0, rfl, by omega, fun i hi => by omega, ?_, ?_, ((Below.refl _ _).alloc (Nat.le_refl _) _).alloc (by simp) _⟩
    · rw [Below.heap_alloc _ _ _ (by simp)]
      exact e1
    · have := (MapKept.heap_alloc (w.alloc (.cells #[.int .i64 k, .int .i64 num, .string a, .string b, .string c, .int .i64 kids] 92)) (.cells #[.string a, .string b, .string c] 9)).1
      simpa using this
  case round =>
    obtain ⟨j, rfl, hj3, HA, eA, eN, hnx⟩ := hrel
    have a0 := cell_of_heap eA 0
    simp at a0
    have hltA := heap_lt eA
    have hltN := heap_lt eN
    by_cases hj : j < 3
    · have cN : wr.cell? ⟨w.heap.size + 1, j, none⟩ = some (.string (Nd.nm ⟨k, num, a, b, c, kids⟩ j)) := by
        rw [cell_of_heap eN j]
        match j, hj with
        | 0, _ => rfl
        | 1, _ => rfl
        | 2, _ => rfl
      have step : fit (namesZ k) j (Nd.nm ⟨k, num, a, b, c, kids⟩ j) = true → Hid (∀ i, i < j + 1 → fit (namesZ k) i (Nd.nm ⟨k, num, a, b, c, kids⟩ i) = true) := fun h i hi => by
        by_cases e : i = j
        · rw [e]
          exact h
        · exact HA.out i (by omega)
      have fin : fit (namesZ k) j (Nd.nm ⟨k, num, a, b, c, kids⟩ j) = false → Hid (ownOk ⟨k, num, a, b, c, kids⟩ = false) := fun h => by
        show ownOk _ = false
        have := fit_none (n := ⟨k, num, a, b, c, kids⟩) hj h
        simp [ownOk, this]
      have hLn := specName_calls (Nd.nm ⟨k, num, a, b, c, kids⟩ j)
      have hem := @empty_name (Nd.nm ⟨k, num, a, b, c, kids⟩ j)
      unfold fit at step fin
      generalize Nd.nm ⟨k, num, a, b, c, kids⟩ j = s at *
      generalize hnm : namesZ k = nm at *
      have eA' : Hid (wr.heap[w.heap.size]? = some (.cells #[.int .i64 k, .int .i64 num, .string a, .string b, .string c, .int .i64 kids] 92)) := eA
      have eN' : Hid (wr.heap[w.heap.size + 1]? = some (.cells #[.string a, .string b, .string c] 9)) := eN
      have hi3 : (j : Int) < 3 := by omega
      have htf : (true != false) = true := rfl
      have hft : (false != true) = true := rfl
      clear HA eA eN hnm
      by_cases hjn : (j : Int) < nm
      · rw [if_pos hjn] at step fin
        cases he : (s.toList == []) with
        | true =>
          have HF := fin (hem he)
          have HL : Hid (∀ w, _) := hLn
          clear hem step fin hLn
          go_wp2_with fail
          go_quiet (first | (go_at_call 78; refine Calls.quiet_of_same ((HN.out _).mono (fun _ _ h => ⟨h.1, h.2.symm⟩))))
          go_wp2_with fail
          go_ret
          exact ⟨by rw [HF.out]; rfl, below_drewN hnx _⟩
        | false =>
          cases hn : nameOk s with
          | true =>
            have HS := step hn
            rw [hn] at hLn
            have HL : Hid (∀ w, _) := hLn
            clear hem step fin hLn hn
            go_wp2_with fail
            go_region_held (fun w' => w'.cell? ⟨w.heap.size, 0, none⟩ = some (.int .i64 k) ∧ w'.cell? ⟨w.heap.size + 1, j, none⟩ = some (.string s)) (go_keep) (first | (go_at_call 78; refine (HN.out _).mono ?_; rintro e w2 ⟨rfl, rfl⟩) | (go_at_call 44; refine (HL.out _).mono ?_; rintro e w2 ⟨rfl, hb2⟩; have a0' := (hb2.cell (p := ⟨w.heap.size, 0, none⟩) hltA).trans a0; have cN' := (hb2.cell (p := ⟨w.heap.size + 1, j, none⟩) hltN).trans cN))
            all_goals
              have eA2 := (hb2.block w.heap.size hltA).trans eA'.out
              have eN2 := (hb2.block (w.heap.size + 1) hltN).trans eN'.out
              have hnx2 := hnx.drew.trans (hb2.mono hnx.size)
              clear hb2 a0 cN a0' cN'
              go_wp2_with fail
              exact ⟨⟨j + 1, by simp, by omega, HS, eA2, eN2, hnx2⟩, by simp [intOf]; omega⟩
          | false =>
            have HF := fin hn
            rw [hn] at hLn
            have HL : Hid (∀ w, _) := hLn
            clear hem step fin hLn hn
            go_wp2_with fail
            go_region_held (fun w' => w'.cell? ⟨w.heap.size, 0, none⟩ = some (.int .i64 k) ∧ w'.cell? ⟨w.heap.size + 1, j, none⟩ = some (.string s)) (go_keep) (first | (go_at_call 78; refine (HN.out _).mono ?_; rintro e w2 ⟨rfl, rfl⟩) | (go_at_call 44; refine (HL.out _).mono ?_; rintro e w2 ⟨rfl, hb2⟩; have a0' := (hb2.cell (p := ⟨w.heap.size, 0, none⟩) hltA).trans a0; have cN' := (hb2.cell (p := ⟨w.heap.size + 1, j, none⟩) hltN).trans cN))
            all_goals
              have hnx2 := hnx.drew.trans (hb2.mono hnx.size)
              clear hb2 a0 cN a0' cN'
              go_wp2_with fail
              go_ret
              exact ⟨by rw [HF.out]; rfl, hnx2⟩
      · rw [if_neg hjn] at step fin
        have hjd : decide ((j : Int) < nm) = false := decide_eq_false hjn
        have HL : Hid (∀ w, _) := hLn
        cases he : (s.toList == []) with
        | true =>
          have HS := step he
          clear hem step fin hLn
          go_wp2_with fail
          go_quiet (first | (go_at_call 78; refine Calls.quiet_of_same ((HN.out _).mono (fun _ _ h => ⟨h.1, h.2.symm⟩))))
          go_wp2_with fail
          exact ⟨⟨j + 1, by simp, by omega, HS, eA'.out, eN'.out, below_drewN hnx _⟩, by simp [intOf]; omega⟩
        | false =>
          have HF := fin he
          clear hem step fin hLn
          go_wp2_with fail
          go_quiet (first | (go_at_call 78; refine Calls.quiet_of_same ((HN.out _).mono (fun _ _ h => ⟨h.1, h.2.symm⟩))))
          go_wp2_with fail
          go_ret
          exact ⟨by rw [HF.out]; rfl, below_drewN hnx _⟩
    · have hnames : namesOk ⟨k, num, a, b, c, kids⟩ = true := fit_all (fun i hi => HA.out i (by omega))
      have hO : ownOk ⟨k, num, a, b, c, kids⟩ = (!(k == 20 && a.toList == b.toList) && numOk k num) := by simp [ownOk, hK, hnames, unlike]
      have a1 := cell_of_heap eA 1
      have a2 := cell_of_heap eA 2
      have a3 := cell_of_heap eA 3
      simp at a1 a2 a3
      have hnc := @names_case k
      have hm0 := @most_other k
      clear HA eA eN hnames
      generalize namesZ k = nm at *
      by_cases h20 : k = 20
      · subst h20
        have hnm1 : 1 < nm := hnc rfl
        cases hab : (a.toList == b.toList) with
        | true =>
          have HO : Hid (ownOk ⟨20, num, a, b, c, kids⟩ = false) := by show _ = _; rw [hO, hab]; rfl
          clear hO hnc hm0
          go_wp2_with (first | (go_at_call 78; refine (HN.out _).mono ?_; rintro e w2 ⟨rfl, rfl⟩))
          go_ret
          exact ⟨by rw [HO.out]; rfl, hnx⟩
        | false =>
          have HO : Hid (ownOk ⟨20, num, a, b, c, kids⟩ = (num == 0)) := by
            show _ = _
            rw [hO, hab, numOk, hm0 (by omega) (by omega), Bool.eq_iff_iff]
            simp
            omega
          clear hO hnc hm0
          go_wp2_with (first | (go_at_call 78; refine (HN.out _).mono ?_; rintro e w2 ⟨rfl, rfl⟩))
          go_ret
          exact ⟨by rw [HO.out]; rfl, hnx⟩
      · have h20' : (k == 20) = false := by rw [beq_eq_false_iff_ne]; exact h20
        rw [h20', Bool.false_and, Bool.not_false, Bool.true_and] at hO
        clear hnc h20
        by_cases h1 : k = 1
        · subst h1
          by_cases hn0 : 0 ≤ num
          · have HO : Hid (ownOk ⟨1, num, a, b, c, kids⟩ = decide (num ≤ 999999999)) := by
              exact hO.trans (num_one hn0)
            clear hO hm0 h20'
            go_wp2_with (first | (go_at_call 78; refine (HN.out _).mono ?_; rintro e w2 ⟨rfl, rfl⟩))
            all_goals
              go_ret
              exact ⟨by rw [HO.out]; rfl, hnx⟩
          · have HO : Hid (ownOk ⟨1, num, a, b, c, kids⟩ = false) := by
              exact hO.trans (num_one_neg hn0)
            clear hO hm0 h20'
            go_wp2_with (first | (go_at_call 78; refine (HN.out _).mono ?_; rintro e w2 ⟨rfl, rfl⟩))
            all_goals
              go_ret
              exact ⟨by rw [HO.out]; rfl, hnx⟩
        · by_cases h2 : k = 2
          · subst h2
            by_cases hn0 : num = 0
            · have hn0' : (num == 0) = true := by rw [hn0]; rfl
              have HO : Hid (ownOk ⟨2, num, a, b, c, kids⟩ = true) := by
                show _ = _
                rw [hO, numOk, most_two]
                simp
                omega
              clear hO hm0 h20' hn0
              go_wp2_with (first | (go_at_call 78; refine (HN.out _).mono ?_; rintro e w2 ⟨rfl, rfl⟩))
              all_goals
                go_ret
                exact ⟨by rw [HO.out]; rfl, hnx⟩
            · have hn0' : (num == 0) = false := by rw [beq_eq_false_iff_ne]; exact hn0
              have HO : Hid (ownOk ⟨2, num, a, b, c, kids⟩ = (num == 1)) := by
                show _ = _
                rw [hO, numOk, most_two, Bool.eq_iff_iff]
                simp
                omega
              clear hO hm0 h20' hn0
              go_wp2_with (first | (go_at_call 78; refine (HN.out _).mono ?_; rintro e w2 ⟨rfl, rfl⟩))
              all_goals
                go_ret
                exact ⟨by rw [HO.out]; rfl, hnx⟩
          · have HO : Hid (ownOk ⟨k, num, a, b, c, kids⟩ = (num == 0)) := by
              exact hO.trans (num_zero (hm0 h1 h2))
            have h1' : (k == 1) = false := by rw [beq_eq_false_iff_ne]; exact h1
            have h2' : (k == 2) = false := by rw [beq_eq_false_iff_ne]; exact h2
            clear hO hm0 h1 h2
            go_wp2_with (first | (go_at_call 78; refine (HN.out _).mono ?_; rintro e w2 ⟨rfl, rfl⟩))
            all_goals
              go_ret
              exact ⟨by rw [HO.out]; rfl, hnx⟩

set_option maxHeartbeats 2000000 in
set_option maxRecDepth 100000 in
theorem own_calls (n : Nd) (w : World) :
    Calls Try.prog 62 #[.agg #[.int .i64 n.kind, .int .i64 n.num, .string n.a, .string n.b, .string n.c, .int .i64 n.kids]] w fun e w' => e = .returned (.bool (ownOk n)) ∧ Below w.heap.size w w' := by
  obtain ⟨k, num, a, b, c, kids⟩ := n
  dsimp only
  have har := arity_range k
  have hac := arity_calls k
  cases hK : kidsOk k kids with
  | false =>
    have hO : Hid (ownOk ⟨k, num, a, b, c, kids⟩ = false) := by
      show ownOk _ = false
      simp [ownOk, hK]
    unfold kidsOk at hK
    generalize arityZ k = ar at *
    have HC : Hid (∀ w, _) := hac
    clear hac
    rcases har with rfl | rfl | ⟨h0, h3⟩
    · clear hK
      go_enter Try.func62, Try.ntmps62
      go_wp2_with (first | (go_at_call 77; refine (HC.out _).mono ?_; rintro e w2 ⟨rfl, rfl⟩))
      go_ret
      exact ⟨by rw [hO.out]; rfl, (Below.refl _ _).alloc (Nat.le_refl _) _⟩
    · rw [if_neg (by omega), if_pos rfl] at hK
      simp at hK
      by_cases h2 : kids < 2
      · clear hK
        go_enter Try.func62, Try.ntmps62
        go_wp2_with (first | (go_at_call 77; refine (HC.out _).mono ?_; rintro e w2 ⟨rfl, rfl⟩))
        go_ret
        exact ⟨by rw [hO.out]; rfl, (Below.refl _ _).alloc (Nat.le_refl _) _⟩
      · have h6 : 6 < kids := hK (by omega)
        clear hK
        go_enter Try.func62, Try.ntmps62
        go_wp2_with (first | (go_at_call 77; refine (HC.out _).mono ?_; rintro e w2 ⟨rfl, rfl⟩))
        go_ret
        exact ⟨by rw [hO.out]; rfl, (Below.refl _ _).alloc (Nat.le_refl _) _⟩
    · rw [if_neg (by omega), if_neg (by omega)] at hK
      have hne : (kids != ar) = true := by simpa using hK
      have hm1 : (ar == -1) = false := by rw [beq_eq_false_iff_ne]; omega
      clear hK
      go_enter Try.func62, Try.ntmps62
      go_wp2_with (first | (go_at_call 77; refine (HC.out _).mono ?_; rintro e w2 ⟨rfl, rfl⟩))
      go_ret
      exact ⟨by rw [hO.out]; rfl, (Below.refl _ _).alloc (Nat.le_refl _) _⟩
  | true =>
    have hK' := hK
    unfold kidsOk at hK'
    rcases har with har | har | ⟨h0, h3⟩
    · rw [if_pos har] at hK'
      cases hK'
    · rw [if_neg (by omega), if_pos har] at hK'
      simp at hK'
      exact own_many k num a b c kids w hK har hK'.1 hK'.2
    · rw [if_neg (by omega), if_neg (by omega)] at hK'
      exact own_some k num a b c kids w hK _ rfl h0 h3 (by simpa using hK')
end Go.Proofs.Ytnbmhopoiijhoaa

/- Whether nodes are a tree, as the specification asks it. -/
namespace Go.Proofs.Ytnbmhopoiijhoaa
open Go.RowKit Go.Deep

set_option maxHeartbeats 4000000 in
set_option maxRecDepth 100000 in
theorem specTree_calls (b off cap : Nat) (ns : List Nd) (w : World) (R : Bool) (hm : ns.length ≤ 1048576) (hbw : b < w.heap.size) (hn : NodesAt w b off ns) (hA : SpecAns ns R) :
    Calls Try.prog 43 #[.slice (some ⟨b, off, none⟩) ns.length cap] w fun e w' => e = .returned (.bool R) ∧ Below w.heap.size w w' := by
  by_cases hl : 1 ≤ ns.length ∧ ns.length ≤ 300
  · have hrest := hA.rest hl
    obtain ⟨len, hlen⟩ : ∃ len, ns.length = len := ⟨_, rfl⟩
    have Hlen : Hid (ns.length = len) := hlen
    have HR : Hid (Rest ns R ownOk (fun n k => specTree n k 0)) := hrest
    have HN : Hid (NodesAt w b off ns) := hn
    have HL : Hid (1 ≤ len ∧ len ≤ 300) := by show _ ∧ _; omega
    have h1 : (1 : Int) ≤ (len : Int) := by omega
    have h2 : (len : Int) ≤ 300 := by omega
    rw [hlen]
    clear hrest hn hA hl hm hlen
    go_enter Try.func43, Try.ntmps43
    go_wp2_with fail
    clear h1 h2
    go_loopw [3] (fun i wr => ∃ i' : Nat, i = .int .i64 i' ∧ i' ≤ len ∧ Hid ((ns.take i').all ownOk = true) ∧ Below w.heap.size w wr) (fun i _ => len - (intOf i).toNat)
    case atStart => exact ⟨0, rfl, Nat.zero_le _, rfl, Below.refl _ _⟩
    case round =>
      obtain ⟨i', rfl, hle, HT, hbx⟩ := hrel
      have hnx := HN.out.below hbx hbw
      by_cases hlt : (i' : Int) < (len : Int)
      · have hil : i' < ns.length := by rw [Hlen.out]; omega
        have c0 := hnx i' hil 0 (by omega)
        have c1 := hnx i' hil 1 (by omega)
        have c2 := hnx i' hil 2 (by omega)
        have c3 := hnx i' hil 3 (by omega)
        have c4 := hnx i' hil 4 (by omega)
        have c5 := hnx i' hil 5 (by omega)
        obtain ⟨n, hnn⟩ : ∃ n, ns.getD i' default = n := ⟨_, rfl⟩
        have hF : ownOk n = false → Hid (R = false) := fun h => HR.out.1 (all_false hil (by rw [hnn]; exact h))
        have hT : ownOk n = true → Hid ((ns.take (i' + 1)).all ownOk = true) := fun h => all_take_succ hil HT.out (by rw [hnn]; exact h)
        rw [hnn] at c0 c1 c2 c3 c4 c5
        simp only [Nd.cell, Nat.add_zero] at c0 c1 c2 c3 c4 c5
        have HO : Hid (∀ w, _) := own_calls n
        clear hnx hil hnn HT
        obtain ⟨kd, num, a, bb, cc, kids⟩ := n
        dsimp only at *
        go_wp2_with fail
        refine (HO.out _).mono ?_
        rintro e w2 ⟨rfl, hb2⟩
        have hb3 := hbx.trans (hb2.mono hbx.size)
        clear c0 c1 c2 c3 c4 c5 hb2 HO
        cases ho : ownOk ⟨kd, num, a, bb, cc, kids⟩ with
        | false =>
          have HF := hF ho
          clear hF hT
          go_wp2_with fail
          go_ret
          exact ⟨by rw [HF.out]; rfl, hb3⟩
        | true =>
          have HT := hT ho
          clear hF hT
          go_wp2_with fail
          have hs := lt_step hlt
          try rw [wrap_succ (by have := HL.out; omega)]
          exact ⟨⟨i' + 1, rfl, by omega, HT, hb3⟩, hs⟩
      · have e : i' = len := by omega
        subst e
        have hall : ns.all ownOk = true := by
          have := HT.out
          rwa [List.take_of_length_le (by rw [Hlen.out]; exact Nat.le_refl _)] at this
        have HX : Hid (∀ w, NodesAt w b off ns → _) := fun w h => specEnd_calls b off cap ns 0 w h (by rw [Hlen.out]; have := HL.out; omega)
        rw [Hlen.out] at HX
        rcases HR.out.2 hall with ⟨hne, hR⟩ | ⟨n, k, g1, g2, g3, g4, hR⟩
        · have hne' : (treeEnd ns 0 == (i' : Int)) = false := by rw [beq_eq_false_iff_ne]; rw [Hlen.out] at hne; exact hne
          clear HT hall hne
          generalize treeEnd ns 0 = te at *
          subst hR
          go_wp2_with fail
          refine (HX.out wr hnx).mono ?_
          rintro e w2 ⟨rfl, rfl⟩
          go_wp2_with fail
          go_ret
          exact ⟨rfl, hbx⟩
        · have hdr : ns.drop 0 = n :: (k.flat ++ []) := by rw [g1]; simp
          have HD : Hid (∀ w, NodesAt w b off ns → _) := fun w h => deep_calls b off cap ns (by rw [Hlen.out]; have := HL.out; omega) (k.flat.length + 1) n k [] 0 w h hdr g2 g3 (Nat.lt_succ_self _)
          have HC : Hid (∀ w, b < w.heap.size → NodesAt w b off ns → _) := fun w hb h => clauses_calls b off cap ns (by rw [Hlen.out]; have := HL.out; omega) (k.flat.length + 1) n k [] 0 0 w (by omega) hb h hdr g2 g3 (Nat.lt_succ_self _)
          rw [Hlen.out] at HD HC
          rw [g4, Hlen.out] at HX
          have HE : Hid (R = (specTree n k 0 && decide (k.deep + 1 ≤ 40))) := hR
          have hee : (((i' : Int)) == (i' : Int)) = true := by simp
          clear HT hall g1 g2 g3 g4 hdr hR HR
          generalize k.deep + 1 = dd at *
          go_wp2_with fail
          refine (HX.out wr hnx).mono ?_
          rintro e w2 ⟨rfl, rfl⟩
          go_wp2_with fail
          refine (HD.out wr hnx).mono ?_
          rintro e w2 ⟨rfl, rfl⟩
          by_cases hdd : (dd : Int) ≤ 40
          · go_wp2_with fail
            refine (HC.out wr (by have := hbx.size; omega) hnx).mono ?_
            rintro e w2 ⟨rfl, hb2⟩
            go_wp2_with fail
            go_ret
            refine ⟨?_, hbx.trans (hb2.mono hbx.size)⟩
            rw [HE.out, decide_eq_true (show dd ≤ 40 by omega), Bool.and_true]
            rfl
          · go_wp2_with fail
            go_ret
            refine ⟨?_, hbx⟩
            rw [HE.out, decide_eq_false (show ¬ dd ≤ 40 by omega), Bool.and_false]
            rfl
  · have hR : R = false := by
      rcases hA with ⟨_, h⟩ | ⟨h1, h2, _⟩ | ⟨h1, h2, _⟩
      · exact h
      · exact absurd ⟨h1, h2⟩ hl
      · exact absurd ⟨h1, h2⟩ hl
    subst hR
    have hl' : (ns.length : Int) < 1 ∨ ((1 : Int) ≤ (ns.length : Int) ∧ (300 : Int) < (ns.length : Int)) := by omega
    clear hA hm hn hl
    generalize ns.length = len at *
    rcases hl' with h | ⟨h, h'⟩
    all_goals
      go_enter Try.func43, Try.ntmps43
      go_wp2_with fail
      go_ret
      exact ⟨rfl, Below.refl _ _⟩
end Go.Proofs.Ytnbmhopoiijhoaa

/- A program without operations: the specification's ProgOk. -/
namespace Go.Proofs.Ytnbmhopoiijhoaa
open Go.RowKit Go.Deep

set_option maxHeartbeats 8000000 in
set_option maxRecDepth 100000 in
theorem specProgN_calls (bt cn : Nat) (ns : List Nd) (T : Bool) (w : World) (hbt : bt < w.heap.size) (hN : NodesAt w bt 0 ns) (mn : ns.length ≤ 1048576) (hTT : ∀ w' : World, bt < w'.heap.size → NodesAt w' bt 0 ns → Calls Try.prog 43 #[.slice (some ⟨bt, 0, none⟩) ns.length cn] w' fun e w'' => e = .returned (.bool T) ∧ Below w'.heap.size w' w'') :
    Calls Try.prog 32 #[.agg #[.slice none 0 0, .slice (some ⟨bt, 0, none⟩) ns.length cn]] w fun e w' => e = .returned (.bool (progZ [] ns T)) ∧ Below w.heap.size w w' := by
  have hb1 : Below w.heap.size w (w.alloc (.cells #[.slice none 0 0, .slice (some ⟨bt, 0, none⟩) ns.length cn] 55)) := (Below.refl _ _).alloc (Nat.le_refl _) _
  have HT : Hid (Calls _ _ _ _ _) := hTT (w.alloc (.cells #[.slice none 0 0, .slice (some ⟨bt, 0, none⟩) ns.length cn] 55)) (Nat.lt_of_lt_of_le hbt hb1.size) (hN.below hb1 hbt)
  have HB1 : Hid (Below w.heap.size w (w.alloc (.cells #[.slice none 0 0, .slice (some ⟨bt, 0, none⟩) ns.length cn] 55))) := hb1
  have HK1 : Hid ((w.alloc (.cells #[.slice none 0 0, .slice (some ⟨bt, 0, none⟩) ns.length cn] 55)).heap[w.heap.size]? = some (.cells #[.slice none 0 0, .slice (some ⟨bt, 0, none⟩) ns.length cn] 55)) := (MapKept.heap_alloc w _).1
  obtain ⟨R, hR⟩ : ∃ R, progZ [] ns T = R := ⟨_, rfl⟩
  have HR8 : Hid ((T && ns.all (nodeHas [])) = R) := by
    show _ = R
    rw [← hR]
    simp [progZ]
  have HN : Hid (NodesAt w bt 0 ns) := hN
  rw [hR]
  obtain ⟨ln, hln⟩ : ∃ ln, ns.length = ln := ⟨_, rfl⟩
  have Hlen : Hid (ns.length = ln) := hln
  rw [hln] at HT HB1 HK1 ⊢
  have HM : Hid (ln ≤ 1048576) := by show _ ≤ _; omega
  clear hb1 hR hN mn hTT hln
  go_enter Try.func32, Try.ntmps32
  go_wp2_with fail
  refine HT.out.mono ?_
  rintro e w2 ⟨rfl, hb2⟩
  have hbw2 := HB1.out.trans (hb2.mono HB1.out.size)
  have kp2 := (hb2.block w.heap.size (by simp)).trans HK1.out
  clear HT HB1 HK1 hb2
  cases T with
  | false =>
    go_wp2_with fail
    go_ret
    exact ⟨by rw [← HR8.out]; rfl, hbw2⟩
  | true =>
    have HR2 : Hid (ns.all (nodeHas []) = R) := HR8.out
    clear HR8
    have pA := cell_of_heap kp2 0
    have pB := cell_of_heap kp2 1
    simp at pA pB
    go_wp2_with fail
    refine wp_loop_rounds 1 ?_
    rw [rounds_succ]
    go_wp2_with fail
    clear pA pB
    go_loopw [5] (fun j wr => ∃ k : Nat, j = .int .i64 k ∧ k ≤ ln ∧ Hid ((ns.take k).all (nodeHas []) = true) ∧ wr.heap[w.heap.size]? = some (.cells #[.slice none 0 0, .slice (some ⟨bt, 0, none⟩) ln cn] 55) ∧ Below w.heap.size w wr) (fun j _ => ln - (intOf j).toNat)
    case atStart => exact ⟨0, rfl, Nat.zero_le _, rfl, kp2, hbw2⟩
    case round =>
      clear kp2 hbw2
      obtain ⟨k, rfl, hk, HI, kp, hbx⟩ := hrel
      have hAlt := heap_lt kp
      have pA := cell_of_heap kp 0
      have pB := cell_of_heap kp 1
      simp at pA pB
      by_cases hlt : (k : Int) < (ln : Int)
      · have hil : k < ns.length := by rw [Hlen.out]; omega
        have hNx := HN.out.below hbx hbt
        have c0 := hNx k hil 0 (by omega)
        have c1 := hNx k hil 1 (by omega)
        have c2 := hNx k hil 2 (by omega)
        have c3 := hNx k hil 3 (by omega)
        have c4 := hNx k hil 4 (by omega)
        have c5 := hNx k hil 5 (by omega)
        obtain ⟨nd, hnd⟩ : ∃ nd, ns.getD k default = nd := ⟨_, rfl⟩
        have hF : nodeHas [] nd = false → Hid (R = false) := fun h => by
          show R = false
          rw [← HR2.out]
          exact has_false hil (by rw [hnd]; exact h)
        have hS : nodeHas [] nd = true → Hid ((ns.take (k + 1)).all (nodeHas []) = true) := fun h => has_step hil HI.out (by rw [hnd]; exact h)
        rw [hnd] at c0 c1 c2 c3 c4 c5
        simp only [Nd.cell, Nat.add_zero, Nat.zero_add] at c0 c1 c2 c3 c4 c5
        obtain ⟨kd, num, a, bb, cc, kids⟩ := nd
        dsimp only at *
        have hpl := effPlace_lt [] a 0
        have hszx := hbx.size
        have HP : Hid (∀ w', _) := fun w' => l2Eff_calls none 0 [] a w' (by simp) (fun h => absurd rfl h)
        simp only [nodeHas] at hF hS
        clear hNx hil hnd HI
        generalize effPlace [] a 0 = pl at *
        generalize effIn [] a = ein at *
        have hq : (kd == 22) = true ∨ ((kd == 22) = false ∧ (kd == 26) = true) ∨ ((kd == 22) = false ∧ (kd == 26) = false) := by
          cases (kd == 22) <;> cases (kd == 26) <;> simp
        rcases hq with k22 | ⟨k22, k26⟩ | ⟨k22, k26⟩
        · by_cases hp : pl < 0
          · have hei : ein = false := hpl.1 hp
            have HF := hF (by rw [hei, k22]; rfl)
            clear hF hS hpl
            go_wp2_with fail
            refine (HP.out _).mono ?_
            rintro e w6 ⟨rfl, rfl⟩
            go_wp2_with fail
            go_ret
            exact ⟨by rw [HF.out]; rfl, hbx.alloc hszx _⟩
          · have hei : ein = true := by
              cases hx : ein with
              | true => rfl
              | false => exact absurd (hpl.2 hx) hp
            have HS := hS (by rw [hei]; simp)
            clear hF hS hpl
            go_wp2_with fail
            refine (HP.out _).mono ?_
            rintro e w6 ⟨rfl, rfl⟩
            go_wp2_with fail
            have hs : ln - (intOf (.int .i64 ((k + 1 : Nat) : Int))).toNat < ln - (intOf (.int .i64 (k : Int))).toNat := by simp only [intOf, Int.toNat_natCast]; omega
            try rw [show wrap64 ((k : Int) + 1) = ((k + 1 : Nat) : Int) by have := HM.out; unfold wrap64; omega]
            exact ⟨⟨k + 1, rfl, by omega, HS, (Below.heap_alloc _ _ _ hAlt).trans kp, hbx.alloc hszx _⟩, hs⟩
        · by_cases hp : pl < 0
          · have hei : ein = false := hpl.1 hp
            have HF := hF (by rw [hei, k26]; simp)
            clear hF hS hpl
            go_wp2_with fail
            refine (HP.out _).mono ?_
            rintro e w6 ⟨rfl, rfl⟩
            go_wp2_with fail
            go_ret
            exact ⟨by rw [HF.out]; rfl, hbx.alloc hszx _⟩
          · have hei : ein = true := by
              cases hx : ein with
              | true => rfl
              | false => exact absurd (hpl.2 hx) hp
            have HS := hS (by rw [hei]; simp)
            clear hF hS hpl
            go_wp2_with fail
            refine (HP.out _).mono ?_
            rintro e w6 ⟨rfl, rfl⟩
            go_wp2_with fail
            have hs : ln - (intOf (.int .i64 ((k + 1 : Nat) : Int))).toNat < ln - (intOf (.int .i64 (k : Int))).toNat := by simp only [intOf, Int.toNat_natCast]; omega
            try rw [show wrap64 ((k : Int) + 1) = ((k + 1 : Nat) : Int) by have := HM.out; unfold wrap64; omega]
            exact ⟨⟨k + 1, rfl, by omega, HS, (Below.heap_alloc _ _ _ hAlt).trans kp, hbx.alloc hszx _⟩, hs⟩
        · have HS := hS (by rw [k22, k26]; rfl)
          clear hF hS hpl HP
          go_wp2_with fail
          have hs : ln - (intOf (.int .i64 ((k + 1 : Nat) : Int))).toNat < ln - (intOf (.int .i64 (k : Int))).toNat := by simp only [intOf, Int.toNat_natCast]; omega
          try rw [show wrap64 ((k : Int) + 1) = ((k + 1 : Nat) : Int) by have := HM.out; unfold wrap64; omega]
          exact ⟨⟨k + 1, rfl, by omega, HS, (Below.heap_alloc _ _ _ hAlt).trans kp, hbx.alloc hszx _⟩, hs⟩
      · have e : k = ln := by omega
        have HT : Hid (R = true) := by
          show R = true
          rw [← HR2.out]
          have := HI.out
          rwa [List.take_of_length_le (by rw [Hlen.out]; omega)] at this
        clear HI
        go_wp2_with fail
        go_ret
        exact ⟨by rw [HT.out]; rfl, hbx⟩

/-- The operations of a program, as they lie. -/
def EffW (W : World) (ae : Option Addr) (ce : Nat) (es : List Ef) : Prop := (ae = none ∧ es = [] ∧ ce = 0) ∨ ∃ be, ae = some ⟨be, 0, none⟩ ∧ be < W.heap.size ∧ EffsAt W be 0 es ∧ es.length ≤ ce

theorem progOk_at {W : World} {ae : Option Addr} {ce bt cn : Nat} {es : List Ef} {ns : List Nd} {T : Bool} (hE : EffW W ae ce es) (hel : es.length ≤ 1000) (hbt : bt < W.heap.size) (hN : NodesAt W bt 0 ns) (hl : ns.length ≤ 300) (hA : SpecAns ns T) :
    Calls Try.prog 32 #[.agg #[.slice ae es.length ce, .slice (some ⟨bt, 0, none⟩) ns.length cn]] W fun e W' => e = .returned (.bool (progZ es ns T)) ∧ Below W.heap.size W W' := by
  rcases hE with ⟨rfl, rfl, rfl⟩ | ⟨be, rfl, hbe, hEA, hce⟩
  · exact specProgN_calls bt cn ns T W hbt hN (by omega) (fun w' hb hn => specTree_calls bt 0 cn ns w' T (by omega) hb hn hA)
  · exact specProgC_calls be bt ce cn es ns T W hce hbe hbt hEA hN (by omega) (by omega) (fun w' hb hn => specTree_calls bt 0 cn ns w' T (by omega) hb hn hA)

theorem EffW.below {W W' : World} {ae : Option Addr} {ce : Nat} {es : List Ef} (h : EffW W ae ce es) (hb : Below W.heap.size W W') : EffW W' ae ce es := by
  rcases h with h | ⟨be, e, hbe, hEA, hce⟩
  · exact Or.inl h
  · exact Or.inr ⟨be, e, Nat.lt_of_lt_of_le hbe hb.size, hEA.below hb hbe, hce⟩
end Go.Proofs.Ytnbmhopoiijhoaa

/- A name in a list, and a name put into a list where it belongs, as the specification does it. -/
namespace Go.Proofs.Ytnbmhopoiijhoaa
open Go.RowKit Go.Deep

def bys (l : List Tx) : List ByteArray := l.map fun x => ⟨x.toArray⟩

theorem bys_len (l : List Tx) : (bys l).length = l.length := by unfold bys; simp

theorem bys_get (l : List Tx) (j : Nat) (h : j < l.length) : (bys l).getD j ⟨#[]⟩ = ⟨(l.getD j []).toArray⟩ := by
  unfold bys
  simp [List.getD, h]

/-- The list with the name put in, as a loop puts it. -/
def addGo (s : Tx) : List Tx → Bool → List Tx → List Tx
  | [], pt, acc => if pt then acc else acc ++ [s]
  | y :: r, pt, acc => if pt = false ∧ s < y then addGo s r true (acc ++ [s] ++ [y]) else addGo s r pt (acc ++ [y])

theorem addGo_true (s : Tx) : ∀ (l acc : List Tx), addGo s l true acc = acc ++ l
  | [], acc => by simp [addGo]
  | y :: r, acc => by simp [addGo, addGo_true s r]

theorem addGo_false (s : Tx) : ∀ (l acc : List Tx), addGo s l false acc = acc ++ insL l s
  | [], acc => by simp [addGo, insL]
  | y :: r, acc => by
    unfold addGo insL
    by_cases h : s < y
    · rw [if_pos ⟨rfl, h⟩, if_pos h, addGo_true]
      simp
    · rw [if_neg (fun x => h x.2), if_neg h, addGo_false s r]
      simp

def memB (ss : List ByteArray) (s : ByteArray) : Bool := ss.any fun x => x.toList == s.toList

theorem memB_iff (ss : List ByteArray) (s : ByteArray) : memB ss s = true ↔ s ∈ ss := by
  unfold memB
  rw [List.any_eq_true]
  constructor
  · rintro ⟨x, hx, h⟩
    rw [str_eq, decide_eq_true_eq] at h
    rwa [← h]
  · intro h
    exact ⟨s, h, by rw [str_eq, decide_eq_true_eq]⟩

set_option maxRecDepth 100000 in
theorem in_none (s : ByteArray) (w : World) : Calls Try.prog 69 #[.slice none 0 0, .string s] w fun e w' => e = .returned (.bool false) ∧ w' = w := by
  go_enter Try.func69, Try.ntmps69
  go_wp2_with fail
  refine wp_loop_rounds 1 ?_
  rw [rounds_succ]
  go_wp2_with fail
  go_ret
  exact ⟨rfl, rfl⟩

theorem in_any {v : Value} {ss : List ByteArray} (s : ByteArray) (w : World) (h : NamesV w v ss) (hl : ss.length ≤ 1000000) : Calls Try.prog 69 #[v, .string s] w fun e w' => e = .returned (.bool (memB ss s)) ∧ w' = w := by
  rcases h with ⟨rfl, rfl⟩ | ⟨g, o, c, rfl, hg, hc⟩
  · exact in_none s w
  · refine (in_calls g o ss.length c ss s w (Nat.le_refl _) hl hc).mono ?_
    rintro e w' ⟨rfl, rfl⟩
    rw [List.take_length]
    exact ⟨rfl, rfl⟩

theorem add_step {w wr W' : World} {out v' : Value} {acc : List Tx} {y : Tx} {yb : ByteArray} {o : Obj} (hy : (⟨y.toArray⟩ : ByteArray) = yb) (h : wr.ownsRow w.heap.size 9 1 out acc.length (strRow (bys acc)) ∧ Below w.heap.size w wr) (hown : W'.ownsRow w.heap.size 9 1 v' (acc.length + 1) (strRow (bys acc) ++ [.string yb])) (hg : (wr.alloc o).grownBy W' out.ownBlock) :
    W'.ownsRow w.heap.size 9 1 v' (acc ++ [y]).length (strRow (bys (acc ++ [y]))) ∧ Below w.heap.size w W' := by
  subst hy
  have hs := h.2.size
  refine ⟨?_, Below.grown (h.2.alloc (by omega) _) hg (by simp; omega) (fun j hj => (h.1.lt _ hj).1)⟩
  rw [List.length_append, show bys (acc ++ [y]) = bys acc ++ [⟨y.toArray⟩] by unfold bys; rw [List.map_append]; rfl, strRow_snoc]
  exact hown

theorem bytes_back (s : ByteArray) : (⟨s.data.toList.toArray⟩ : ByteArray) = s := rfl

set_option maxHeartbeats 4000000 in
set_option maxRecDepth 100000 in
theorem add_calls {v : Value} {l : List Tx} (s : ByteArray) (w : World) (hv : NamesV w v (bys l)) (hl : l.length ≤ 90000) :
    Calls Try.prog 70 #[v, .string s] w fun e w' => ∃ u, e = .returned u ∧ NamesV w' u (bys (addL l s.data.toList)) ∧ Below w.heap.size w w' := by
  obtain ⟨ad, cp, rfl⟩ := hv.slice
  rw [bys_len] at hv ⊢
  obtain ⟨L, hL⟩ : ∃ L, l.length = L := ⟨_, rfl⟩
  have HV := hid hv
  have HL := hid (And.intro hL hl)
  rw [hL] at HV ⊢
  clear hv hl hL
  obtain ⟨i0, hinf, hz0, hz1, hz2⟩ := info_parts info_str
  go_enter Try.func70, Try.ntmps70
  go_wp2_with fail
  go_loopw [5, 6, 7] (fun out put i wr => ∃ (i' : Nat) (pt : Bool) (acc : List Tx), i = .int .i64 i' ∧ put = .bool pt ∧ i' ≤ L ∧ Hid (wr.ownsRow w.heap.size 9 1 out acc.length (strRow (bys acc)) ∧ Below w.heap.size w wr) ∧ Hid (s.data.toList ∉ l.take i' ∧ addGo s.data.toList (l.drop i') pt acc = insL l s.data.toList ∧ acc.length ≤ i' + pt.toNat)) (fun _ _ i _ => L - (intOf i).toNat)
  case atStart => exact ⟨0, false, [], rfl, rfl, Nat.zero_le _, ⟨World.ownsRow_nil _ _ _ _, Below.refl _ _⟩, ⟨by simp, by rw [List.drop_zero, addGo_false]; rfl, Nat.zero_le _⟩⟩
  case round =>
    obtain ⟨i', pt, acc, rfl, rfl, hle, HO, HA⟩ := hrel
    by_cases hi : (i' : Int) < (L : Int)
    · have hcx := HV.out.cell (by omega : 0 < L)
      obtain ⟨-, g, o, rfl, hg, hc⟩ := hcx
      have hcell := (HO.out.2.cell (p := ⟨g, o + i', none⟩) hg).trans (hc i' (by omega))
      have hil : i' < l.length := by have := HL.out.1; omega
      rw [bys_get l i' hil] at hcell
      obtain ⟨y, hy⟩ : ∃ y, l.getD i' [] = y := ⟨_, rfl⟩
      rw [hy] at hcell
      have hyd : l.drop i' = y :: l.drop (i' + 1) := by rw [List.drop_eq_getElem_cons hil, ← hy]; simp [List.getD, hil]
      have hyt : l.take (i' + 1) = l.take i' ++ [y] := by rw [List.take_add_one, ← hy]; simp [List.getD, hil]
      have HY := hid (And.intro hyd hyt)
      obtain ⟨yb, hyb⟩ : ∃ yb : ByteArray, (⟨y.toArray⟩ : ByteArray) = yb := ⟨_, rfl⟩
      rw [hyb] at hcell
      have HYb := hid hyb
      have hyl : yb.toList = y := by rw [← hyb]; simp
      have HYl := hid hyl
      have HC0 : Hid (w.cell? ⟨g, o + i', none⟩ = some (.string yb)) := (HO.out.2.cell (p := ⟨g, o + i', none⟩) hg).symm.trans hcell
      have HLn : Hid (acc.length ≤ 90001) := by show _ ≤ _; have := HA.out.2.2; have := HL.out; have : pt.toNat ≤ 1 := (by cases pt <;> decide); omega
      clear hc hy hyb hyd hyt hil hyl
      have hi0 : (0 : Int) ≤ (i' : Int) := by omega
      cases heq : (yb.toList == s.toList) with
      | true =>
        have HM : Hid (s.data.toList ∈ l) := by
          show _ ∈ _
          have e1 : y = s.data.toList := by rw [← HYl.out, ← ByteArray.toList_eq]; simpa using heq
          have := List.mem_of_mem_drop (i := i') (l := l) (a := y) (by rw [HY.out.1]; exact List.mem_cons_self)
          rwa [e1] at this
        go_wp2_with fail
        go_ret
        refine ⟨_, rfl, ?_, HO.out.2⟩
        unfold addL
        rw [if_pos HM.out]
        exact HV.out.below HO.out.2
      | false =>
        have hne : y ≠ s.data.toList := by
          intro e1
          rw [HYl.out, e1, ByteArray.toList_eq] at heq
          simp at heq
        have HNe : Hid (s.data.toList ∉ l.take (i' + 1)) := by
          show _ ∉ _
          rw [HY.out.2, List.mem_append, List.mem_singleton]
          rintro (h | h)
          · exact HA.out.1 h
          · exact hne h.symm
        clear hne
        have hstep : L - (intOf (.int .i64 ((i' + 1 : Nat) : Int))).toNat < L - (intOf (.int .i64 (i' : Int))).toNat := lt_step' hi
        cases pt with
        | true =>
          have HG : Hid (addGo s.data.toList (l.drop (i' + 1)) true (acc ++ [y]) = insL l s.data.toList) := by
            show _ = _
            rw [← HA.out.2.1, HY.out.1]
            conv => rhs; unfold addGo
            rw [if_neg (by simp)]
          have HAl := hid HA.out.2.2
          clear HA
          go_wp2_with (first
            | (at_builtin; refine wpList_append_own_at _ rfl _ _ 64 rfl w.heap.size 9 i0 (.string ⟨#[]⟩) 1 16 Try.underlying64 hinf hz0 hz1 hz2 rfl (by decide) _ _ _ rfl (HO.out.1.alloc _) ⟨wr.heap.size, 0, none⟩ 1 1 [.string yb] rfl rfl (cell_one_new _ _ rfl _ _) (fun x hx => by simp at hx; subst hx; rfl) (by have := HLn.out; unfold maxLen; omega) (by have := HLn.out; omega) (by have := HO.out.2.size; simp; omega) ?_
               intro v5HOa w5HOa hown' hgrow hnil hat
               have HOa := hid (add_step HYb.out HO.out hown' hgrow)
               clear hown' hgrow hnil hat))
          try rw [wrap_succ (by have := HL.out; omega)]
          exact ⟨⟨i' + 1, true, acc ++ [y], rfl, rfl, by omega, HOa, ⟨HNe.out, HG.out, by have hq := HAl.out; rw [List.length_append]; simp [Bool.toNat] at hq ⊢; omega⟩⟩, hstep⟩
        | false =>
          cases hlt : Op.bytesLess s.toList yb.toList with
          | true =>
            have hsy : s.data.toList < y := by rw [bytesLess_eq, HYl.out, ByteArray.toList_eq] at hlt; exact of_decide_eq_true hlt
            have HG : Hid (addGo s.data.toList (l.drop (i' + 1)) true (acc ++ [s.data.toList] ++ [y]) = insL l s.data.toList) := by
              show _ = _
              rw [← HA.out.2.1, HY.out.1]
              conv => rhs; unfold addGo
              rw [if_pos ⟨rfl, hsy⟩]
            have HAl := hid HA.out.2.2
            have HLn2 : Hid ((acc ++ [s.data.toList]).length ≤ 90002) := by show _ ≤ _; rw [List.length_append]; exact Nat.succ_le_succ HLn.out
            clear HA hsy
            go_wp2_with (first
              | (at_builtin; refine wpList_append_own_at _ rfl _ _ 64 rfl w.heap.size 9 i0 (.string ⟨#[]⟩) 1 16 Try.underlying64 hinf hz0 hz1 hz2 rfl (by decide) _ _ _ rfl (HO.out.1.alloc _) ⟨wr.heap.size, 0, none⟩ 1 1 [.string s] rfl rfl (cell_one_new _ _ rfl _ _) (fun x hx => by simp at hx; subst hx; rfl) (by have := HLn.out; unfold maxLen; omega) (by have := HLn.out; omega) (by have := HO.out.2.size; simp; omega) ?_
                 intro v5HOb w5HOb hown' hgrow hnil hat
                 have HOb := hid (add_step (bytes_back s) HO.out hown' hgrow)
                 have hcell2 := (HOb.out.2.cell (p := ⟨g, o + i', none⟩) hg).trans HC0.out
                 clear hown' hgrow hnil hat)
              | (at_builtin; refine wpList_append_own_at _ rfl _ _ 64 rfl w.heap.size 9 i0 (.string ⟨#[]⟩) 1 16 Try.underlying64 hinf hz0 hz1 hz2 rfl (by decide) _ _ _ rfl (HOb.out.1.alloc _) ⟨w5HOb.heap.size, 0, none⟩ 1 1 [.string yb] rfl rfl (cell_one_new _ _ rfl _ _) (fun x hx => by simp at hx; subst hx; rfl) (by have := HLn2.out; unfold maxLen; omega) (by have := HLn2.out; omega) (by have := HOb.out.2.size; simp; omega) ?_
                 intro v5HOc w5HOc hown' hgrow hnil hat
                 have HOc := hid (add_step HYb.out HOb.out hown' hgrow)
                 clear hown' hgrow hnil hat))
            try rw [wrap_succ (by have := HL.out; omega)]
            exact ⟨⟨i' + 1, true, acc ++ [s.data.toList] ++ [y], rfl, rfl, by omega, HOc, ⟨HNe.out, HG.out, by have hq := HAl.out; rw [List.length_append, List.length_append]; simp [Bool.toNat] at hq ⊢; omega⟩⟩, hstep⟩
          | false =>
            have hsy : ¬ s.data.toList < y := by rw [bytesLess_eq, HYl.out, ByteArray.toList_eq] at hlt; exact of_decide_eq_false hlt
            have HG : Hid (addGo s.data.toList (l.drop (i' + 1)) false (acc ++ [y]) = insL l s.data.toList) := by
              show _ = _
              rw [← HA.out.2.1, HY.out.1]
              conv => rhs; unfold addGo
              rw [if_neg (fun x => hsy x.2)]
            have HAl := hid HA.out.2.2
            clear HA hsy
            go_wp2_with (first
              | (at_builtin; refine wpList_append_own_at _ rfl _ _ 64 rfl w.heap.size 9 i0 (.string ⟨#[]⟩) 1 16 Try.underlying64 hinf hz0 hz1 hz2 rfl (by decide) _ _ _ rfl (HO.out.1.alloc _) ⟨wr.heap.size, 0, none⟩ 1 1 [.string yb] rfl rfl (cell_one_new _ _ rfl _ _) (fun x hx => by simp at hx; subst hx; rfl) (by have := HLn.out; unfold maxLen; omega) (by have := HLn.out; omega) (by have := HO.out.2.size; simp; omega) ?_
                 intro v5HOd w5HOd hown' hgrow hnil hat
                 have HOd := hid (add_step HYb.out HO.out hown' hgrow)
                 clear hown' hgrow hnil hat))
            try rw [wrap_succ (by have := HL.out; omega)]
            exact ⟨⟨i' + 1, false, acc ++ [y], rfl, rfl, by omega, HOd, ⟨HNe.out, HG.out, by have hq := HAl.out; rw [List.length_append]; simp [Bool.toNat] at hq ⊢; omega⟩⟩, hstep⟩
    · have e : i' = L := by omega
      subst e
      have hdn : l.drop i' = [] := List.drop_eq_nil_of_le (by have := HL.out.1; omega)
      have htk : l.take i' = l := List.take_of_length_le (by have := HL.out.1; omega)
      have HAd : Hid (addL l s.data.toList = insL l s.data.toList) := by
        show _ = _
        unfold addL
        rw [if_neg]
        have := HA.out.1
        rwa [htk] at this
      have HLn : Hid (acc.length ≤ 90001) := by show _ ≤ _; have := HA.out.2.2; have := HL.out; have : pt.toNat ≤ 1 := (by cases pt <;> decide); omega
      cases pt with
      | true =>
        have HG : Hid (acc = insL l s.data.toList) := by
          show _ = _
          rw [← HA.out.2.1, hdn]
          simp [addGo]
        clear HA hdn htk
        go_wp2_with fail
        go_ret
        refine ⟨_, rfl, ?_, HO.out.2⟩
        rw [HAd.out, ← HG.out]
        exact (names_owns HO.out.1).1
      | false =>
        have HG : Hid (acc ++ [s.data.toList] = insL l s.data.toList) := by
          show _ = _
          rw [← HA.out.2.1, hdn]
          simp [addGo]
        clear HA hdn htk
        go_wp2_with (first
          | (at_builtin; refine wpList_append_own_at _ rfl _ _ 64 rfl w.heap.size 9 i0 (.string ⟨#[]⟩) 1 16 Try.underlying64 hinf hz0 hz1 hz2 rfl (by decide) _ _ _ rfl (HO.out.1.alloc _) ⟨wr.heap.size, 0, none⟩ 1 1 [.string s] rfl rfl (cell_one_new _ _ rfl _ _) (fun x hx => by simp at hx; subst hx; rfl) (by have := HLn.out; unfold maxLen; omega) (by have := HLn.out; omega) (by have := HO.out.2.size; simp; omega) ?_
             intro v5HOe w5HOe hown' hgrow hnil hat
             have HOe := hid (add_step (bytes_back s) HO.out hown' hgrow)
             clear hown' hgrow hnil hat))
        go_ret
        refine ⟨_, rfl, ?_, HOe.out.2⟩
        rw [HAd.out, ← HG.out]
        exact (names_owns HOe.out.1).1
end Go.Proofs.Ytnbmhopoiijhoaa

/- The names that stand free in a tree, as the specification finds them. -/
namespace Go.Proofs.Ytnbmhopoiijhoaa
open Go.RowKit Go.Deep

/-- The kids of a node from the one at i on. -/
def freeK (old : Nd) : Nat → Fo → List ByteArray → List Tx → List Tx
  | _, .none, _, out => out
  | i, .tree n k r, bd, out => freeK old (i + 1) r bd (if n.kind = 5 then (if memB (bd ++ knownZ old i) n.a then out else addL out n.a.data.toList) else freeK n 0 k (bd ++ knownZ old i) out)

/-- A tree. -/
def freeN (n : Nd) (k : Fo) (bd : List ByteArray) (out : List Tx) : List Tx := if n.kind = 5 then (if memB bd n.a then out else addL out n.a.data.toList) else freeK n 0 k bd out

theorem freeK_tree (old n : Nd) (k r : Fo) (i : Nat) (bd : List ByteArray) (out : List Tx) : freeK old i (.tree n k r) bd out = freeK old (i + 1) r bd (freeN n k (bd ++ knownZ old i) out) := by
  unfold freeN
  rw [freeK]

theorem insL_len (s : Tx) : ∀ l : List Tx, (insL l s).length = l.length + 1
  | [] => rfl
  | x :: r => by
    unfold insL
    split
    · rfl
    · rw [List.length_cons, insL_len s r, List.length_cons]

theorem addL_len (l : List Tx) (s : Tx) : (addL l s).length ≤ l.length + 1 := by
  unfold addL
  split
  · omega
  · rw [insL_len]
    exact Nat.le_refl _

theorem freeK_len : ∀ (f : Fo) (old : Nd) (i : Nat) (bd : List ByteArray) (out : List Tx), (freeK old i f bd out).length ≤ out.length + f.flat.length
  | .none, _, _, _, _ => by simp [freeK, Fo.flat]
  | .tree n k r, old, i, bd, out => by
    rw [freeK]
    have h1 := freeK_len r old (i + 1) bd (if n.kind = 5 then (if memB (bd ++ knownZ old i) n.a then out else addL out n.a.data.toList) else freeK n 0 k (bd ++ knownZ old i) out)
    have h2 := freeK_len k n 0 (bd ++ knownZ old i) out
    have h3 := addL_len out n.a.data.toList
    have h4 : (if n.kind = 5 then (if memB (bd ++ knownZ old i) n.a then out else addL out n.a.data.toList) else freeK n 0 k (bd ++ knownZ old i) out).length ≤ out.length + 1 + k.flat.length := by
      repeat' split
      all_goals omega
    simp only [Fo.flat, List.length_cons, List.length_append]
    omega

theorem freeN_len (n : Nd) (k : Fo) (bd : List ByteArray) (out : List Tx) : (freeN n k bd out).length ≤ out.length + 1 + k.flat.length := by
  have h2 := freeK_len k n 0 bd out
  have h3 := addL_len out n.a.data.toList
  unfold freeN
  repeat' split
  all_goals omega

set_option maxHeartbeats 4000000 in
set_option maxRecDepth 100000 in
theorem free_calls (b off cap : Nat) (ns : List Nd) (hm : ns.length ≤ 300) (hok : ∀ m ∈ ns, m.kind = 9 → m.kids ≤ 2) : ∀ (N : Nat) (n : Nd) (k : Fo) (suf : List Nd) (p : Nat) (bd : List ByteArray) (out : List Tx) (bv ov : Value) (w : World), b < w.heap.size → NodesAt w b off ns → ns.drop p = n :: (k.flat ++ suf) → n.kids = k.count → k.wf → k.flat.length < N → NamesV w bv bd → NamesV w ov (bys out) → bd.length + 2 * k.flat.length ≤ 1000 → out.length + k.flat.length ≤ 1000 →
    Calls Try.prog 46 #[.slice (some ⟨b, off, none⟩) ns.length cap, .int .i64 (p : Int), bv, ov] w fun e w' => ∃ u, e = .returned u ∧ NamesV w' u (bys (freeN n k bd out)) ∧ Below w.heap.size w w' := by
  intro N
  induction N with
  | zero => intro n k suf p bd out bv ov w _ _ _ _ _ h; omega
  | succ N ih =>
    intro n k suf p bd out bv ov w hbw hn hp hkc hk hN hbd hov hbl hol
    obtain ⟨hpl, hpn, hp1⟩ := at_drop hp
    have c0 := hn p hpl 0 (by omega)
    have c1 := hn p hpl 1 (by omega)
    have c2 := hn p hpl 2 (by omega)
    have c3 := hn p hpl 3 (by omega)
    have c4 := hn p hpl 4 (by omega)
    have c5 := hn p hpl 5 (by omega)
    rw [hpn] at c0 c1 c2 c3 c4 c5
    simp only [Nd.cell, Nat.add_zero] at c0 c1 c2 c3 c4 c5
    have HIH := hid ih
    have HN := hid hn
    have HM := hid hm
    have HP1 := hid hp1
    have HWf := hid hk
    have HNl := hid hN
    have HBd := hid hbd
    have HOv := hid hov
    have HLs := hid (And.intro hbl hol)
    have HK9 := hid (hok n (by rw [← List.take_append_drop p ns, hp]; simp))
    have HPl := hid hpl
    have HCt : Hid (k.count ≤ 1000) := by
      show _ ≤ _
      have := Fo.count_le k
      omega
    obtain ⟨ad3, cp3, rfl⟩ := hov.slice
    obtain ⟨ad2, cp2, rfl⟩ := hbd.slice
    obtain ⟨kd, num, a, bb, cc, kids⟩ := n
    dsimp only at *
    obtain ⟨kc, hkc'⟩ : ∃ kc, k.count = kc := ⟨_, rfl⟩
    rw [hkc'] at hkc
    have HKc := hid hkc'
    subst hkc
    obtain ⟨len, hlen⟩ : ∃ len, ns.length = len := ⟨_, rfl⟩
    have Hlen := hid hlen
    rw [hlen] at hpl ⊢
    have hpl2 : (p : Int) < (len : Int) := by omega
    have hp0 : (0 : Int) ≤ (p : Int) := by omega
    obtain ⟨bl, hbl2⟩ : ∃ bl, bd.length = bl := ⟨_, rfl⟩
    obtain ⟨ol, hol2⟩ : ∃ ol, (bys out).length = ol := ⟨_, rfl⟩
    rw [hbl2, hol2]
    rw [hbl2] at HBd
    rw [hol2] at HOv
    clear ih hn hm hp1 hk hN hbd hov hbl hol hp hpn hkc' hlen hok hbl2 hol2
    go_enter Try.func46, Try.ntmps46
    by_cases k5 : (kd == 5) = true
    · have hba := (Below.refl w.heap.size w).alloc (Nat.le_refl _) (.cells #[.int .i64 kd, .int .i64 num, .string a, .string bb, .string cc, .int .i64 (kc : Int)] 92)
      have HIn := hid (in_any a _ (HBd.out.below hba) (by have := HLs.out.1; omega))
      have HAd := hid (fun X (hb : Below w.heap.size w X) => add_calls a X (HOv.out.below hb) (by have := HLs.out.2; omega))
      have e5 := hid (show kd = 5 from eq_of_beq k5)
      have HBa := hid hba
      clear hba HIH
      go_wp2_with fail
      refine HIn.out.mono ?_
      rintro e w2 ⟨rfl, rfl⟩
      cases hmb : memB bd a with
      | true =>
        have HT : Hid (freeN ⟨kd, num, a, bb, cc, kc⟩ k bd out = out) := by
          show _ = _
          unfold freeN
          rw [if_pos e5.out, if_pos hmb]
        go_wp2_with fail
        go_ret
        refine ⟨_, rfl, ?_, HBa.out⟩
        rw [HT.out]
        exact HOv.out.below HBa.out
      | false =>
        have HT : Hid (freeN ⟨kd, num, a, bb, cc, kc⟩ k bd out = addL out a.data.toList) := by
          show _ = _
          unfold freeN
          rw [if_pos e5.out, if_neg (by rw [hmb]; decide)]
        go_wp2_with fail
        refine (HAd.out _ HBa.out).mono ?_
        rintro e w3 ⟨u, rfl, hu, hb3⟩
        have HU := hid (And.intro hu hb3)
        clear hu hb3
        go_wp2_with fail
        go_ret
        refine ⟨_, rfl, ?_, HBa.out.trans (HU.out.2.mono HBa.out.size)⟩
        rw [HT.out]
        exact HU.out.1
    · have hne5 := hid (show kd ≠ 5 from fun e => k5 (by rw [e]; rfl))
      obtain ⟨TG, hTG⟩ : ∃ TG, freeN ⟨kd, num, a, bb, cc, kc⟩ k bd out = TG := ⟨_, rfl⟩
      have HTG : Hid (freeK ⟨kd, num, a, bb, cc, kc⟩ 0 k bd out = TG) := by
        show _ = _
        rw [← hTG]
        unfold freeN
        rw [if_neg hne5.out]
      rw [hTG]
      clear hTG
      have hA := (MapKept.heap_alloc w (.cells #[.int .i64 kd, .int .i64 num, .string a, .string bb, .string cc, .int .i64 (kc : Int)] 92)).1
      have hba := (Below.refl w.heap.size w).alloc (Nat.le_refl _) (.cells #[.int .i64 kd, .int .i64 num, .string a, .string bb, .string cc, .int .i64 (kc : Int)] 92)
      have HA := hid (And.intro hA hba)
      clear hA hba
      go_wp2_with fail
      clear c0 c1 c2 c3 c4 c5
      generalize w.alloc (.cells #[.int .i64 kd, .int .i64 num, .string a, .string bb, .string cc, .int .i64 (kc : Int)] 92) = wA at *
      rw [wrap_succ (by have := HPl.out; have := HM.out; omega)]
      generalize p + 1 = p1 at *
      go_loopw [3, 10, 11] (fun o q i wr => ∃ (q' i' : Nat) (r : Fo) (ot : List Tx), q = .int .i64 q' ∧ i = .int .i64 i' ∧ Hid (ns.drop q' = r.flat ++ suf ∧ r.wf ∧ i' + r.count = kc ∧ r.flat.length < N + 1 ∧ r.flat.length ≤ k.flat.length ∧ freeK ⟨kd, num, a, bb, cc, kc⟩ i' r bd ot = TG ∧ ot.length + r.flat.length ≤ 1000) ∧ Hid (NamesV wr o (bys ot)) ∧ Hid (Below wA.heap.size wA wr)) (fun _ _ i _ => kc - (intOf i).toNat)
      case atStart => exact ⟨p1, 0, k, out, rfl, rfl, ⟨HP1.out, HWf.out, by rw [HKc.out]; omega, HNl.out, Nat.le_refl _, HTG.out, by have := HLs.out.2; omega⟩, HOv.out.below HA.out.2, Below.refl _ _⟩
      case round =>
        obtain ⟨q', i', r, ot, rfl, rfl, HR, HOt, HB⟩ := hrel
        have hx := (HB.out.block _ (heap_lt HA.out.1)).trans HA.out.1
        have c0 := cell_of_heap hx 0
        have c1 := cell_of_heap hx 1
        have c2 := cell_of_heap hx 2
        have c3 := cell_of_heap hx 3
        have c4 := cell_of_heap hx 4
        have c5 := cell_of_heap hx 5
        simp at c0 c1 c2 c3 c4 c5
        have HX := hid hx
        clear hx
        cases r with
        | none =>
          obtain ⟨_, _, h1, _, _, h2, _⟩ := HR.out
          simp only [Fo.count, freeK] at h1 h2
          have h1' : i' = kc := by omega
          subst h1'
          subst h2
          clear HR h1
          go_wp2_with fail
          go_ret
          exact ⟨_, rfl, HOt.out, HA.out.2.trans (HB.out.mono HA.out.2.size)⟩
        | tree n' k' r' =>
          obtain ⟨h0, hw, h1, h3, h3', h4, h5⟩ := HR.out
          obtain ⟨hw0, hw1, hw2⟩ := hw
          simp only [Fo.count, Fo.flat, List.length_cons, List.length_append] at h1 h3 h3' h5
          simp only [Fo.flat, List.cons_append, List.append_assoc] at h0
          obtain ⟨hql, hqn, hq1⟩ := at_drop h0
          have hend : treeEnd ns q' = _ := treeEnd_at h0 hw0 hw1
          have hnew := drop_past hq1
          rw [freeK_tree] at h4
          have hi : (i' : Int) < (kc : Int) := by omega
          have hfl := freeN_len n' k' (bd ++ knownZ ⟨kd, num, a, bb, cc, kc⟩ i') ot
          have HNx : Hid (ns.drop (q' + 1 + k'.flat.length) = r'.flat ++ suf ∧ r'.wf ∧ i' + 1 + r'.count = kc ∧ r'.flat.length < N + 1 ∧ r'.flat.length ≤ k.flat.length ∧ freeK ⟨kd, num, a, bb, cc, kc⟩ (i' + 1) r' bd (freeN n' k' (bd ++ knownZ ⟨kd, num, a, bb, cc, kc⟩ i') ot) = TG ∧ (freeN n' k' (bd ++ knownZ ⟨kd, num, a, bb, cc, kc⟩ i') ot).length + r'.flat.length ≤ 1000) := ⟨hnew, hw2, by omega, by omega, by omega, h4, by omega⟩
          have hkl := knownZ_len ⟨kd, num, a, bb, cc, kc⟩ i'
          have HC := hid (fun (X : World) (bv ov : Value) (h1 : b < X.heap.size) (h2 : NodesAt X b off ns) (h3 : NamesV X bv (bd ++ knownZ ⟨kd, num, a, bb, cc, kc⟩ i')) (h4 : NamesV X ov (bys ot)) => HIH.out n' k' (r'.flat ++ suf) q' (bd ++ knownZ ⟨kd, num, a, bb, cc, kc⟩ i') ot bv ov X h1 h2 h0 hw0 hw1 (by omega) h3 h4 (by rw [List.length_append]; have := HLs.out.1; omega) (by omega))
          have HQ := hid (And.intro hql hend)
          have HBi := hid (fun X => binds_calls ⟨kd, num, a, bb, cc, kc⟩ i' X (fun e => by have := HK9.out e; omega))
          unfold ndV at HBi
          dsimp only at HBi
          have HKl : Hid (bd.length + (knownZ ⟨kd, num, a, bb, cc, kc⟩ i').length ≤ 2000) := by show _ ≤ _; have := HLs.out.1; omega
          clear HR h0 hw0 hw1 hw2 hql hqn hq1 hend hnew h4 h1 h3 h3' h5 hfl hkl
          obtain ⟨ad5, cp5, ho5⟩ := HOt.out.slice
          rw [Hlen.out] at HC
          subst ho5
          have hS : Below wr.heap.size wr wr.drew := (Below.refl _ _).drew
          have q0 := fun (y : World) (h : Below wr.heap.size wr y) => (h.cell (p := ⟨w.heap.size, 0, none⟩) (heap_lt HX.out)).trans c0
          have q1 := fun (y : World) (h : Below wr.heap.size wr y) => (h.cell (p := ⟨w.heap.size, 1, none⟩) (heap_lt HX.out)).trans c1
          have q2 := fun (y : World) (h : Below wr.heap.size wr y) => (h.cell (p := ⟨w.heap.size, 2, none⟩) (heap_lt HX.out)).trans c2
          have q3 := fun (y : World) (h : Below wr.heap.size wr y) => (h.cell (p := ⟨w.heap.size, 3, none⟩) (heap_lt HX.out)).trans c3
          have q4 := fun (y : World) (h : Below wr.heap.size wr y) => (h.cell (p := ⟨w.heap.size, 4, none⟩) (heap_lt HX.out)).trans c4
          have q5 := fun (y : World) (h : Below wr.heap.size wr y) => (h.cell (p := ⟨w.heap.size, 5, none⟩) (heap_lt HX.out)).trans c5
          go_upto_region 1 with fail
          refine pick_begin (S := fun w' => Below wr.heap.size wr w') (by kernel_rfl) rfl rfl ?_
          refine pick_op (i := 0) (v := .slice (some ⟨b, off, none⟩) len cap) (by kernel_rfl) rfl (by kernel_rfl) (by kernel_rfl) rfl rfl (fun w' hw' => by simp [go_sem]) hS (by simp [go_sem]; exact rfl) ?_
          refine pick_op (i := 1) (v := .int .i64 (q' : Int)) (by kernel_rfl) rfl (by kernel_rfl) (by kernel_rfl) rfl rfl (fun w' hw' => by simp [go_sem]) hS (by simp [go_sem]; exact rfl) ?_
          refine pick_op (i := 3) (v := .slice ad2 bl cp2) (by kernel_rfl) rfl (by kernel_rfl) (by kernel_rfl) rfl rfl (fun w' hw' => by simp [go_sem]) hS (by simp [go_sem]; exact rfl) ?_
          refine pick_op (i := 5) (v := .agg #[.int .i64 kd, .int .i64 num, .string a, .string bb, .string cc, .int .i64 (kc : Int)]) (by kernel_rfl) rfl (by kernel_rfl) (by kernel_rfl) rfl rfl (fun w' hw' => by simp [go_sem, q0 w' hw', q1 w' hw', q2 w' hw', q3 w' hw', q4 w' hw', q5 w' hw']) hS (by simp [go_sem]; exact rfl) ?_
          refine pick_op (i := 6) (v := .int .i64 (i' : Int)) (by kernel_rfl) rfl (by kernel_rfl) (by kernel_rfl) rfl rfl (fun w' hw' => by simp [go_sem]) hS (by simp [go_sem]; exact rfl) ?_
          refine pick_op (i := 9) (v := .slice ad5 (bys ot).length cp5) (by kernel_rfl) rfl (by kernel_rfl) (by kernel_rfl) rfl rfl (fun w' hw' => by simp [go_sem]) hS (by simp [go_sem]; exact rfl) ?_
          refine pick_make (i := 2) (v := .slice (some ⟨wr.heap.size, 0, none⟩) 0 0) (w1 := wr.drew.alloc (.cells #[] 9)) rfl (by kernel_rfl) rfl rfl (by simp [go_sem]) (hS.alloc (Nat.le_refl _) _) (by simp [go_sem]; exact rfl) ?_
          clear c0 c1 c2 c3 c4 c5 q0 q1 q2 q3 q4 q5
          have hX0 := hS.alloc (Nat.le_refl _) (.cells #[] 9)
          have hown0 : (wr.drew.alloc (.cells #[] 9)).ownsRow wr.heap.size 9 1 (.slice (some ⟨wr.heap.size, 0, none⟩) 0 0) 0 (strRow []) := World.ownsRow_made wr.drew #[] 0 (Nat.le_refl _) (Nat.zero_le _) rfl
          generalize wr.drew.alloc (.cells #[] 9) = X0 at *
          have HBdr := hid ((HBd.out.below HA.out.2).below HB.out)
          obtain ⟨v1, X1, hrun1, hown1, hg1, -⟩ := app_names (ss := []) (ys := bd) 64 hown0 (HBdr.out.below hX0) (by have := HKl.out; simp; omega) hX0.size
          have hX1 : Below wr.heap.size wr X1 := Below.grown hX0 hg1 hX0.size (fun j hj => (hown0.lt _ hj).1)
          refine pick_make (i := 4) (v := v1) (w1 := X1) rfl (by kernel_rfl) rfl rfl (append_runN (s := .tmp 38) (x := .tmp 39) (t := 64) rfl rfl rfl hrun1) hX1 (by simp [go_sem]; exact rfl) ?_
          rw [List.nil_append] at hown1
          clear hrun1 hg1 hown0 hX0
          refine pick_enter (i := 7) (f := 71) (args := #[.agg #[.int .i64 kd, .int .i64 num, .string a, .string bb, .string cc, .int .i64 (kc : Int)], .int .i64 (i' : Int)]) rfl (by kernel_rfl) rfl rfl (by simp [go_sem]) ?_
          refine (HBi.out X1).mono ?_
          rintro e X2 ⟨sv, rfl, hnv, hb2⟩
          have hX2 := hX1.trans (hb2.mono hX1.size)
          refine ⟨sv, rfl, hX2, ?_⟩
          refine pick_frame (by simp [go_sem]; exact rfl) ?_
          have hown2 := owns_below hown1 hb2
          obtain ⟨v3, X3, hrun3, hown3, hg3, -⟩ := app_names 64 hown2 hnv (by have := HKl.out; omega) (Nat.le_trans hX1.size hb2.size)
          have hX3 : Below wr.heap.size wr X3 := Below.grown hX2 hg3 hX2.size (fun j hj => (hown2.lt _ hj).1)
          refine pick_make (i := 8) (v := v3) (w1 := X3) rfl (by kernel_rfl) rfl rfl (append_runN (s := .tmp 40) (x := .tmp 43) (t := 64) rfl rfl rfl hrun3) hX3 (by simp [go_sem]; exact rfl) ?_
          clear hrun3 hg3 hown1 hown2 hnv hb2 hX2 hX1
          have hw3 := HA.out.2.trans ((HB.out.trans (hX3.mono HB.out.size)).mono HA.out.2.size)
          refine pick_enter (i := 10) (f := 46) (args := #[.slice (some ⟨b, off, none⟩) len cap, .int .i64 (q' : Int), v3, .slice ad5 (bys ot).length cp5]) rfl (by kernel_rfl) rfl rfl (by simp [go_sem]) ?_
          refine (HC.out X3 v3 _ (by have := hw3.size; omega) (HN.out.below hw3 hbw) (names_owns hown3).1 (HOt.out.below hX3)).mono ?_
          rintro e X4 ⟨u, rfl, hu, hb4⟩
          have hX4 := hX3.trans (hb4.mono hX3.size)
          refine ⟨u, rfl, hX4, ?_⟩
          refine pick_frame (by simp [go_sem]; exact rfl) ?_
          refine pick_make (i := 11) (v := u) (w1 := X4) rfl (by kernel_rfl) rfl rfl (by simp [go_sem]) hX4 (by simp [go_sem]; exact rfl) ?_
          refine pick_end (by kernel_rfl) ?_
          have hw4 := HB.out.trans (hX4.mono HB.out.size)
          have hw5 := HA.out.2.trans (hw4.mono HA.out.2.size)
          have hT := specEnd_calls b off cap ns q' X4 (HN.out.below hw5 hbw) (by have := HM.out; omega)
          rw [HQ.out.2, Hlen.out] at hT
          have HT := hid hT
          have HU := hid (And.intro hu hw4)
          clear hT hu hb4 hw3 hX3 hX4 hw4 hw5 hown3 HC HBi hS
          have hi9 : i' ≤ 1048576 := by have := HNx.out.2.2.1; have := HKc.out; have := HCt.out; omega
          generalize q' + 1 + k'.flat.length = ee at *
          go_wp2_with fail
          refine HT.out.mono ?_
          rintro e w6 ⟨rfl, rfl⟩
          go_wp2_with fail
          try rw [wrap_succ hi9]
          exact ⟨⟨ee, i' + 1, r', _, rfl, rfl, HNx, HU.out.1, HU.out.2⟩, lt_step hi⟩
end Go.Proofs.Ytnbmhopoiijhoaa

/- The specification's TreeFree: the names that the program's walk finds free, each once, sorted. -/
namespace Go.Proofs.Ytnbmhopoiijhoaa
open Go.RowKit Go.Deep

/-- A name's node bears no kids. -/
def leaf5 : Fo → Prop
  | .none => True
  | .tree n k r => (n.kind = 5 → k = .none) ∧ leaf5 k ∧ leaf5 r

theorem leaf5_of : ∀ (f : Fo), f.wf → (∀ m ∈ f.flat, m.kind = 5 → m.kids = 0) → leaf5 f
  | .none, _, _ => trivial
  | .tree n k r, hw, h => by
    obtain ⟨h1, h2, h3⟩ := hw
    refine ⟨fun e => ?_, leaf5_of k h2 (fun m hm => h m (by simp [Fo.flat, hm])), leaf5_of r h3 (fun m hm => h m (by simp [Fo.flat, hm]))⟩
    have h0 := h n (by simp [Fo.flat]) e
    cases k with
    | none => rfl
    | tree n' k' r' =>
      simp only [Fo.count] at h1
      omega

theorem findS_open : ∀ (xs ys : List ByteArray) (sc : Sco) (x : ByteArray), xs.length = ys.length → (findS ((xs.zip ys).foldl (fun s p => p :: s) sc) x ≠ none ↔ x ∈ xs ∨ findS sc x ≠ none)
  | [], ys, sc, x, _ => by simp
  | a :: xs, [], sc, x, h => by simp at h
  | a :: xs, b :: ys, sc, x, h => by
    rw [List.zip_cons_cons, List.foldl_cons, findS_open xs ys ((a, b) :: sc) x (by simpa using h), List.mem_cons]
    by_cases e : a = x
    · subst e
      simp [findS]
    · simp only [findS, if_neg e]
      constructor
      · rintro (h | h)
        · exact Or.inl (Or.inr h)
        · exact Or.inr h
      · rintro ((h | h) | h)
        · exact absurd h.symm e
        · exact Or.inl h
        · exact Or.inr h

theorem texts_app (a b : List ByteArray) : textsOf (a ++ b) = textsOf a ++ textsOf b := by unfold textsOf; rw [List.map_append]

theorem free_pure : ∀ (f : Fo) (old new : Nd) (i : Nat) (bd : List ByteArray) (sc : Sco) (s : Wst), leaf5 f → old.kind = new.kind → (∀ x, x ∈ bd ↔ findS sc x ≠ none) → freeK old i f bd ((textsOf s.free).foldl addL []) = (textsOf (kidsW old new i f sc s).free).foldl addL []
  | .none, _, _, _, _, _, _, _, _, _ => rfl
  | .tree n k r, old, new, i, bd, sc, s, hl, hk, hb => by
    obtain ⟨h1, h2, h3⟩ := hl
    have hb2 : ∀ x, x ∈ bd ++ knownZ old i ↔ findS (openS old new i sc) x ≠ none := fun x => by
      unfold openS
      rw [findS_open _ _ _ _ (knownZ_same hk i), List.mem_append, ← hb x, or_comm]
    rw [freeK, kidsW, ← free_pure r old new (i + 1) bd sc _ h3 hk hb]
    congr 1
    by_cases e : n.kind = 5
    · rw [if_pos e, h1 e]
      simp only [kidsW, stepW]
      unfold lostZ
      by_cases hf : findS (openS old new i sc) n.a = none
      · rw [if_neg (by rw [memB_iff, hb2]; exact fun h => h hf), if_pos ⟨e, hf⟩, texts_app, List.foldl_append]
        rfl
      · rw [if_pos (by rw [memB_iff, hb2]; exact hf), if_neg (fun h => hf h.2), List.append_nil]
    · rw [if_neg e, ← free_pure k n _ 0 _ _ _ h2 (renZ_kind _ _ _).symm hb2]
      congr 1
      unfold stepW lostZ
      rw [if_neg (fun h => e h.1)]
      simp

theorem free_whole (n : Nd) (k : Fo) (hl : leaf5 (.tree n k .none)) : freeN n k [] [] = freeOf (wholeW n k) := by
  obtain ⟨h1, h2, -⟩ := hl
  unfold freeN freeOf wholeW walkW
  by_cases e : n.kind = 5
  · rw [if_pos e, h1 e, if_neg (by rw [memB_iff]; simp)]
    simp only [kidsW, stepW, lostZ, findS]
    rw [if_pos ⟨e, trivial⟩]
    rfl
  · rw [if_neg e, ← free_pure k n _ 0 [] [] _ h2 (renZ_kind _ _ _).symm (fun x => by simp [findS])]
    congr 1
    unfold stepW lostZ
    rw [if_neg (fun h => e h.1)]
    rfl

theorem own_kids {m : Nd} (h : ownOk m = true) : (m.kind = 9 → m.kids ≤ 2) ∧ (m.kind = 5 → m.kids = 0) := by
  simp only [ownOk, Bool.and_eq_true] at h
  have hk := h.1
  constructor
  · intro e
    rw [e] at hk
    have : m.kids = 2 := of_decide_eq_true hk
    omega
  · intro e
    rw [e] at hk
    exact of_decide_eq_true hk

set_option maxRecDepth 100000 in
theorem specFree_calls {b off cap : Nat} {ns : List Nd} {n : Nd} {k : Fo} (w : World) (hm : ns.length ≤ 300) (hbw : b < w.heap.size) (hn : NodesAt w b off ns) (hA : SpecAns ns true) (hall : ns.all ownOk = true) (h1 : ns = n :: k.flat) (h2 : n.kids = k.count) (h3 : k.wf) :
    Calls Try.prog 33 #[.slice (some ⟨b, off, none⟩) ns.length cap] w fun e w' => ∃ u, e = .returned u ∧ NamesV w' u (bys (freeOf (wholeW n k))) ∧ Below w.heap.size w w' := by
  have HT := hid (specTree_calls b off cap ns w true (by omega) hbw hn hA)
  have hown : ∀ m ∈ ns, ownOk m = true := fun m hm => List.all_eq_true.1 hall m hm
  have hl : leaf5 (.tree n k .none) := leaf5_of _ ⟨h2, h3, trivial⟩ (fun m hm => (own_kids (hown m (by rw [h1]; simpa [Fo.flat] using hm))).2)
  have hkl : k.flat.length ≤ 300 := by rw [h1, List.length_cons] at hm; omega
  have HF := hid (fun X (hb : Below w.heap.size w X) => free_calls b off cap ns hm (fun m hm => (own_kids (hown m hm)).1) (k.flat.length + 1) n k [] 0 [] [] _ _ X (by have := hb.size; omega) (hn.below hb hbw) (by rw [h1]; simp) h2 h3 (Nat.lt_succ_self _) (names_none X) (names_none X) (by simp; omega) (by simp; omega))
  rw [← free_whole n k hl]
  clear hn hA hall hown hl hkl hm
  generalize ns.length = len at *
  go_enter Try.func33, Try.ntmps33
  go_wp2_with fail
  refine HT.out.mono ?_
  rintro e w2 ⟨rfl, hb2⟩
  go_wp2_with fail
  refine (HF.out w2 hb2).mono ?_
  rintro e w3 ⟨u, rfl, hu, hb3⟩
  have HU := hid (And.intro hu (hb2.trans (hb3.mono hb2.size)))
  clear hu hb3
  go_wp2_with fail
  go_ret
  exact ⟨_, rfl, HU.out.1, HU.out.2⟩

set_option maxRecDepth 100000 in
theorem specFree_bad {b off cap : Nat} {ns : List Nd} (w : World) (hm : ns.length ≤ 1048576) (hbw : b < w.heap.size) (hn : NodesAt w b off ns) (hA : SpecAns ns false) :
    Calls Try.prog 33 #[.slice (some ⟨b, off, none⟩) ns.length cap] w fun e w' => e = .returned (.slice none 0 0) ∧ Below w.heap.size w w' := by
  have HT := hid (specTree_calls b off cap ns w false hm hbw hn hA)
  clear hm hbw hn hA
  generalize ns.length = len at *
  go_enter Try.func33, Try.ntmps33
  go_wp2_with fail
  refine HT.out.mono ?_
  rintro e w2 ⟨rfl, hb2⟩
  go_wp2_with fail
  go_ret
  exact ⟨rfl, hb2⟩
end Go.Proofs.Ytnbmhopoiijhoaa

/- Every part; what was put off; the whole: the specification's Compile. -/
namespace Go.Proofs.Ytnbmhopoiijhoaa
open Go.RowKit Go.Deep

section
variable {W0 : World} {Mb : Nat} {ae : Option Addr} {ce b off cap : Nat} {es : List Ef} {ns : List Nd} {K : Nat}

theorem part_all (cx : Cx W0 Mb ae b off es ns) (hk1 : K ≤ 1000) : ∀ F, PartC W0 Mb ae ce b off cap es ns K F := by
  intro F
  induction F with
  | zero => intro t ss s v W hF; have := t.size_pos; omega
  | succ F ih =>
    intro t ss s v W hF hs hK hB h hv
    by_cases n1 : t.n.kind = 1
    · rw [part1 n1]; exact part_c1 cx hk1 hF hs hK hB h hv n1
    by_cases n2 : t.n.kind = 2
    · rw [part2 n2]; exact part_c2 cx hk1 hF hs hK hB h hv n2
    by_cases n3 : t.n.kind = 3
    · rw [part3 n3]; exact part_c3 cx hk1 hF hs hK hB h hv n3
    by_cases n4 : t.n.kind = 4
    · rw [part4 n4]; exact part_c4 cx hk1 hF hs hK hB h hv n4
    by_cases n5 : t.n.kind = 5
    · rw [part5 n5]; exact part_c5 cx hk1 hF hs hK hB h hv n5
    by_cases n6 : t.n.kind = 6
    · rw [part6 n6]; exact part_c6 cx hk1 hF hs hK hB h hv n6
    by_cases n8 : t.n.kind = 8
    · rw [part8 n8]; exact part_c8 cx hk1 ih hF hs hK hB h hv n8
    by_cases n9 : t.n.kind = 9
    · rw [part9 n9]; exact part_c9 cx hk1 ih hF hs hK hB h hv n9
    by_cases n10 : t.n.kind = 10
    · rw [part10 n10]; exact part_c10 cx hk1 ih hF hs hK hB h hv n10
    by_cases n20 : t.n.kind = 20
    · rw [part20 n20]; exact part_c20 cx hk1 ih hF hs hK hB h hv n20
    by_cases nh : t.n.kind = 23 ∨ t.n.kind = 24
    · rw [partH nh]; exact part_h cx hk1 ih hF hs hK hB h hv nh
    · have n23 : t.n.kind ≠ 23 := fun e => nh (Or.inl e)
      have n24 : t.n.kind ≠ 24 := fun e => nh (Or.inr e)
      rw [partK n1 n2 n3 n4 n5 n6 n8 n9 n10 n20 n23 n24]
      exact part_k cx hk1 ih hF hs hK hB h hv ⟨n1, n2, n3, n4, n5, n6, n8, n9, n10, n20, n23, n24⟩
end

/-- What is put off and not yet made. -/
def pend (s : Cs) (i : Nat) : Nat := ((s.later.drop i).map (fun l => l.t.size)).sum

theorem pend_next {s : Cs} {i : Nat} (h : i < s.later.length) : pend s i = (s.later.getD i default).t.size + pend s (i + 1) := by
  have e : s.later.getD i default = s.later[i] := by simp [List.getD, h]
  rw [e]
  unfold pend
  rw [List.drop_eq_getElem_cons h, List.map_cons, List.sum_cons]

theorem rest_split (s : Cs) (i : Nat) : s.rest = ((s.later.take i).map (fun l => l.t.size)).sum + pend s i := by
  unfold Cs.rest pend
  conv => lhs; rw [← List.take_append_drop i s.later]
  rw [List.map_append, List.sum_append]

/-- One that was put off is made. -/
def nextZ (es : List Ef) (l : Lt) (s : Cs) : Cs := (partZ es 400 l.t l.names (s.lead l.fr l.wh)).put ⟨9, 0, 0, 0⟩

theorem next_r {ns : List Nd} {es : List Ef} {s : Cs} {i : Nat} (hi : i < s.later.length) (hl : ns.length ≤ 300) (hok : LOk ns 1000 s) (hB : s.out.length + 10 * s.rest + 3000 * pend s i ≤ 900001) (hP : i + pend s i ≤ 300) :
    LOk ns 1000 (nextZ es (s.later.getD i default) s) ∧ (nextZ es (s.later.getD i default) s).out.length + 10 * (nextZ es (s.later.getD i default) s).rest + 3000 * pend (nextZ es (s.later.getD i default) s) (i + 1) ≤ 900001 ∧ i + 1 + pend (nextZ es (s.later.getD i default) s) (i + 1) ≤ 300 ∧ i + 1 ≤ (nextZ es (s.later.getD i default) s).later.length := by
  obtain ⟨l, hl2⟩ : ∃ l, s.later.getD i default = l := ⟨_, rfl⟩
  have hp := pend_next hi
  rw [hl2] at hp ⊢
  have hmem : l ∈ s.later := by rw [← hl2]; exact getD_mem hi
  obtain ⟨h1, ⟨h2, -⟩, h3⟩ := hok l hmem
  have hsz := h1.lt.2.2
  have hpos := l.t.size_pos
  have r := ((Rs.lead ns 1000 s l.fr l.wh).trans (part_r (ns := ns) (K := 1000) (es := es) 400 l.t l.names (s.lead l.fr l.wh) (by omega) h1 h2)).trans (Rs.put ns 1000 _ ⟨9, 0, 0, 0⟩)
  have r' : Rs ns 1000 (10 * l.t.size) (l.t.size - 1) s (nextZ es l s) := r.mono (by omega) (by omega)
  obtain ⟨q, hq⟩ := r'.pre
  have e1 := rest_split s (i + 1)
  have e2 := rest_split (nextZ es l s) (i + 1)
  have e3 : (nextZ es l s).later.take (i + 1) = s.later.take (i + 1) := by rw [hq, List.take_append_of_le_length (by omega)]
  rw [e3] at e2
  have c1 := r'.cost
  have c2 := r'.rest
  have c3 := r'.len
  refine ⟨r'.ok hok, ?_, ?_, by omega⟩
  · omega
  · omega

theorem cm_start {W : World} (ve vt : Value) : Cm (W.alloc (.cells #[ve, vt, .slice none 0 0, .slice none 0 0] 69)) W.heap.size ve vt ⟨[], []⟩ [] (.slice none 0 0) (.slice none 0 0) (W.alloc (.cells #[ve, vt, .slice none 0 0, .slice none 0 0] 69)) :=
  ⟨(MapKept.heap_alloc W _).1, World.ownsRow_nil _ _ _ _, World.ownsRow_nil _ _ _ _, fun x hx => by simp at hx, rfl, rfl, rfl, rfl, Nat.le_refl _, fun _ _ _ => rfl, by simp⟩

def CompPost (es : List Ef) (ns : List Nd) (W : World) (e : Ending) (W' : World) : Prop :=
  ∃ v cs x, e = .returned (.tuple #[v, .bool x]) ∧ W'.ownsRow W.heap.size 37 4 v cs.length (rowZ In.cell 4 cs) ∧ cs.length ≤ 950000 ∧ Below W.heap.size W W' ∧ (x = false → cs = []) ∧ (x = true → ∃ n k, ns = n :: k.flat ∧ n.kids = k.count ∧ k.wf ∧ cs = codeZ es n k)

theorem cm_below {W W0 : World} {Mb : Nat} {ve vt : Value} {s : Cs} {ls : List (Lt × Value)} {vo vl : Value} {X : World} (h : Cm W0 Mb ve vt s ls vo vl X) (hb : Below W.heap.size W W0) (hM : W.heap.size ≤ Mb) : Below W.heap.size W X :=
  ⟨h.os.trans hb.os, h.tape.trans hb.tape, h.output.trans hb.output, Nat.le_trans hb.size h.size, fun q hq => (h.kept q (Nat.lt_of_lt_of_le hq hb.size) (by omega)).trans (hb.block q hq)⟩

set_option maxHeartbeats 8000000 in
set_option maxRecDepth 100000 in
theorem compile_calls {W : World} {ae : Option Addr} {ce bt cn : Nat} {es : List Ef} {ns : List Nd} (hE : EffW W ae ce es) (hel : es.length ≤ 1000) (hbt : bt < W.heap.size) (hN : NodesAt W bt 0 ns) (hl : ns.length ≤ 300) :
    Calls Try.prog 23 #[.agg #[.slice ae es.length ce, .slice (some ⟨bt, 0, none⟩) ns.length cn]] W (CompPost es ns W) := by
  obtain ⟨T, hSA, -⟩ := answers ns
  have hA := (MapKept.heap_alloc W (.cells #[.slice ae es.length ce, .slice (some ⟨bt, 0, none⟩) ns.length cn] 55)).1
  have hB1 := (Below.refl W.heap.size W).alloc (Nat.le_refl _) (.cells #[.slice ae es.length ce, .slice (some ⟨bt, 0, none⟩) ns.length cn] 55)
  obtain ⟨Y, hY⟩ : ∃ Y, W.alloc (.cells #[.slice ae es.length ce, .slice (some ⟨bt, 0, none⟩) ns.length cn] 55) = Y := ⟨_, rfl⟩
  rw [hY] at hA hB1
  have HP := hid (progOk_at (cn := cn) (hE.below hB1) hel (Nat.lt_of_lt_of_le hbt hB1.size) (hN.below hB1 hbt) hl hSA)
  have HY := hid hY
  have HA := hid hA
  have HB1 := hid hB1
  have HE := hid hE
  have HN := hid (And.intro hbt hN)
  have HL := hid (And.intro hel hl)
  have HSA := hid hSA
  have e0 := cell_of_heap HA.out 0
  have e1 := cell_of_heap HA.out 1
  simp at e0 e1
  clear hE hel hbt hN hl hSA hA hB1 hY
  go_enter Try.func23, Try.ntmps23
  go_upto_region 1 with fail
  rw [HY.out]
  clear HY
  go_wp2_with fail
  refine HP.out.mono ?_
  rintro e X1 ⟨rfl, hb2⟩
  have HB2 := hid (HB1.out.trans (hb2.mono HB1.out.size))
  have HA2 := hid ((hb2.block W.heap.size (heap_lt HA.out)).trans HA.out)
  clear hb2 HP e0 e1
  have e0 := cell_of_heap HA2.out 0
  have e1 := cell_of_heap HA2.out 1
  simp at e0 e1
  cases hR : progZ es ns T with
  | false =>
    go_wp2_with fail
    go_ret2
    exact ⟨_, [], false, rfl, World.ownsRow_nil _ _ _ _, Nat.zero_le _, HB2.out, fun _ => rfl, (fun h => by cases h)⟩
  | true =>
    have hT : T = true := by
      unfold progZ at hR
      simp only [Bool.and_eq_true] at hR
      exact hR.2.1
    subst hT
    clear hR
    obtain ⟨n, k, g1, g2, g3, hown⟩ : ∃ (n : Nd) (k : Fo), ns = n :: k.flat ∧ n.kids = k.count ∧ k.wf ∧ ns.all ownOk = true := by
      rcases HSA.out with ⟨-, h⟩ | ⟨-, -, -, h⟩ | ⟨-, -, n, k, e1, e2, e3, h⟩
      · cases h
      · cases h
      · have h' := h.symm
        simp only [Bool.and_eq_true] at h'
        exact ⟨n, k, e1, e2, e3, h'.1⟩
    have HG := hid (And.intro g1 (And.intro g2 g3))
    have HF := hid (specFree_calls (cap := cn) X1 HL.out.2 (Nat.lt_of_lt_of_le HN.out.1 HB2.out.size) (HN.out.2.below HB2.out HN.out.1) HSA.out hown g1 g2 g3)
    clear g1 g2 g3 hown
    go_wp2_with fail
    refine HF.out.mono ?_
    rintro e X2 ⟨u, rfl, hu, hb3⟩
    obtain ⟨au, cu, rfl⟩ := hu.slice
    have HB3 := hid (HB2.out.trans (hb3.mono HB2.out.size))
    have HA3 := hid ((hb3.block W.heap.size (heap_lt HA2.out)).trans HA2.out)
    obtain ⟨L, hL⟩ : ∃ L, (bys (freeOf (wholeW n k))).length = L := ⟨_, rfl⟩
    rw [hL]
    clear hu hb3 HF e0 e1 hL
    by_cases hL0 : (0 : Int) < (L : Int)
    · go_wp2_with fail
      go_ret2
      exact ⟨_, [], false, rfl, World.ownsRow_nil _ _ _ _, Nat.zero_le _, HB3.out, fun _ => rfl, (fun h => by cases h)⟩
    · have e0 := cell_of_heap HA3.out 0
      have e1 := cell_of_heap HA3.out 1
      simp at e0 e1
      have hC := cm_start (W := X2) (.slice ae es.length ce) (.slice (some ⟨bt, 0, none⟩) ns.length cn)
      have hB4 := (Below.refl X2.heap.size X2).alloc (Nat.le_refl _) (.cells #[.slice ae es.length ce, .slice (some ⟨bt, 0, none⟩) ns.length cn, .slice none 0 0, .slice none 0 0] 69)
      obtain ⟨W0, hW0⟩ : ∃ W0, X2.alloc (.cells #[.slice ae es.length ce, .slice (some ⟨bt, 0, none⟩) ns.length cn, .slice none 0 0, .slice none 0 0] 69) = W0 := ⟨_, rfl⟩
      rw [hW0] at hC hB4
      have HW0 := hid hW0
      have HB4 := hid (HB3.out.trans (hB4.mono HB3.out.size))
      have hbt2 : bt < X2.heap.size := Nat.lt_of_lt_of_le HN.out.1 HB3.out.size
      have HX : Hid (Cx W0 X2.heap.size ae bt 0 es ns) := by
        refine ⟨Nat.lt_of_lt_of_le hbt2 hB4.size, by omega, HN.out.2.below HB4.out HN.out.1, HL.out.2, HL.out.1, fun he => ?_⟩
        rcases HE.out with ⟨-, h, -⟩ | ⟨be, h1, h2, h3, -⟩
        · exact absurd h he
        · have h4 : be < X2.heap.size := Nat.lt_of_lt_of_le h2 HB3.out.size
          exact ⟨be, 0, h1, Nat.lt_of_lt_of_le h4 hB4.size, by omega, h3.below HB4.out h2⟩
      have HPA := hid (part_all (ce := ce) (cap := cn) (K := 1000) HX.out (Nat.le_refl _) 400)
      have HS := hid (stands_of HSA.out HG.out.1 HG.out.2.1 HG.out.2.2)
      have HSz : Hid ((⟨n, k, 0⟩ : Tp).size ≤ 300) := by
        show _ ≤ _
        have := HL.out.2
        rw [HG.out.1, List.length_cons] at this
        exact this
      have S0 : Hid (CmE W0 X2.heap.size (.slice ae es.length ce) (.slice (some ⟨bt, 0, none⟩) ns.length cn) ⟨[], []⟩ W0) := ⟨_, _, _, hC⟩
      have HM : Hid (W.heap.size ≤ X2.heap.size) := HB3.out.size
      have HC0 := hid (HPA.out ⟨n, k, 0⟩ [] ⟨[], []⟩ (.slice none 0 0) W0 (by have := HSz.out; omega) HS.out (by have := HSz.out; simp; omega) (by have := HSz.out; simp [Cs.rest]; omega) S0.out (Or.inl ⟨rfl, rfl⟩))
      have R0 := hid (part_r (ns := ns) (K := 1000) (es := es) 400 ⟨n, k, 0⟩ [] ⟨[], []⟩ (by have := HSz.out; omega) HS.out (by have := HSz.out; simp; omega))
      obtain ⟨Mb, hMb⟩ : ∃ Mb, X2.heap.size = Mb := ⟨_, rfl⟩
      rw [hMb] at HX HPA S0 HM HC0
      clear hC hB4 hW0 hbt2 S0
      go_upto_region 4 with fail
      rw [HW0.out]
      try rw [hMb]
      clear HW0 e0 e1 hMb
      go_wp2_with fail
      refine HC0.out.mono ?_
      rintro e X4 ⟨⟨x4, rfl⟩, h4, -⟩
      obtain ⟨s4, hs4⟩ : ∃ x, partZ es 400 ⟨n, k, 0⟩ [] ⟨[], []⟩ = x := ⟨_, rfl⟩
      rw [hs4] at h4 R0
      have S4 := hid h4
      have HS4 := hid hs4
      clear h4 hs4 HC0
      have HR0 : Hid (s4.out.length + 10 * s4.rest ≤ 3000 ∧ s4.rest ≤ 299 ∧ LOk ns 1000 s4) := by
        have h1 := R0.out.cost
        have h2 := R0.out.rest
        have h3 := HSz.out
        have h4 : (⟨[], []⟩ : Cs).rest = 0 := rfl
        have h5 : (⟨[], []⟩ : Cs).out.length = 0 := rfl
        exact ⟨by omega, by omega, R0.out.ok (fun l hl => by cases hl)⟩
      go_wp2_with fail
      refine (putM_calls ⟨0, 0, 0, 0⟩ S4.out (by have := HR0.out.1; omega)).mono ?_
      rintro e X5 ⟨rfl, h5, -⟩
      obtain ⟨n5, hn5⟩ : ∃ m, s4.out.length = m := ⟨_, rfl⟩
      rw [hn5]
      have S5 := hid h5
      clear h5 hn5
      obtain ⟨FIN, hFIN⟩ : ∃ x, codeZ es n k = x := ⟨_, rfl⟩
      have HFIN : Hid ((restZ es 400 0 (s4.put ⟨0, 0, 0, 0⟩)).out = FIN) := by
        show _ = _
        rw [← hFIN, ← HS4.out]
        rfl
      have HFQ := hid hFIN
      clear hFIN
      go_wp2_with fail
      go_loopw [5] (fun i wr => ∃ (i' : Nat) (s : Cs), i = .int .i64 (i' : Int) ∧ Hid (CmE W0 Mb (.slice ae es.length ce) (.slice (some ⟨bt, 0, none⟩) ns.length cn) s wr ∧ LOk ns 1000 s ∧ s.out.length + 10 * s.rest + 3000 * pend s i' ≤ 900001 ∧ i' + pend s i' ≤ 300 ∧ i' ≤ s.later.length ∧ (restZ es (400 - i') i' s).out = FIN)) (fun i _ => 400 - (intOf i).toNat)
      case atStart =>
        refine ⟨0, _, rfl, S5.out, ?_, ?_, ?_, Nat.zero_le _, HFIN.out⟩
        · exact (Rs.put ns 1000 s4 ⟨0, 0, 0, 0⟩).ok HR0.out.2.2
        · have h1 := HR0.out
          have h2 : (s4.put ⟨0, 0, 0, 0⟩).rest = s4.rest := rfl
          have h3 : pend (s4.put ⟨0, 0, 0, 0⟩) 0 = s4.rest := rfl
          have h4 : (s4.put ⟨0, 0, 0, 0⟩).out.length = s4.out.length + 1 := by simp [Cs.put]
          omega
        · have h1 := HR0.out
          have h3 : pend (s4.put ⟨0, 0, 0, 0⟩) 0 = s4.rest := rfl
          omega
      case round =>
        obtain ⟨i', s, rfl, HI⟩ := hrel
        obtain ⟨ls, vo, vl, hcm⟩ := HI.out.1
        obtain ⟨adl, cpl, hvl⟩ := own_slice hcm.lrow
        subst hvl
        have hll : ls.length = s.later.length := by rw [← hcm.lfst, List.length_map]
        have d3 := cell_of_heap hcm.blk 3
        simp at d3
        by_cases hi : (i' : Int) < (ls.length : Int)
        · have hil : i' < s.later.length := by omega
          obtain ⟨gl, hgl⟩ : ∃ g, adl = some ⟨g, 0, none⟩ := by
            obtain ⟨-, ⟨-, h0⟩ | ⟨g, cap, cur, e, -⟩⟩ := hcm.lrow
            · omega
            · cases e
              exact ⟨g, rfl⟩
          subst hgl
          have hcs : ∀ c, c < 4 → wr.cell? ⟨gl, i' * 4 + c, none⟩ = some (ltV (ls.getD i' default) c) := fun c hc => by
            rw [hcm.lrow.cellAt (i' * 4 + c) (by omega), rowZ_get ltV 4 (by decide) ls _ (by omega)]
            rw [show (i' * 4 + c) / 4 = i' by omega, show (i' * 4 + c) % 4 = c by omega]
          have hmem : ls.getD i' default ∈ ls := getD_mem (by omega)
          have hls : s.later.getD i' default = (ls.getD i' default).1 := by
            rw [← hcm.lfst]
            simp [List.getD, show i' < ls.length by omega]
          obtain ⟨⟨l, v⟩, hlv⟩ : ∃ x, ls.getD i' default = x := ⟨_, rfl⟩
          rw [hlv] at hcs hmem hls
          have hnm := hcm.lnam _ hmem
          dsimp only at hls hnm
          obtain ⟨adv, cpv, rfl⟩ := hnm.is
          have b0 := hcs 0 (by omega)
          have b1 := hcs 1 (by omega)
          have b2 := hcs 2 (by omega)
          have b3 := hcs 3 (by omega)
          simp only [ltV, Nat.add_zero] at b0 b1 b2 b3
          have hlm : l ∈ s.later := by rw [← hls]; exact getD_mem hil
          obtain ⟨q1, q2, q3⟩ := HI.out.2.1 l hlm
          have HQ := hid (And.intro q1 (And.intro q2 q3))
          have hnx := next_r (es := es) hil HL.out.2 HI.out.2.1 HI.out.2.2.1 HI.out.2.2.2.1
          rw [hls] at hnx
          have HNx := hid hnx
          have hpn := pend_next hil
          rw [hls] at hpn
          have HPn := hid hpn
          have HFn : Hid ((restZ es (400 - (i' + 1)) (i' + 1) (nextZ es l s)).out = FIN) := by
            have h1 := HI.out.2.2.2.2.2
            rw [show 400 - i' = (400 - (i' + 1)) + 1 by have := HI.out.2.2.2.1; omega, restZ, if_pos hil] at h1
            dsimp only at h1
            have hd : s.later.getD i' ⟨default, [], 0, 0⟩ = l := hls
            rw [hd] at h1
            exact h1
          have hA5 := (MapKept.heap_alloc wr (.cells #[.int .i64 (l.t.at_ : Int), .slice adv l.names.length cpv, .int .i64 (l.fr : Int), .int .i64 (l.wh : Int)] 73)).1
          have hB5 := (Below.refl wr.heap.size wr).alloc (Nat.le_refl _) (.cells #[.int .i64 (l.t.at_ : Int), .slice adv l.names.length cpv, .int .i64 (l.fr : Int), .int .i64 (l.wh : Int)] 73)
          obtain ⟨V, hV⟩ : ∃ V, wr.alloc (.cells #[.int .i64 (l.t.at_ : Int), .slice adv l.names.length cpv, .int .i64 (l.fr : Int), .int .i64 (l.wh : Int)] 73) = V := ⟨_, rfl⟩
          rw [hV] at hA5 hB5
          have HV := hid hV
          have HA5 := hid hA5
          have V0 := hid (HI.out.1.below hB5)
          have VN := hid (hnm.frame (Cf.of_below hB5))
          have hi0 : (0 : Int) ≤ (i' : Int) := by omega
          have hstep : 400 - (intOf (.int .i64 ((i' + 1 : Nat) : Int))).toNat < 400 - (intOf (.int .i64 (i' : Int))).toNat := by
            have := HI.out.2.2.2.1
            simp only [intOf, Int.toNat_natCast]
            omega
          clear hcm hll hil hcs hmem hls hlv hnm hlm q1 q2 q3 hnx hpn hA5 hB5 hV
          go_upto_region 10 with fail
          rw [HV.out]
          clear HV b0 b1 b2 b3 d3
          have x2 := cell_of_heap HA5.out 2
          have x3 := cell_of_heap HA5.out 3
          simp at x2 x3
          go_wp2_with fail
          refine (lead2_calls l.fr l.wh V0.out (by have := HI.out.2.2.1; omega) HQ.out.2.2 (by have := HQ.out.2.1.2; omega)).mono ?_
          rintro e E1 ⟨⟨⟨y1, rfl⟩, h1, f1⟩, l1⟩
          have E1S := hid h1
          have E1N := hid (VN.out.frame f1)
          have E1A := hid ((l1 _ _ HA5.out).trans HA5.out)
          clear h1 f1 l1 x2 x3
          have y0 := cell_of_heap E1A.out 0
          have y1 := cell_of_heap E1A.out 1
          simp at y0 y1
          go_wp2_with fail
          refine (HPA.out l.t l.names _ _ _ (by have := HQ.out.1.lt.2.2; have := HL.out.2; omega) HQ.out.1 HQ.out.2.1.1 (by have h1 := HI.out.2.2.1; have h2 := HQ.out.1.lt.2.2; have h3 := HL.out.2; have h4 : (s.lead l.fr l.wh).out.length = s.out.length := lead_len _ _ _; have h5 : (s.lead l.fr l.wh).rest = s.rest := rfl; omega) E1S.out E1N.out).mono ?_
          rintro e E2 ⟨⟨z2, rfl⟩, h2, -⟩
          have E2S := hid h2
          clear h2 y0 y1
          have HOut : Hid ((partZ es 400 l.t l.names (s.lead l.fr l.wh)).out.length ≤ 950000) := by
            show _ ≤ _
            have h1 := HNx.out.2.1
            have h2 : (nextZ es l s).out.length = (partZ es 400 l.t l.names (s.lead l.fr l.wh)).out.length + 1 := by simp [nextZ, Cs.put]
            omega
          go_wp2_with fail
          refine (putM_calls ⟨9, 0, 0, 0⟩ E2S.out (by have := HOut.out; omega)).mono ?_
          rintro e E3 ⟨rfl, h3, -⟩
          obtain ⟨m3, hm3⟩ : ∃ m, (partZ es 400 l.t l.names (s.lead l.fr l.wh)).out.length = m := ⟨_, rfl⟩
          rw [hm3]
          have E3S : Hid (CmE W0 Mb (.slice ae es.length ce) (.slice (some ⟨bt, 0, none⟩) ns.length cn) (nextZ es l s) E3) := h3
          clear h3 hm3
          have hi9 : Hid (i' ≤ 1000) := by show _ ≤ _; have := HI.out.2.2.2.1; omega
          go_wp2_with fail
          try rw [wrap_succ (by have := hi9.out; omega)]
          exact ⟨⟨i' + 1, nextZ es l s, rfl, E3S.out, HNx.out.1, HNx.out.2.1, HNx.out.2.2.1, HNx.out.2.2.2, HFn.out⟩, hstep⟩
        · have hie : ¬ i' < s.later.length := by omega
          have HFn : Hid (s.out = FIN) := by
            have h1 := HI.out.2.2.2.2.2
            rw [show 400 - i' = (399 - i') + 1 by have := HI.out.2.2.2.1; omega, restZ, if_neg hie] at h1
            exact h1
          obtain ⟨ado, cpo, hvo⟩ := own_slice hcm.orow
          subst hvo
          have d2 := cell_of_heap hcm.blk 2
          simp at d2
          have HCm := hid hcm
          clear hcm hll
          go_wp2_with fail
          go_ret2
          exact ⟨_, s.out, true, rfl, own_base HCm.out.orow HB4.out.size, by have := HI.out.2.2.1; omega, cm_below HCm.out HB4.out HM.out, (fun h => by cases h), fun _ => ⟨n, k, HG.out.1, HG.out.2.1, HG.out.2.2, by rw [HFn.out, HFQ.out]⟩⟩
end Go.Proofs.Ytnbmhopoiijhoaa

/- A name is drawn; a name that is known is drawn; a name more is known. -/
namespace Go.Proofs.Ytnbmhopoiijhoaa
open Go.RowKit Go.Deep

theorem Gen.setNext {d : Dr} {ve : Value} {W : World} {s : Cn} (h : Gen d ve W s) (x : Nat) : Gen d ve (W.setCell ⟨d.G, 3, none⟩ (.int .i64 (x : Int))) { s with next := x } ∧ Grew d W (W.setCell ⟨d.G, 3, none⟩ (.int .i64 (x : Int))) := by
  have ho : ∀ q, q ≠ d.G → (W.setCell ⟨d.G, 3, none⟩ (.int .i64 (x : Int))).heap[q]? = W.heap[q]? := fun q hq => Below.heap_setCell W ⟨d.G, 3, none⟩ _ q hq
  have hg : Grew d W (W.setCell ⟨d.G, 3, none⟩ (.int .i64 (x : Int))) := ⟨rfl, rfl, rfl, by simp [World.setCell], fun q hq => ho q hq.2.2⟩
  exact ⟨⟨h.rd.same hg (ho _ h.ne), by simp [World.setCell, Array.getElem?_modify, h.blk], h.ne⟩, hg⟩

theorem Gen.setLeft {d : Dr} {ve : Value} {W : World} {s : Cn} (h : Gen d ve W s) (x : Int) : Gen d ve (W.setCell ⟨d.G, 2, none⟩ (.int .i64 x)) { s with left := x } ∧ Grew d W (W.setCell ⟨d.G, 2, none⟩ (.int .i64 x)) := by
  have ho : ∀ q, q ≠ d.G → (W.setCell ⟨d.G, 2, none⟩ (.int .i64 x)).heap[q]? = W.heap[q]? := fun q hq => Below.heap_setCell W ⟨d.G, 2, none⟩ _ q hq
  have hg : Grew d W (W.setCell ⟨d.G, 2, none⟩ (.int .i64 x)) := ⟨rfl, rfl, rfl, by simp [World.setCell], fun q hq => ho q hq.2.2⟩
  exact ⟨⟨h.rd.same hg (ho _ h.ne), by simp [World.setCell, Array.getElem?_modify, h.blk], h.ne⟩, hg⟩

theorem Gen.ltG {d : Dr} {ve : Value} {W : World} {s : Cn} (h : Gen d ve W s) : d.G < W.heap.size := heap_lt h.blk
theorem Gen.ltB {d : Dr} {ve : Value} {W : World} {s : Cn} (h : Gen d ve W s) : d.B < W.heap.size := heap_lt h.rd.blk
theorem Gen.c0 {d : Dr} {ve : Value} {W : World} {s : Cn} (h : Gen d ve W s) : W.cell? ⟨d.G, 0, none⟩ = some (.pointer (some ⟨d.B, 0, none⟩)) := by rw [cell_of_heap h.blk]; rfl
theorem Gen.c1 {d : Dr} {ve : Value} {W : World} {s : Cn} (h : Gen d ve W s) : W.cell? ⟨d.G, 1, none⟩ = some ve := by rw [cell_of_heap h.blk]; rfl
theorem Gen.c2 {d : Dr} {ve : Value} {W : World} {s : Cn} (h : Gen d ve W s) : W.cell? ⟨d.G, 2, none⟩ = some (.int .i64 s.left) := by rw [cell_of_heap h.blk]; rfl
theorem Gen.c3 {d : Dr} {ve : Value} {W : World} {s : Cn} (h : Gen d ve W s) : W.cell? ⟨d.G, 3, none⟩ = some (.int .i64 (s.next : Int)) := by rw [cell_of_heap h.blk]; rfl
theorem Gen.f2 {d : Dr} {ve : Value} {W : World} {s : Cn} (h : Gen d ve W s) : W.frozen? ⟨d.G, 2, none⟩ = false := frozen_of_heap h.blk 2
theorem Gen.f3 {d : Dr} {ve : Value} {W : World} {s : Cn} (h : Gen d ve W s) : W.frozen? ⟨d.G, 3, none⟩ = false := frozen_of_heap h.blk 3

/-- A number is drawn by the drawer. -/
theorem gen_pick {d : Dr} {ve : Value} {W : World} {s : Cn} (h : Gen d ve W s) (hp : s.p ≤ 1000000) (n : Int) (hn : 0 < n) :
    Calls Try.prog 13 #[.pointer (some ⟨d.B, 0, none⟩), .int .i64 n] W fun e W' => ∃ m : Int, e = .returned (.int .i64 m) ∧ 0 ≤ m ∧ m < n ∧ Gen d ve W' { s with p := s.p + 1 } ∧ Grew d W W' := by
  refine (rdr_pick h.rd hp n hn).mono ?_
  rintro e W' ⟨m, rfl, h0, h1, hr, hg, -, ho⟩
  exact ⟨m, rfl, h0, h1, ⟨hr, (ho _ (Ne.symm h.ne)).trans h.blk, h.ne⟩, hg⟩

theorem cell_old {W : World} {o : Obj} {p : Addr} {v : Value} (hp : p.block < W.heap.size) (h : W.cell? p = some v) : (W.alloc o).cell? p = some v :=
  (((Below.refl W.heap.size W).alloc (Nat.le_refl _) o).cell hp).trans h

theorem digit_run (m : Int) (h0 : 0 < m) (h1 : m < 7) : ∃ s : ByteArray, s.size = 1 ∧ ∀ W : World, (convert 22 9 (.slice (some ⟨W.heap.size, 0, none⟩) 1 1)).run Try.prog (W.alloc (.cells #[.int .u8 (48 + m)] 5)) = .ok (.string s) (W.alloc (.cells #[.int .u8 (48 + m)] 5)) := by
  refine ⟨⟨#[UInt8.ofNat (48 + m.toNat)]⟩, rfl, fun W => ?_⟩
  have h := run_convert_bytes_back (P := Try.prog) (W.alloc (.cells #[.int .u8 (48 + m)] 5)) 22 9 5 ⟨W.heap.size, 0, none⟩ 1 [UInt8.ofNat (48 + m.toNat)] Try.underlying22 Try.underlying5 Try.underlying9 (fun i hi => by
    have h0 : i = 0 := by simpa using hi
    subst h0
    simp [Addr.add]
    omega)
  exact h

set_option maxRecDepth 100000 in
theorem digit_zero (W : World) : Calls Try.prog 74 #[.int .i64 0] W fun e W' => e = .returned (.string ⟨#[48]⟩) ∧ W' = W := by
  go_enter Try.func74, Try.ntmps74
  go_wp2_with fail
  go_ret
  exact ⟨rfl, rfl⟩

set_option maxRecDepth 100000 in
/-- A digit as a text: nothing is made but a block of one byte. -/
theorem digit_calls (m : Int) (x : ByteArray) (hx : x.size = 1) (h2 : 0 < m) (h1 : m < 7) (hr : ∀ W : World, (convert 22 9 (.slice (some ⟨W.heap.size, 0, none⟩) 1 1)).run Try.prog (W.alloc (.cells #[.int .u8 (48 + m)] 5)) = .ok (.string x) (W.alloc (.cells #[.int .u8 (48 + m)] 5))) (W : World) : Calls Try.prog 74 #[.int .i64 m] W fun e W' => e = .returned (.string (x ++ ⟨#[]⟩)) ∧ W' = W.alloc (.cells #[.int .u8 (48 + m)] 5) := by
  have hrun := hr W
  have hm : ¬ m = 0 := by omega
  have e0 : (m == 0) = false := by simp [hm]
  have e1 : m % 10 = m := by omega
  have e2 : m / 10 = 0 := by omega
  clear hr
  go_enter Try.func74, Try.ntmps74
  go_wp2_with fail
  refine wp_loop_rounds 2 ?_
  rw [rounds_succ]
  go_wp2_with fail
  rw [e2, rounds_succ]
  go_wp2_with fail
  go_ret
  exact ⟨rfl, rfl⟩

/-- A digit as a text. -/
theorem digit_any (m : Int) (h0 : 0 ≤ m) (h1 : m < 7) : ∃ x : ByteArray, x.size ≤ 50 ∧ ∀ W, Calls Try.prog 74 #[.int .i64 m] W fun e W' => e = .returned (.string x) ∧ Below W.heap.size W W' := by
  by_cases hm : m = 0
  · subst hm
    refine ⟨⟨#[48]⟩, by decide, fun W => (digit_zero W).mono ?_⟩
    rintro e W' ⟨rfl, rfl⟩
    exact ⟨rfl, Below.refl _ _⟩
  · obtain ⟨x, hx, hr⟩ := digit_run m (by omega) h1
    refine ⟨x ++ ⟨#[]⟩, ?_, fun W => (digit_calls m x hx (by omega) h1 hr W).mono ?_⟩
    · rw [ByteArray.size_append, hx]
      decide
    · rintro e W' ⟨rfl, rfl⟩
      exact ⟨rfl, (Below.refl _ _).alloc (Nat.le_refl _) _⟩

def sixV : Array Value := #[.string ⟨#[120]⟩, .string ⟨#[121]⟩, .string ⟨#[122]⟩, .string ⟨#[110]⟩, .string ⟨#[109]⟩, .string ⟨#[113]⟩]

theorem six_get (r : Int) (h0 : 0 ≤ r) (h1 : r < 6) : ∃ y : ByteArray, y.size = 1 ∧ sixV[r.toNat]? = some (.string y) := by
  have h : r = 0 ∨ r = 1 ∨ r = 2 ∨ r = 3 ∨ r = 4 ∨ r = 5 := by omega
  rcases h with rfl | rfl | rfl | rfl | rfl | rfl <;> exact ⟨_, rfl, rfl⟩

theorem six_cell {X : World} (r : Int) (y : ByteArray) (h : sixV[r.toNat]? = some (.string y)) : (X.alloc (.cells sixV 9)).cell? ⟨X.heap.size, r.toNat, none⟩ = some (.string y) := by
  rw [cell_of_heap (MapKept.heap_alloc X _).1, h]

set_option maxHeartbeats 4000000 in
set_option maxRecDepth 100000 in
/-- A name is drawn. -/
theorem name_calls {d : Dr} {ve : Value} {W : World} {s : Cn} (h : Gen d ve W s) (hn : s.next ≤ 1000000) :
    Calls Try.prog 56 #[.pointer (some ⟨d.G, 0, none⟩)] W fun e W' => ∃ x, e = .returned (.string x) ∧ Brief x ∧ Gen d ve W' { s with next := s.next + 1 } ∧ Grew d W W' := by
  have HG := hid h
  have HN := hid (h.setNext (s.next + 1))
  obtain ⟨n, hn'⟩ : ∃ n : Nat, s.next = n := ⟨_, rfl⟩
  have c3 := h.c3
  have f3 := h.f3
  rw [hn'] at c3 hn HN ⊢
  obtain ⟨G, hGe⟩ : ∃ G, d.G = G := ⟨_, rfl⟩
  rw [hGe] at c3 f3 HN ⊢
  go_enter Try.func56, Try.ntmps56
  go_wp2_with fail
  have e1 : ((n : Int) + 1) = ((n + 1 : Nat) : Int) := by omega
  rw [e1]
  have cN := HN.out.1.c3
  have hGl := HN.out.1.ltG
  rw [hGe] at cN hGl
  clear c3 f3 HG h e1
  generalize W.setCell ⟨G, 3, none⟩ (.int .i64 ((n + 1 : Nat) : Int)) = W1 at *
  dsimp only at cN
  have hN0 : (0 : Int) ≤ ((n + 1 : Nat) : Int) := by omega
  generalize hNe : ((n + 1 : Nat) : Int) = N at *
  obtain ⟨m, hm⟩ : ∃ m, N % 7 = m := ⟨_, rfl⟩
  have hm0 : 0 ≤ m := by omega
  have hm1 : m < 7 := by omega
  obtain ⟨x, hx, hD⟩ := digit_any m hm0 hm1
  have HD := hid hD
  have HX := hid hx
  obtain ⟨r, hr⟩ : ∃ r, N % 6 = r := ⟨_, rfl⟩
  have hr0 : 0 ≤ r := by omega
  have hr1 : r < 6 := by omega
  have ht6 : N.tmod 6 = r := (Int.tmod_eq_emod_of_nonneg hN0).trans hr
  have ht7 : N.tmod 7 = m := (Int.tmod_eq_emod_of_nonneg hN0).trans hm
  obtain ⟨y, hy, hsix⟩ := six_get r hr0 hr1
  have HY := hid hy
  have HN1 : Hid (Gen d ve W1.drew { s with next := n + 1 } ∧ Grew d W W1.drew) := ⟨HN.out.1.drew, HN.out.2.drew⟩
  have cD : W1.drew.cell? ⟨G, 3, none⟩ = some (.int .i64 N) := cN
  have hGD : G < W1.drew.heap.size := hGl
  clear hNe hn hn' hGe hm hm0 hm1 hr cN hGl HN hD hx
  refine pick_begin (S := fun w' => w'.cell? ⟨G, 3, none⟩ = some (.int .i64 N)) (by kernel_rfl) rfl rfl ?_
  generalize W1.drew = D at *
  refine pick_op (i := 1) (v := .pointer (some ⟨G, 0, none⟩)) (by kernel_rfl) rfl (by kernel_rfl) (by kernel_rfl) rfl rfl (fun w' hw => by simp [go_sem]) cD (by simp [go_sem]; exact rfl) ?_
  refine pick_op (i := 2) (v := .pointer (some ⟨G, 0, none⟩)) (by kernel_rfl) rfl (by kernel_rfl) (by kernel_rfl) rfl rfl (fun w' hw => by simp [go_sem]) cD (by simp [go_sem]; exact rfl) ?_
  refine pick_op (i := 3) (v := .pointer (some ⟨G, 3, none⟩)) (by kernel_rfl) rfl (by kernel_rfl) (by kernel_rfl) rfl rfl (fun w' hw => by simp [go_sem]) cD (by simp [go_sem]; exact rfl) ?_
  refine pick_op (i := 4) (v := .int .i64 N) (by kernel_rfl) rfl (by kernel_rfl) (by kernel_rfl) rfl rfl (fun w' hw => by simp [go_sem, hw]) cD (by simp [go_sem]; exact rfl) ?_
  refine pick_op (i := 5) (v := .int .i64 r) (by kernel_rfl) rfl (by kernel_rfl) (by kernel_rfl) rfl rfl (fun w' hw => by simp [go_sem, ht6]) cD (by simp [go_sem]; exact rfl) ?_
  refine pick_op (i := 8) (v := .pointer (some ⟨G, 0, none⟩)) (by kernel_rfl) rfl (by kernel_rfl) (by kernel_rfl) rfl rfl (fun w' hw => by simp [go_sem]) cD (by simp [go_sem]; exact rfl) ?_
  refine pick_op (i := 9) (v := .pointer (some ⟨G, 0, none⟩)) (by kernel_rfl) rfl (by kernel_rfl) (by kernel_rfl) rfl rfl (fun w' hw => by simp [go_sem]) cD (by simp [go_sem]; exact rfl) ?_
  refine pick_op (i := 10) (v := .pointer (some ⟨G, 3, none⟩)) (by kernel_rfl) rfl (by kernel_rfl) (by kernel_rfl) rfl rfl (fun w' hw => by simp [go_sem]) cD (by simp [go_sem]; exact rfl) ?_
  refine pick_op (i := 11) (v := .int .i64 N) (by kernel_rfl) rfl (by kernel_rfl) (by kernel_rfl) rfl rfl (fun w' hw => by simp [go_sem, hw]) cD (by simp [go_sem]; exact rfl) ?_
  refine pick_op (i := 12) (v := .int .i64 m) (by kernel_rfl) rfl (by kernel_rfl) (by kernel_rfl) rfl rfl (fun w' hw => by simp [go_sem, ht7]) cD (by simp [go_sem]; exact rfl) ?_
  have hx := HX.out
  refine pick_either (i := 0) (j := 13) (by kernel_rfl) ?_ ?_
  · have cy := six_cell (X := D) r y hsix
    have c1 := cell_old (o := .cells sixV 9) hGD cD
    have HB1 : Hid (Below D.heap.size D (D.alloc (.cells sixV 9))) := (Below.refl _ _).alloc (Nat.le_refl _) _
    have hq : D.heap.size < (D.alloc (.cells sixV 9)).heap.size := by simp
    refine ⟨_, .slice (some ⟨D.heap.size, 0, none⟩) 6 6, D.alloc (.cells sixV 9), rfl, rfl, by simp [go_sem, sixV], c1, ?_⟩
    refine pick_frame (by simp [go_sem]; exact rfl) ?_
    generalize D.alloc (.cells sixV 9) = X1 at *
    refine pick_op (i := 6) (v := .pointer (some ⟨D.heap.size, r.toNat, none⟩)) (by kernel_rfl) rfl (by kernel_rfl) (by kernel_rfl) rfl rfl (fun w' hw => by simp [go_sem, hr0, hr1]) c1 (by simp [go_sem]; exact rfl) ?_
    refine pick_more (fun w' => w'.cell? ⟨G, 3, none⟩ = some (.int .i64 N) ∧ w'.cell? ⟨D.heap.size, r.toNat, none⟩ = some (.string y)) (fun w h => h.1) ?_
    refine pick_op (i := 7) (v := .string y) (by kernel_rfl) rfl (by kernel_rfl) (by kernel_rfl) rfl rfl (fun w' hw => by simp [go_sem, hw.2]) ⟨c1, cy⟩ (by simp [go_sem]; exact rfl) ?_
    refine pick_enter (i := 13) (f := 74) (args := #[.int .i64 m]) rfl (by kernel_rfl) rfl rfl (by simp [go_sem]) ?_
    refine (HD.out X1).mono ?_
    rintro e X2 ⟨rfl, hb⟩
    have HB2 := hid hb
    have c2 := (hb.cell (p := ⟨G, 3, none⟩) (block_lt_of_cell c1)).trans c1
    have cy2 := (hb.cell (p := ⟨D.heap.size, r.toNat, none⟩) hq).trans cy
    clear hb
    refine ⟨_, rfl, ⟨c2, cy2⟩, ?_⟩
    refine pick_frame (by simp [go_sem]; exact rfl) ?_
    refine pick_op (i := 14) (v := .string (y ++ x)) (by kernel_rfl) rfl (by kernel_rfl) (by kernel_rfl) rfl rfl (fun w' hw => by simp [go_sem, HY.out]; omega) ⟨c2, cy2⟩ (by simp [go_sem]; exact rfl) ?_
    refine pick_op (i := 15) (v := .string (y ++ x)) (by kernel_rfl) rfl (by kernel_rfl) (by kernel_rfl) rfl rfl (fun w' hw => by simp [go_sem]) ⟨c2, cy2⟩ (by simp [go_sem]; exact rfl) ?_
    refine pick_end (by kernel_rfl) ?_
    go_wp2_with fail
    go_ret
    exact ⟨_, rfl, by unfold Brief; rw [ByteArray.size_append, HY.out]; have := HX.out; omega, (HN1.out.1.below HB1.out).below HB2.out, HN1.out.2.trans ((Grew.of_below HB1.out).trans (Grew.of_below HB2.out))⟩
  · refine ⟨_, 74, #[.int .i64 m], rfl, rfl, by simp [go_sem], ?_⟩
    refine (HD.out D).mono ?_
    rintro e X1 ⟨rfl, hb⟩
    have HB1 := hid hb
    have c1 := (hb.cell (p := ⟨G, 3, none⟩) hGD).trans cD
    have hGX : G < X1.heap.size := block_lt_of_cell c1
    clear hb
    refine ⟨_, rfl, c1, ?_⟩
    refine pick_frame (by simp [go_sem]; exact rfl) ?_
    have cy := six_cell (X := X1) r y hsix
    have c2 := cell_old (o := .cells sixV 9) hGX c1
    have HB2 : Hid (Below X1.heap.size X1 (X1.alloc (.cells sixV 9))) := (Below.refl _ _).alloc (Nat.le_refl _) _
    refine pick_make (i := 0) (v := .slice (some ⟨X1.heap.size, 0, none⟩) 6 6) (w1 := X1.alloc (.cells sixV 9)) rfl (by kernel_rfl) rfl rfl (by simp [go_sem, sixV]) c2 (by simp [go_sem]; exact rfl) ?_
    generalize X1.alloc (.cells sixV 9) = X2 at *
    refine pick_op (i := 6) (v := .pointer (some ⟨X1.heap.size, r.toNat, none⟩)) (by kernel_rfl) rfl (by kernel_rfl) (by kernel_rfl) rfl rfl (fun w' hw => by simp [go_sem, hr0, hr1]) c2 (by simp [go_sem]; exact rfl) ?_
    refine pick_more (fun w' => w'.cell? ⟨G, 3, none⟩ = some (.int .i64 N) ∧ w'.cell? ⟨X1.heap.size, r.toNat, none⟩ = some (.string y)) (fun w h => h.1) ?_
    refine pick_op (i := 7) (v := .string y) (by kernel_rfl) rfl (by kernel_rfl) (by kernel_rfl) rfl rfl (fun w' hw => by simp [go_sem, hw.2]) ⟨c2, cy⟩ (by simp [go_sem]; exact rfl) ?_
    refine pick_op (i := 14) (v := .string (y ++ x)) (by kernel_rfl) rfl (by kernel_rfl) (by kernel_rfl) rfl rfl (fun w' hw => by simp [go_sem, HY.out]; omega) ⟨c2, cy⟩ (by simp [go_sem]; exact rfl) ?_
    refine pick_op (i := 15) (v := .string (y ++ x)) (by kernel_rfl) rfl (by kernel_rfl) (by kernel_rfl) rfl rfl (fun w' hw => by simp [go_sem]) ⟨c2, cy⟩ (by simp [go_sem]; exact rfl) ?_
    refine pick_end (by kernel_rfl) ?_
    go_wp2_with fail
    go_ret
    exact ⟨_, rfl, by unfold Brief; rw [ByteArray.size_append, HY.out]; have := HX.out; omega, (HN1.out.1.below HB1.out).below HB2.out, HN1.out.2.trans ((Grew.of_below HB1.out).trans (Grew.of_below HB2.out))⟩
end Go.Proofs.Ytnbmhopoiijhoaa

/- A name more is known; a name of a type is drawn; something small is drawn. -/
namespace Go.Proofs.Ytnbmhopoiijhoaa
open Go.RowKit Go.Deep

theorem knows_owns {d : Dr} {W : World} {B : Nat} {v : Value} {ks : List Kn} (h : W.ownsRow B 116 3 v ks.length (rowZ Kn.cell 3 ks)) (hb : ∀ k ∈ ks, Brief k.name) (h1 : d.B < B) (h2 : d.G < B) : KnowsD d W v ks :=
  ⟨lies_owns (by decide) h h1 h2, hb⟩

/-- One thing in a slice of its own, just written out. -/
theorem know_lit {d : Dr} (W : World) (k : Kn) (h1 : d.B < W.heap.size) (h2 : d.G < W.heap.size) : Lies d (W.alloc (.cells #[.string k.name, .int .i64 k.ty, .int .i64 k.res] 116)) (.slice (some ⟨W.heap.size, 0, none⟩) 1 1) [k].length 3 (fun i => Kn.cell ([k].getD (i / 3) default) (i % 3)) :=
  lies_lit (f := Kn.cell) (sz := 3) (by decide) W 116 [k] _ rfl h1 h2

theorem kadd_step {W wr W' : World} {acc ks : List Kn} {out v' : Value} {o : Obj} (h : wr.ownsRow W.heap.size 116 3 out acc.length (rowZ Kn.cell 3 acc) ∧ Below W.heap.size W wr ∧ ∀ k ∈ acc, Brief k.name) (hk : ∀ k ∈ ks, Brief k.name) (h' : W'.ownsRow W.heap.size 116 3 v' (acc ++ ks).length (rowZ Kn.cell 3 (acc ++ ks)) ∧ (wr.alloc o).grownBy W' out.ownBlock) :
    W'.ownsRow W.heap.size 116 3 v' (acc ++ ks).length (rowZ Kn.cell 3 (acc ++ ks)) ∧ Below W.heap.size W W' ∧ ∀ k ∈ acc ++ ks, Brief k.name :=
  ⟨h'.1, (h.2.1.alloc h.2.1.size o).grown h'.2 (by have := h.2.1.size; simp; omega) (fun k hk => (h.1.lt k hk).1), fun k hx => by
    rw [List.mem_append] at hx
    rcases hx with hx | hx
    · exact h.2.2 k hx
    · exact hk k hx⟩

set_option maxHeartbeats 4000000 in
set_option maxRecDepth 100000 in
theorem kadd_calls {d : Dr} {v : Value} {ks : List Kn} (nm : ByteArray) (ty res : Int) (W : World) (h1 : d.B < W.heap.size) (h2 : d.G < W.heap.size) (hk : KnowsD d W v ks) (hb : Brief nm) (hl : ks.length ≤ 1000) :
    Calls Try.prog 57 #[v, .string nm, .int .i64 ty, .int .i64 res] W fun e W' => ∃ u, e = .returned u ∧ ∃ ks', KnowsD d W' u ks' ∧ ks'.length ≤ ks.length + 1 ∧ Below W.heap.size W W' := by
  obtain ⟨L, hL⟩ : ∃ L, ks.length = L := ⟨_, rfl⟩
  have HK := hid hk
  have HL := hid (And.intro hL (And.intro hl (And.intro hb (And.intro h1 h2))))
  obtain ⟨ad, cp, rfl⟩ := hk.is
  rw [hL] at HK ⊢
  clear hk hb hl h1 h2 hL
  obtain ⟨i0, hinf, hz0, hz1, hz2⟩ := info_parts info_know
  go_enter Try.func57, Try.ntmps57
  go_wp2_with fail
  go_loopw [9, 10] (fun out i wr => ∃ (i' : Nat) (acc : List Kn), i = .int .i64 i' ∧ i' ≤ L ∧ Hid (acc.length ≤ i') ∧ Hid (wr.ownsRow W.heap.size 116 3 out acc.length (rowZ Kn.cell 3 acc) ∧ Below W.heap.size W wr ∧ ∀ k ∈ acc, Brief k.name)) (fun _ i _ => L - (intOf i).toNat)
  case atStart => exact ⟨0, [], rfl, Nat.zero_le _, Nat.zero_le _, World.ownsRow_nil _ _ _ _, Below.refl _ _, fun k hk => by simp at hk⟩
  case round =>
    obtain ⟨i', acc, rfl, hle, HA, HO⟩ := hrel
    by_cases hi : (i' : Int) < (L : Int)
    · obtain ⟨b, off, xn, xt, xr, rfl, -, hbr, hq, c0, c1, c2⟩ := HK.out.at (i := i') (by omega)
      have c0 := (HO.out.2.1.cell (p := ⟨b, off + i' * 3, none⟩) hq.1).trans c0
      have c1 := (HO.out.2.1.cell (p := ⟨b, off + i' * 3 + 1, none⟩) hq.1).trans c1
      have c2 := (HO.out.2.1.cell (p := ⟨b, off + i' * 3 + 2, none⟩) hq.1).trans c2
      have hi0 : (0 : Int) ≤ (i' : Int) := by omega
      have hstep : L - (intOf (.int .i64 ((i' + 1 : Nat) : Int))).toNat < L - (intOf (.int .i64 (i' : Int))).toNat := lt_step hi
      have HBr : Hid (∀ k ∈ [(⟨xn, xt, xr⟩ : Kn)], Brief k.name) := fun k hk => by rw [List.mem_singleton] at hk; rw [hk]; exact hbr
      have HS := hid (And.intro (show d.B < wr.heap.size by have := HO.out.2.1.size; have := HL.out; omega) (show d.G < wr.heap.size by have := HO.out.2.1.size; have := HL.out; omega))
      clear hbr hq
      go_wp2_with (at_builtin; refine wpList_append_by rfl _ _ 99 rfl _ _ rfl rfl (fun ty => app_row kn_one Try.underlying99 hinf hz0 hz1 hz2 rfl (by decide) (by decide) (HO.out.1.alloc _) (know_lit wr ⟨xn, xt, xr⟩ HS.out.1 HS.out.2) (by have := HA.out; have := HL.out; simp; omega) (by have := HO.out.2.1.size; simp; omega) ty) ?_; intro v5 w5 hv5; have HO5 := hid (kadd_step HO.out HBr.out hv5); clear hv5)
      · try rw [wrap_succ (by have := HL.out; omega)]
        exact ⟨⟨i' + 1, acc ++ [⟨xn, xt, xr⟩], rfl, by omega, by show _ ≤ _; have := HA.out; simp; omega, HO5⟩, hstep⟩
      · try rw [wrap_succ (by have := HL.out; omega)]
        exact ⟨⟨i' + 1, acc, rfl, by omega, by show _ ≤ _; have := HA.out; omega, HO⟩, hstep⟩
    · have e : i' = L := by omega
      subst e
      have HBr : Hid (∀ k ∈ [(⟨nm, ty, res⟩ : Kn)], Brief k.name) := fun k hk => by rw [List.mem_singleton] at hk; rw [hk]; exact HL.out.2.2.1
      have HS := hid (And.intro (show d.B < wr.heap.size by have := HO.out.2.1.size; have := HL.out; omega) (show d.G < wr.heap.size by have := HO.out.2.1.size; have := HL.out; omega))
      go_wp2_with (at_builtin; refine wpList_append_by rfl _ _ 99 rfl _ _ rfl rfl (fun ty_ => app_row kn_one Try.underlying99 hinf hz0 hz1 hz2 rfl (by decide) (by decide) (HO.out.1.alloc _) (know_lit wr ⟨nm, ty, res⟩ HS.out.1 HS.out.2) (by have := HA.out; have := HL.out; simp; omega) (by have := HO.out.2.1.size; simp; omega) ty_) ?_; intro v5 w5 hv5; have HO5 := hid (kadd_step HO.out HBr.out hv5); clear hv5)
      go_ret
      refine ⟨_, rfl, acc ++ [⟨nm, ty, res⟩], knows_owns HO5.out.1 HO5.out.2.2 HL.out.2.2.2.1 HL.out.2.2.2.2, ?_, HO5.out.2.1⟩
      have := HA.out
      simp
      omega

/-- What a draw of nodes comes to: nodes, and not too much spent. -/
def NodesPost (d : Dr) (ve : Value) (W : World) (s : Cn) (c : Nat) (e : Ending) (W' : World) : Prop :=
  ∃ v ns s' t, e = .returned v ∧ NodesD d W' v ns ∧ (1 ≤ ns.length ∧ ns.length ≤ t) ∧ Gen d ve W' s' ∧ Grew d W W' ∧ Spent s s' t c

/-- The same, or no nodes. -/
def NodesPost0 (d : Dr) (ve : Value) (W : World) (s : Cn) (c : Nat) (e : Ending) (W' : World) : Prop :=
  ∃ v ns s' t, e = .returned v ∧ NodesD d W' v ns ∧ ns.length ≤ t ∧ Gen d ve W' s' ∧ Grew d W W' ∧ Spent s s' t c

theorem nodes_none (d : Dr) (W : World) : NodesD d W (.slice none 0 0) [] := ⟨Or.inl ⟨rfl, rfl⟩, fun n hn => by simp at hn⟩

theorem Spent.refl (s : Cn) (c : Nat) : Spent s s 0 c := ⟨by omega, by omega, by omega, by omega, by omega⟩

theorem nd_lit {d : Dr} (W : World) (n : Nd) (h1 : d.B < W.heap.size) (h2 : d.G < W.heap.size) (hb : Brief n.a ∧ Brief n.b ∧ Brief n.c) : NodesD d (W.alloc (.cells #[.int .i64 n.kind, .int .i64 n.num, .string n.a, .string n.b, .string n.c, .int .i64 n.kids] 92)) (.slice (some ⟨W.heap.size, 0, none⟩) 1 1) [n] :=
  ⟨lies_lit (f := Nd.cell) (sz := 6) (by decide) W 92 [n] _ rfl h1 h2, fun x hx => by rw [List.mem_singleton] at hx; rw [hx]; exact hb⟩

set_option maxHeartbeats 4000000 in
set_option maxRecDepth 100000 in
/-- A name that is known. -/
theorem gknown_calls {d : Dr} {ve v : Value} {W : World} {s : Cn} {ks : List Kn} (ty : Int) (h : Gen d ve W s) (hp : s.p ≤ 1000000) (hk : KnowsD d W v ks) (hl : ks.length ≤ 1000) :
    Calls Try.prog 73 #[.pointer (some ⟨d.G, 0, none⟩), v, .int .i64 ty] W (NodesPost0 d ve W s 1) := by
  obtain ⟨L, hL⟩ : ∃ L, ks.length = L := ⟨_, rfl⟩
  have HK := hid hk
  have HG := hid h
  have HL := hid (And.intro hL (And.intro hl hp))
  have g0 := h.c0
  obtain ⟨ad, cp, rfl⟩ := hk.is
  rw [hL] at HK ⊢
  obtain ⟨G, hGe⟩ : ∃ G, d.G = G := ⟨_, rfl⟩
  have HGe := hid hGe
  obtain ⟨B, hBe⟩ : ∃ B, d.B = B := ⟨_, rfl⟩
  have HBe := hid hBe
  rw [hGe, hBe] at g0
  rw [hGe]
  clear hk hl hp hL h hGe hBe
  go_enter Try.func73, Try.ntmps73
  go_wp2_with fail
  go_loopw [7, 8] (fun n i wr => ∃ (i' n' : Nat), n = .int .i64 n' ∧ i = .int .i64 i' ∧ i' ≤ L ∧ Hid (n' ≤ i') ∧ wr = W) (fun _ i _ => L - (intOf i).toNat)
  case atStart => exact ⟨0, 0, rfl, rfl, Nat.zero_le _, Nat.zero_le _, rfl⟩
  case round =>
    obtain ⟨i', n', rfl, rfl, hle, HN, rfl⟩ := hrel
    by_cases hi : (i' : Int) < (L : Int)
    · obtain ⟨b, off, xn, xt, xr, rfl, -, -, hq, c0, c1, c2⟩ := HK.out.at (i := i') (by omega)
      have hi0 : (0 : Int) ≤ (i' : Int) := by omega
      have hstep : L - (intOf (.int .i64 ((i' + 1 : Nat) : Int))).toNat < L - (intOf (.int .i64 (i' : Int))).toNat := lt_step hi
      clear hq c0 c2
      go_wp2_with fail
      · rw [wrap_succ (x := i') (by have := HL.out; omega), wrap_succ (x := n') (by have := HL.out; have := HN.out; omega)]
        exact ⟨⟨i' + 1, n' + 1, rfl, rfl, by omega, by show _ ≤ _; have := HN.out; omega, by first | rfl | trivial⟩, hstep⟩
      · rw [wrap_succ (x := i') (by have := HL.out; omega)]
        exact ⟨⟨i' + 1, n', rfl, rfl, by omega, by show _ ≤ _; have := HN.out; omega, by first | rfl | trivial⟩, hstep⟩
    · rename World => Wo
      by_cases hn0 : n' = 0
      · subst hn0
        go_wp2_with fail
        go_ret
        exact ⟨_, [], s, 0, rfl, nodes_none _ _, by simp, HG.out, Grew.refl _ _, Spent.refl _ _⟩
      · have hz : ((n' : Int) == 0) = false := by simp; omega
        have HP := hid (gen_pick HG.out (by have := HL.out; omega) (n' : Int) (by omega))
        rw [HBe.out] at HP
        go_wp2_with fail
        refine HP.out.mono ?_
        rintro e W2 ⟨k0, rfl, hk0, hk1, hg2, hgr2⟩
        have HG2 := hid (And.intro hg2 hgr2)
        have HK2 := hid (HK.out.grew hgr2)
        have HKk : Hid (k0 ≤ 1000) := by show _ ≤ _; have := HL.out; have := HN.out; omega
        clear HP hk1 hg2 hgr2 HK HG g0 hz hn0
        go_wp2_with fail
        go_loopw [9, 10] (fun k i wr => ∃ (i' : Nat) (k' : Int), k = .int .i64 k' ∧ i = .int .i64 i' ∧ i' ≤ L ∧ 0 ≤ k' ∧ Hid (k' ≤ 1000) ∧ wr = W2) (fun _ i _ => L - (intOf i).toNat)
        case atStart => exact ⟨0, k0, rfl, rfl, Nat.zero_le _, hk0, HKk, rfl⟩
        case round =>
          obtain ⟨i2, k2, rfl, rfl, hle2, hk20, HK21, rfl⟩ := hrel
          by_cases hi2 : (i2 : Int) < (L : Int)
          · obtain ⟨b, off, xn, xt, xr, rfl, -, hbr, hq, c0, c1, c2⟩ := HK2.out.at (i := i2) (by omega)
            have HBr := hid hbr
            have hi0 : (0 : Int) ≤ (i2 : Int) := by omega
            have hstep : L - (intOf (.int .i64 ((i2 + 1 : Nat) : Int))).toNat < L - (intOf (.int .i64 (i2 : Int))).toNat := lt_step hi2
            clear hq c2 hbr
            by_cases hk2 : k2 = 0
            · subst hk2
              go_wp2_with fail
              · go_ret
                exact ⟨_, [⟨5, 0, xn, ByteArray.empty, ByteArray.empty, 0⟩], _, 1, rfl, nd_lit wr ⟨5, 0, xn, ByteArray.empty, ByteArray.empty, 0⟩ HG2.out.1.ltB HG2.out.1.ltG ⟨HBr.out, brief_none, brief_none⟩, by simp, HG2.out.1.alloc _, HG2.out.2.alloc _, by unfold Spent; dsimp only; omega⟩
              · rw [wrap_succ (x := i2) (by have := HL.out; omega)]
                exact ⟨⟨i2 + 1, 0, rfl, rfl, by omega, Int.le_refl _, by show _ ≤ _; omega, by first | rfl | trivial⟩, hstep⟩
            · have hz2 : (k2 == 0) = false := by simp [hk2]
              have HW : Hid (wrap64 (k2 - 1) = k2 - 1) := by show _ = _; have := HK21.out; unfold wrap64; omega
              go_wp2_with fail
              · rw [wrap_succ (x := i2) (by have := HL.out; omega)]
                try rw [HW.out]
                exact ⟨⟨i2 + 1, k2 - 1, rfl, rfl, by omega, by omega, by show _ ≤ _; have := HK21.out; omega, by first | rfl | trivial⟩, hstep⟩
              · rw [wrap_succ (x := i2) (by have := HL.out; omega)]
                exact ⟨⟨i2 + 1, k2, rfl, rfl, by omega, hk20, HK21, by first | rfl | trivial⟩, hstep⟩
          · go_wp2_with fail
            go_ret
            exact ⟨_, [], _, 1, rfl, nodes_none _ _, by simp, HG2.out.1, HG2.out.2, by unfold Spent; dsimp only; omega⟩

/-- Where a draw stands: the drawer, what it left alone, what it spent. -/
def At (d : Dr) (ve : Value) (W : World) (s : Cn) (X : World) (s' : Cn) (t c : Nat) : Prop := Gen d ve X s' ∧ Grew d W X ∧ Spent s s' t c

theorem Spent.trans {s s1 s2 : Cn} {t t' c c' : Nat} (h : Spent s s1 t c) (g : Spent s1 s2 t' c') : Spent s s2 (t + t') (c + c') := by
  unfold Spent at h g ⊢
  omega

theorem Spent.mono {s s1 : Cn} {t c c' : Nat} (h : Spent s s1 t c) (hc : c ≤ c') : Spent s s1 t c' := by
  unfold Spent at h ⊢
  omega

theorem At.start {d : Dr} {ve : Value} {W : World} {s : Cn} (h : Gen d ve W s) : At d ve W s W s 0 0 := ⟨h, Grew.refl _ _, Spent.refl _ _⟩

theorem At.step {d : Dr} {ve : Value} {W X X' : World} {s s1 s2 : Cn} {t t' c c' : Nat} (h : At d ve W s X s1 t c) (h1 : Gen d ve X' s2) (h2 : Grew d X X') (h3 : Spent s1 s2 t' c') : At d ve W s X' s2 (t + t') (c + c') := ⟨h1, h.2.1.trans h2, h.2.2.trans h3⟩

theorem At.below {d : Dr} {ve : Value} {W X X' : World} {s s1 : Cn} {t c : Nat} (h : At d ve W s X s1 t c) (hb : Below X.heap.size X X') : At d ve W s X' s1 t c := ⟨h.1.below hb, h.2.1.trans (Grew.of_below hb), h.2.2⟩

theorem At.alloc {d : Dr} {ve : Value} {W X : World} {s s1 : Cn} {t c : Nat} (h : At d ve W s X s1 t c) (o : Obj) : At d ve W s (X.alloc o) s1 t c := h.below ((Below.refl _ _).alloc (Nat.le_refl _) o)

theorem At.drew {d : Dr} {ve : Value} {W X : World} {s s1 : Cn} {t c : Nat} (h : At d ve W s X s1 t c) : At d ve W s X.drew s1 t c := ⟨h.1.drew, h.2.1.drew, h.2.2⟩

theorem At.fit {d : Dr} {ve : Value} {W X : World} {s s1 : Cn} {t c C : Nat} (h : At d ve W s X s1 t c) (hf : Fit s C) (C' : Nat) (hc : c + C' ≤ C) : Fit s1 C' := by
  have h3 := h.2.2
  unfold Spent at h3
  unfold Fit at hf ⊢
  omega

theorem At.done {d : Dr} {ve : Value} {W X : World} {s s1 : Cn} {t c C : Nat} {v : Value} {ns : List Nd} (h : At d ve W s X s1 t c) (k : Nat) (hn : NodesD d X v ns) (hl : 1 ≤ ns.length ∧ ns.length ≤ t + k) (hc : c + k ≤ C) : NodesPost d ve W s C (.returned v) X :=
  ⟨v, ns, s1, t + k, rfl, hn, hl, h.1, h.2.1, by have h3 := h.2.2; unfold Spent at h3 ⊢; omega⟩

theorem At.done0 {d : Dr} {ve : Value} {W X : World} {s s1 : Cn} {t c C : Nat} {v : Value} {ns : List Nd} (h : At d ve W s X s1 t c) (k : Nat) (hn : NodesD d X v ns) (hl : ns.length ≤ t + k) (hc : c + k ≤ C) : NodesPost0 d ve W s C (.returned v) X :=
  ⟨v, ns, s1, t + k, rfl, hn, hl, h.1, h.2.1, by have h3 := h.2.2; unfold Spent at h3 ⊢; omega⟩

/-- A number is drawn. -/
theorem At.pick {d : Dr} {ve : Value} {W X : World} {s s1 : Cn} {t c C : Nat} (h : At d ve W s X s1 t c) (hf : Fit s C) (hc : c < C) (n : Int) (hn : 0 < n) :
    Calls Try.prog 13 #[.pointer (some ⟨d.B, 0, none⟩), .int .i64 n] X fun e X' => ∃ (m : Int) (s2 : Cn), e = .returned (.int .i64 m) ∧ 0 ≤ m ∧ m < n ∧ At d ve W s X' s2 (t + 1) (c + 1) ∧ Grew d X X' := by
  have hf1 := h.fit hf 1 (by omega)
  refine (gen_pick h.1 (by unfold Fit at hf1; omega) n hn).mono ?_
  rintro e X' ⟨m, rfl, h0, h1, hg, hgr⟩
  exact ⟨m, _, rfl, h0, h1, h.step hg hgr (by unfold Spent; dsimp only; omega), hgr⟩

/-- A name is drawn. -/
theorem At.name {d : Dr} {ve : Value} {W X : World} {s s1 : Cn} {t c C : Nat} (h : At d ve W s X s1 t c) (hf : Fit s C) (hc : c < C) :
    Calls Try.prog 56 #[.pointer (some ⟨d.G, 0, none⟩)] X fun e X' => ∃ (x : ByteArray) (s2 : Cn), e = .returned (.string x) ∧ Brief x ∧ At d ve W s X' s2 (t + 1) (c + 1) ∧ Grew d X X' := by
  have hf1 := h.fit hf 1 (by omega)
  refine (name_calls h.1 (by unfold Fit at hf1; omega)).mono ?_
  rintro e X' ⟨x, rfl, hb, hg, hgr⟩
  exact ⟨x, _, rfl, hb, h.step hg hgr (by unfold Spent; dsimp only; omega), hgr⟩

/-- What draws nodes, from where a draw stands. -/
theorem At.nodes {d : Dr} {ve : Value} {W X : World} {s s1 : Cn} {t c c' : Nat} {f : FuncId} {args : Array Value} (h : At d ve W s X s1 t c) (hc : Calls Try.prog f args X (NodesPost d ve X s1 c')) :
    Calls Try.prog f args X fun e X' => ∃ v ns s2 t', e = .returned v ∧ NodesD d X' v ns ∧ (1 ≤ ns.length ∧ ns.length ≤ t') ∧ At d ve W s X' s2 (t + t') (c + c') ∧ Grew d X X' := by
  refine hc.mono ?_
  rintro e X' ⟨v, ns, s2, t', rfl, hn, hl, hg, hgr, hsp⟩
  exact ⟨v, ns, s2, t', rfl, hn, hl, h.step hg hgr hsp, hgr⟩

theorem At.nodes0 {d : Dr} {ve : Value} {W X : World} {s s1 : Cn} {t c c' : Nat} {f : FuncId} {args : Array Value} (h : At d ve W s X s1 t c) (hc : Calls Try.prog f args X (NodesPost0 d ve X s1 c')) :
    Calls Try.prog f args X fun e X' => ∃ v ns s2 t', e = .returned v ∧ NodesD d X' v ns ∧ ns.length ≤ t' ∧ At d ve W s X' s2 (t + t') (c + c') ∧ Grew d X X' := by
  refine hc.mono ?_
  rintro e X' ⟨v, ns, s2, t', rfl, hn, hl, hg, hgr, hsp⟩
  exact ⟨v, ns, s2, t', rfl, hn, hl, h.step hg hgr hsp, hgr⟩

/-- One node alone. -/
theorem At.node {d : Dr} {ve : Value} {W X : World} {s s1 : Cn} {t c : Nat} (h : At d ve W s X s1 t c) (k n : Int) :
    Calls Try.prog 39 #[.int .i64 k, .int .i64 n] X fun e X' => ∃ v ns, e = .returned v ∧ NodesD d X' v ns ∧ ns.length = 1 ∧ At d ve W s X' s1 t c ∧ Grew d X X' := by
  refine (node_calls (d := d) k n X h.1.ltB h.1.ltG).mono ?_
  rintro e X' ⟨v, rfl, hn, hb⟩
  exact ⟨v, _, rfl, hn, rfl, h.below hb, Grew.of_below hb⟩

/-- A name more is known. -/
theorem At.add {d : Dr} {ve v : Value} {W X : World} {s s1 : Cn} {t c : Nat} {ks : List Kn} (h : At d ve W s X s1 t c) (nm : ByteArray) (ty res : Int) (hk : KnowsD d X v ks) (hb : Brief nm) (hl : ks.length ≤ 1000) :
    Calls Try.prog 57 #[v, .string nm, .int .i64 ty, .int .i64 res] X fun e X' => ∃ u ks', e = .returned u ∧ KnowsD d X' u ks' ∧ ks'.length ≤ ks.length + 1 ∧ At d ve W s X' s1 t c ∧ Grew d X X' := by
  refine (kadd_calls nm ty res X h.1.ltB h.1.ltG hk hb hl).mono ?_
  rintro e X' ⟨u, rfl, ks', hk', hl', hbl⟩
  exact ⟨u, ks', rfl, hk', hl', h.below hbl, Grew.of_below hbl⟩

theorem kids_lit {d : Dr} {X : World} (ls : List (Value × List Nd)) (c : Array Value) (hc : c = (ls.map Prod.fst).toArray) (h1 : d.B < X.heap.size) (h2 : d.G < X.heap.size) (h : ∀ x ∈ ls, NodesD d X x.1 x.2) :
    KidsV d (X.alloc (.cells c 53)) (.slice (some ⟨X.heap.size, 0, none⟩) ls.length ls.length) ls := by
  subst hc
  have hh := (MapKept.heap_alloc X (.cells (ls.map Prod.fst).toArray 53)).1
  refine ⟨Or.inr ⟨_, 0, _, rfl, Nat.le_refl _, rfl, ⟨heap_lt hh, by omega, by omega⟩, fun i hi => ?_⟩, fun x hx => (h x hx).grew (Grew.of_below ((Below.refl _ _).alloc (Nat.le_refl _) _))⟩
  rw [Nat.zero_add, cell_of_heap hh i, List.getElem?_toArray]
  rw [Nat.mul_one] at hi
  simp [List.getD, hi]

/-- Nodes put together. -/
theorem At.put {d : Dr} {ve : Value} {W X : World} {s s1 : Cn} {t c : Nat} (h : At d ve W s X s1 t c) (ls : List (Value × List Nd)) (cs : Array Value) (m : Nat) (k nm kd : Int) (a b e' : ByteArray) (hc : cs = (ls.map Prod.fst).toArray) (hm : m = ls.length) (hls : ∀ x ∈ ls, NodesD d X x.1 x.2) (hb : Brief a ∧ Brief b ∧ Brief e') (hl : ls.length ≤ 1000) (hfl : (flatL ls).length ≤ 800000) :
    Calls Try.prog 55 #[.agg #[.int .i64 k, .int .i64 nm, .string a, .string b, .string e', .int .i64 kd], .slice (some ⟨X.heap.size, 0, none⟩) m m] (X.alloc (.cells cs 53)) fun e X' => ∃ v ns, e = .returned v ∧ NodesD d X' v ns ∧ ns.length = 1 + (flatL ls).length ∧ At d ve W s X' s1 t c ∧ Grew d X X' := by
  subst hm
  have hB : (X.alloc (.cells cs 53)).heap.size = X.heap.size + 1 := by simp
  refine (gput_calls (d := d) k nm kd a b e' (X.alloc (.cells cs 53)) _ ls (by rw [hB]; have := h.1.ltB; omega) (by rw [hB]; have := h.1.ltG; omega) (kids_lit ls cs hc h.1.ltB h.1.ltG hls) hb hl hfl).mono ?_
  rintro e X' ⟨v, rfl, hn, hbl⟩
  exact ⟨v, _, rfl, hn, by simp; omega, (h.alloc _).below hbl, (Grew.of_below ((Below.refl _ _).alloc (Nat.le_refl _) _)).trans (Grew.of_below hbl)⟩

theorem At.put1 {d : Dr} {ve : Value} {W X : World} {s s1 : Cn} {t c : Nat} (h : At d ve W s X s1 t c) (k nm kd : Int) (a b e' : ByteArray) {v1 : Value} {n1 : List Nd} (h1 : NodesD d X v1 n1) (hb : Brief a ∧ Brief b ∧ Brief e') (hfl : n1.length ≤ 800000) :
    Calls Try.prog 55 #[.agg #[.int .i64 k, .int .i64 nm, .string a, .string b, .string e', .int .i64 kd], .slice (some ⟨X.heap.size, 0, none⟩) 1 1] (X.alloc (.cells #[v1] 53)) fun e X' => ∃ v ns, e = .returned v ∧ NodesD d X' v ns ∧ ns.length = 1 + n1.length ∧ At d ve W s X' s1 t c ∧ Grew d X X' := by
  have hf : (flatL [(v1, n1)]).length = n1.length := by simp [flatL]
  rw [← hf]
  exact h.put [(v1, n1)] _ 1 k nm kd a b e' rfl rfl (fun x hx => by simp at hx; subst hx; exact h1) hb (by simp) (by omega)

theorem At.put2 {d : Dr} {ve : Value} {W X : World} {s s1 : Cn} {t c : Nat} (h : At d ve W s X s1 t c) (k nm kd : Int) (a b e' : ByteArray) {v1 v2 : Value} {n1 n2 : List Nd} (h1 : NodesD d X v1 n1) (h2 : NodesD d X v2 n2) (hb : Brief a ∧ Brief b ∧ Brief e') (hfl : n1.length + n2.length ≤ 800000) :
    Calls Try.prog 55 #[.agg #[.int .i64 k, .int .i64 nm, .string a, .string b, .string e', .int .i64 kd], .slice (some ⟨X.heap.size, 0, none⟩) 2 2] (X.alloc (.cells #[v1, v2] 53)) fun e X' => ∃ v ns, e = .returned v ∧ NodesD d X' v ns ∧ ns.length = 1 + (n1.length + n2.length) ∧ At d ve W s X' s1 t c ∧ Grew d X X' := by
  have hf : (flatL [(v1, n1), (v2, n2)]).length = n1.length + n2.length := by simp [flatL]
  rw [← hf]
  exact h.put [(v1, n1), (v2, n2)] _ 2 k nm kd a b e' rfl rfl (fun x hx => by simp at hx; rcases hx with rfl | rfl; exact h1; exact h2) hb (by simp) (by omega)

theorem At.put3 {d : Dr} {ve : Value} {W X : World} {s s1 : Cn} {t c : Nat} (h : At d ve W s X s1 t c) (k nm kd : Int) (a b e' : ByteArray) {v1 v2 v3 : Value} {n1 n2 n3 : List Nd} (h1 : NodesD d X v1 n1) (h2 : NodesD d X v2 n2) (h3 : NodesD d X v3 n3) (hb : Brief a ∧ Brief b ∧ Brief e') (hfl : n1.length + n2.length + n3.length ≤ 800000) :
    Calls Try.prog 55 #[.agg #[.int .i64 k, .int .i64 nm, .string a, .string b, .string e', .int .i64 kd], .slice (some ⟨X.heap.size, 0, none⟩) 3 3] (X.alloc (.cells #[v1, v2, v3] 53)) fun e X' => ∃ v ns, e = .returned v ∧ NodesD d X' v ns ∧ ns.length = 1 + (n1.length + n2.length + n3.length) ∧ At d ve W s X' s1 t c ∧ Grew d X X' := by
  have hf : (flatL [(v1, n1), (v2, n2), (v3, n3)]).length = n1.length + n2.length + n3.length := by simp [flatL]; omega
  rw [← hf]
  exact h.put [(v1, n1), (v2, n2), (v3, n3)] _ 3 k nm kd a b e' rfl rfl (fun x hx => by simp at hx; rcases hx with rfl | rfl | rfl; exact h1; exact h2; exact h3) hb (by simp) (by omega)
end Go.Proofs.Ytnbmhopoiijhoaa

/- Something small is drawn. -/
namespace Go.Proofs.Ytnbmhopoiijhoaa
open Go.RowKit Go.Deep

/-- What is spent is bounded. -/
theorem At.bound {d : Dr} {ve : Value} {W X : World} {s s1 : Cn} {t c C : Nat} (h : At d ve W s X s1 t c) (hf : Fit s C) (hc : c ≤ C) (hC : C ≤ 1000) : t ≤ 400000 := by
  have h3 := h.2.2
  unfold Spent at h3
  unfold Fit at hf
  omega

set_option maxHeartbeats 4000000 in
set_option maxRecDepth 100000 in
/-- Something small of type 1. -/
theorem leaf1 {d : Dr} {ve v : Value} {W : World} {s : Cn} {ks : List Kn} (ty : Int) (ht : ty = 1) (h : Gen d ve W s) (hf : Fit s 4) (hk : KnowsD d W v ks) (hl : ks.length ≤ 999) :
    Calls Try.prog 54 #[.pointer (some ⟨d.G, 0, none⟩), .int .i64 ty, v] W (NodesPost d ve W s 4) := by
  have HF := hid hf
  have A0 := hid (At.start h)
  have HKn := hid hk
  have HKl := hid hl
  have HK := hid (A0.out.nodes0 (gknown_calls ty h (by unfold Fit at hf; omega) hk (by omega)))
  obtain ⟨ad, cp, rfl⟩ := hk.is
  clear hk hl h hf
  subst ht
  go_enter Try.func54, Try.ntmps54
  go_wp2_with fail
  refine HK.out.mono ?_
  rintro e X1 ⟨v1, n1, s1, t1, rfl, hn1, hl1, ha1, hg1⟩
  have A1 := hid ha1
  have N1 := hid (And.intro hn1 hl1)
  have G1 := hid hg1
  obtain ⟨ad1, cp1, rfl⟩ := hn1.is
  obtain ⟨l1, hl1e⟩ : ∃ l, n1.length = l := ⟨_, rfl⟩
  have HL1 := hid hl1e
  rw [hl1e] at N1 ⊢
  clear hn1 hl1 ha1 hg1 HK hl1e A0
  by_cases hz : l1 = 0
  · subst hz
    have g0 := A1.out.1.c0
    go_wp2_with fail
    refine (A1.out.pick HF.out (by omega) 10 (by decide)).mono ?_
    rintro e X2 ⟨m2, s2, rfl, hm2, hM2, ha, hg⟩
    have A2 := hid ha
    have G2 := hid hg
    clear ha hg
    clear g0
    go_wp2_with fail
    refine (A2.out.node 1 m2).mono ?_
    rintro e X3 ⟨v3, n3, rfl, hn3, hl3, ha, hg⟩
    have A3 := hid ha
    have G3 := hid hg
    clear ha hg
    have N3 := hid (And.intro hn3 hl3)
    obtain ⟨ad3, cp3, rfl⟩ := hn3.is
    clear hn3 hl3
    go_wp2_with fail
    go_ret
    exact A3.out.done 1 N3.out.1 (by have := N3.out.2; omega) (by omega)
  · have hz' : (0 : Int) < (l1 : Int) := by omega
    have g0 := A1.out.1.c0
    go_wp2_with fail
    refine (A1.out.pick HF.out (by omega) 3 (by decide)).mono ?_
    rintro e X2 ⟨m2, s2, rfl, hm2, hM2, ha, hg⟩
    have A2 := hid ha
    have G2 := hid hg
    clear ha hg
    clear g0
    by_cases hm : 0 < m2
    · go_wp2_with fail
      go_ret
      exact A2.out.done 0 (N1.out.1.grew G2.out) (by have := N1.out.2; have := HL1.out; omega) (by omega)
    · have hm0 : m2 = 0 := by omega
      subst hm0
      have g0 := A2.out.1.c0
      go_wp2_with fail
      refine (A2.out.pick HF.out (by omega) 10 (by decide)).mono ?_
      rintro e X3 ⟨m3, s3, rfl, hm3, hM3, ha, hg⟩
      have A3 := hid ha
      have G3 := hid hg
      clear ha hg
      clear g0
      go_wp2_with fail
      refine (A3.out.node 1 m3).mono ?_
      rintro e X4 ⟨v4, n4, rfl, hn4, hl4, ha, hg⟩
      have A4 := hid ha
      have G4 := hid hg
      clear ha hg
      have N4 := hid (And.intro hn4 hl4)
      obtain ⟨ad4, cp4, rfl⟩ := hn4.is
      clear hn4 hl4
      go_wp2_with fail
      go_ret
      exact A4.out.done 1 N4.out.1 (by have := N4.out.2; omega) (by omega)

set_option maxHeartbeats 4000000 in
set_option maxRecDepth 100000 in
/-- Something small of type 2. -/
theorem leaf2 {d : Dr} {ve v : Value} {W : World} {s : Cn} {ks : List Kn} (ty : Int) (ht : ty = 2) (h : Gen d ve W s) (hf : Fit s 4) (hk : KnowsD d W v ks) (hl : ks.length ≤ 999) :
    Calls Try.prog 54 #[.pointer (some ⟨d.G, 0, none⟩), .int .i64 ty, v] W (NodesPost d ve W s 4) := by
  have HF := hid hf
  have A0 := hid (At.start h)
  have HKn := hid hk
  have HKl := hid hl
  have HK := hid (A0.out.nodes0 (gknown_calls ty h (by unfold Fit at hf; omega) hk (by omega)))
  obtain ⟨ad, cp, rfl⟩ := hk.is
  clear hk hl h hf
  subst ht
  go_enter Try.func54, Try.ntmps54
  go_wp2_with fail
  refine HK.out.mono ?_
  rintro e X1 ⟨v1, n1, s1, t1, rfl, hn1, hl1, ha1, hg1⟩
  have A1 := hid ha1
  have N1 := hid (And.intro hn1 hl1)
  have G1 := hid hg1
  obtain ⟨ad1, cp1, rfl⟩ := hn1.is
  obtain ⟨l1, hl1e⟩ : ∃ l, n1.length = l := ⟨_, rfl⟩
  have HL1 := hid hl1e
  rw [hl1e] at N1 ⊢
  clear hn1 hl1 ha1 hg1 HK hl1e A0
  by_cases hz : l1 = 0
  · subst hz
    have g0 := A1.out.1.c0
    go_wp2_with fail
    refine (A1.out.pick HF.out (by omega) 2 (by decide)).mono ?_
    rintro e X2 ⟨m2, s2, rfl, hm2, hM2, ha, hg⟩
    have A2 := hid ha
    have G2 := hid hg
    clear ha hg
    clear g0
    go_wp2_with fail
    refine (A2.out.node 2 m2).mono ?_
    rintro e X3 ⟨v3, n3, rfl, hn3, hl3, ha, hg⟩
    have A3 := hid ha
    have G3 := hid hg
    clear ha hg
    have N3 := hid (And.intro hn3 hl3)
    obtain ⟨ad3, cp3, rfl⟩ := hn3.is
    clear hn3 hl3
    go_wp2_with fail
    go_ret
    exact A3.out.done 1 N3.out.1 (by have := N3.out.2; omega) (by omega)
  · have hz' : (0 : Int) < (l1 : Int) := by omega
    have g0 := A1.out.1.c0
    go_wp2_with fail
    refine (A1.out.pick HF.out (by omega) 3 (by decide)).mono ?_
    rintro e X2 ⟨m2, s2, rfl, hm2, hM2, ha, hg⟩
    have A2 := hid ha
    have G2 := hid hg
    clear ha hg
    clear g0
    by_cases hm : 0 < m2
    · go_wp2_with fail
      go_ret
      exact A2.out.done 0 (N1.out.1.grew G2.out) (by have := N1.out.2; have := HL1.out; omega) (by omega)
    · have hm0 : m2 = 0 := by omega
      subst hm0
      have g0 := A2.out.1.c0
      go_wp2_with fail
      refine (A2.out.pick HF.out (by omega) 2 (by decide)).mono ?_
      rintro e X3 ⟨m3, s3, rfl, hm3, hM3, ha, hg⟩
      have A3 := hid ha
      have G3 := hid hg
      clear ha hg
      clear g0
      go_wp2_with fail
      refine (A3.out.node 2 m3).mono ?_
      rintro e X4 ⟨v4, n4, rfl, hn4, hl4, ha, hg⟩
      have A4 := hid ha
      have G4 := hid hg
      clear ha hg
      have N4 := hid (And.intro hn4 hl4)
      obtain ⟨ad4, cp4, rfl⟩ := hn4.is
      clear hn4 hl4
      go_wp2_with fail
      go_ret
      exact A4.out.done 1 N4.out.1 (by have := N4.out.2; omega) (by omega)

set_option maxHeartbeats 4000000 in
set_option maxRecDepth 100000 in
/-- Something small of type 3. -/
theorem leaf3 {d : Dr} {ve v : Value} {W : World} {s : Cn} {ks : List Kn} (ty : Int) (ht : ty = 3) (h : Gen d ve W s) (hf : Fit s 4) (hk : KnowsD d W v ks) (hl : ks.length ≤ 999) :
    Calls Try.prog 54 #[.pointer (some ⟨d.G, 0, none⟩), .int .i64 ty, v] W (NodesPost d ve W s 4) := by
  have HF := hid hf
  have A0 := hid (At.start h)
  have HKn := hid hk
  have HKl := hid hl
  have HK := hid (A0.out.nodes0 (gknown_calls ty h (by unfold Fit at hf; omega) hk (by omega)))
  obtain ⟨ad, cp, rfl⟩ := hk.is
  clear hk hl h hf
  subst ht
  go_enter Try.func54, Try.ntmps54
  go_wp2_with fail
  refine HK.out.mono ?_
  rintro e X1 ⟨v1, n1, s1, t1, rfl, hn1, hl1, ha1, hg1⟩
  have A1 := hid ha1
  have N1 := hid (And.intro hn1 hl1)
  have G1 := hid hg1
  obtain ⟨ad1, cp1, rfl⟩ := hn1.is
  obtain ⟨l1, hl1e⟩ : ∃ l, n1.length = l := ⟨_, rfl⟩
  have HL1 := hid hl1e
  rw [hl1e] at N1 ⊢
  clear hn1 hl1 ha1 hg1 HK hl1e A0
  by_cases hz : l1 = 0
  · subst hz
    go_wp2_with fail
    refine (A1.out.node 3 0).mono ?_
    rintro e X2 ⟨v2, n2, rfl, hn2, hl2, ha, hg⟩
    have A2 := hid ha
    have G2 := hid hg
    clear ha hg
    have N2 := hid (And.intro hn2 hl2)
    obtain ⟨ad2, cp2, rfl⟩ := hn2.is
    clear hn2 hl2
    go_wp2_with fail
    go_ret
    exact A2.out.done 1 N2.out.1 (by have := N2.out.2; omega) (by omega)
  · have hz' : (0 : Int) < (l1 : Int) := by omega
    have g0 := A1.out.1.c0
    go_wp2_with fail
    refine (A1.out.pick HF.out (by omega) 3 (by decide)).mono ?_
    rintro e X2 ⟨m2, s2, rfl, hm2, hM2, ha, hg⟩
    have A2 := hid ha
    have G2 := hid hg
    clear ha hg
    clear g0
    by_cases hm : 0 < m2
    · go_wp2_with fail
      go_ret
      exact A2.out.done 0 (N1.out.1.grew G2.out) (by have := N1.out.2; have := HL1.out; omega) (by omega)
    · have hm0 : m2 = 0 := by omega
      subst hm0
      go_wp2_with fail
      refine (A2.out.node 3 0).mono ?_
      rintro e X3 ⟨v3, n3, rfl, hn3, hl3, ha, hg⟩
      have A3 := hid ha
      have G3 := hid hg
      clear ha hg
      have N3 := hid (And.intro hn3 hl3)
      obtain ⟨ad3, cp3, rfl⟩ := hn3.is
      clear hn3 hl3
      go_wp2_with fail
      go_ret
      exact A3.out.done 1 N3.out.1 (by have := N3.out.2; omega) (by omega)

set_option maxHeartbeats 4000000 in
set_option maxRecDepth 100000 in
/-- Something small of type 4. -/
theorem leaf4 {d : Dr} {ve v : Value} {W : World} {s : Cn} {ks : List Kn} (ty : Int) (ht : ty = 4) (h : Gen d ve W s) (hf : Fit s 4) (hk : KnowsD d W v ks) (hl : ks.length ≤ 999) :
    Calls Try.prog 54 #[.pointer (some ⟨d.G, 0, none⟩), .int .i64 ty, v] W (NodesPost d ve W s 4) := by
  have HF := hid hf
  have A0 := hid (At.start h)
  have HKn := hid hk
  have HKl := hid hl
  have HK := hid (A0.out.nodes0 (gknown_calls ty h (by unfold Fit at hf; omega) hk (by omega)))
  obtain ⟨ad, cp, rfl⟩ := hk.is
  clear hk hl h hf
  subst ht
  go_enter Try.func54, Try.ntmps54
  go_wp2_with fail
  refine HK.out.mono ?_
  rintro e X1 ⟨v1, n1, s1, t1, rfl, hn1, hl1, ha1, hg1⟩
  have A1 := hid ha1
  have N1 := hid (And.intro hn1 hl1)
  have G1 := hid hg1
  obtain ⟨ad1, cp1, rfl⟩ := hn1.is
  obtain ⟨l1, hl1e⟩ : ∃ l, n1.length = l := ⟨_, rfl⟩
  have HL1 := hid hl1e
  rw [hl1e] at N1 ⊢
  clear hn1 hl1 ha1 hg1 HK hl1e A0
  by_cases hz : l1 = 0
  · subst hz
    go_wp2_with fail
    refine (A1.out.node 4 0).mono ?_
    rintro e X2 ⟨v2, n2, rfl, hn2, hl2, ha, hg⟩
    have A2 := hid ha
    have G2 := hid hg
    clear ha hg
    have N2 := hid (And.intro hn2 hl2)
    obtain ⟨ad2, cp2, rfl⟩ := hn2.is
    clear hn2 hl2
    go_wp2_with fail
    go_ret
    exact A2.out.done 1 N2.out.1 (by have := N2.out.2; omega) (by omega)
  · have hz' : (0 : Int) < (l1 : Int) := by omega
    have g0 := A1.out.1.c0
    go_wp2_with fail
    refine (A1.out.pick HF.out (by omega) 3 (by decide)).mono ?_
    rintro e X2 ⟨m2, s2, rfl, hm2, hM2, ha, hg⟩
    have A2 := hid ha
    have G2 := hid hg
    clear ha hg
    clear g0
    by_cases hm : 0 < m2
    · go_wp2_with fail
      go_ret
      exact A2.out.done 0 (N1.out.1.grew G2.out) (by have := N1.out.2; have := HL1.out; omega) (by omega)
    · have hm0 : m2 = 0 := by omega
      subst hm0
      go_wp2_with fail
      refine (A2.out.node 4 0).mono ?_
      rintro e X3 ⟨v3, n3, rfl, hn3, hl3, ha, hg⟩
      have A3 := hid ha
      have G3 := hid hg
      clear ha hg
      have N3 := hid (And.intro hn3 hl3)
      obtain ⟨ad3, cp3, rfl⟩ := hn3.is
      clear hn3 hl3
      go_wp2_with fail
      go_ret
      exact A3.out.done 1 N3.out.1 (by have := N3.out.2; omega) (by omega)

set_option maxHeartbeats 4000000 in
set_option maxRecDepth 100000 in
/-- A function, small. -/
theorem gleaf5 {d : Dr} {ve v : Value} {W : World} {s : Cn} {ks : List Kn} (ty : Int) (h1 : ty ≠ 1) (h2 : ty ≠ 2) (h3 : ty ≠ 3) (h4 : ty ≠ 4) (h : Gen d ve W s) (hf : Fit s 10) (hk : KnowsD d W v ks) (hl : ks.length ≤ 998) :
    Calls Try.prog 54 #[.pointer (some ⟨d.G, 0, none⟩), .int .i64 ty, v] W (NodesPost d ve W s 10) := by
  have HF := hid hf
  have A0 := hid (At.start h)
  have HKn := hid hk
  have HKl := hid hl
  have HK := hid (A0.out.nodes0 (gknown_calls ty h (by unfold Fit at hf; omega) hk (by omega)))
  obtain ⟨ad, cp, rfl⟩ := hk.is
  clear hk hl h hf
  have e1 : (ty == 1) = false := by simp [h1]
  have e2 : (ty == 2) = false := by simp [h2]
  have e3 : (ty == 3) = false := by simp [h3]
  have e4 : (ty == 4) = false := by simp [h4]
  clear h1 h2 h3 h4
  go_enter Try.func54, Try.ntmps54
  go_wp2_with fail
  refine HK.out.mono ?_
  rintro e X1 ⟨v1, n1, s1, t1, rfl, hn1, hl1, ha1, hg1⟩
  have A1 := hid ha1
  have N1 := hid (And.intro hn1 hl1)
  have G1 := hid hg1
  obtain ⟨ad1, cp1, rfl⟩ := hn1.is
  obtain ⟨l1, hl1e⟩ : ∃ l, n1.length = l := ⟨_, rfl⟩
  have HL1 := hid hl1e
  rw [hl1e] at N1 ⊢
  clear hn1 hl1 ha1 hg1 HK hl1e A0
  by_cases hz : l1 = 0
  · subst hz
    go_wp2_with fail
    refine (A1.out.name HF.out (by omega)).mono ?_
    rintro e X2 ⟨x2, s2, rfl, hb2, ha, hg⟩
    have A2 := hid ha
    have G2 := hid hg
    clear ha hg
    have B2 := hid hb2
    clear hb2
    go_wp2_with fail
    refine (A2.out.add x2 1 0 (HKn.out.grew (G1.out.trans G2.out)) B2.out (by have := HKl.out; omega)).mono ?_
    rintro e X3 ⟨u3, ks3, rfl, hk3, hkl3, ha, hg⟩
    have A3 := hid ha
    have G3 := hid hg
    clear ha hg
    have K3 := hid (And.intro hk3 hkl3)
    clear hk3 hkl3
    go_wp2_with fail
    refine (A3.out.nodes (leaf1 1 rfl A3.out.1 (A3.out.fit HF.out 4 (by omega)) K3.out.1 (by have := K3.out.2; have := HKl.out; omega))).mono ?_
    rintro e X4 ⟨v4, n4, s4, t4, rfl, hn4, hl4, ha, hg⟩
    have A4 := hid ha
    have G4 := hid hg
    clear ha hg
    have N4 := hid (And.intro hn4 hl4)
    obtain ⟨ad4, cp4, rfl⟩ := hn4.is
    clear hn4 hl4
    go_wp2_with fail
    refine (A4.out.put1 6 0 0 x2 ByteArray.empty ByteArray.empty N4.out.1 ⟨B2.out, brief_none, brief_none⟩ (by have := A4.out.bound HF.out (by omega) (by decide); have := N4.out.2; omega)).mono ?_
    rintro e X5 ⟨v5, n5, rfl, hn5, hl5, ha, hg⟩
    have A5 := hid ha
    have G5 := hid hg
    clear ha hg
    have N5 := hid (And.intro hn5 hl5)
    obtain ⟨ad5, cp5, rfl⟩ := hn5.is
    clear hn5 hl5
    go_wp2_with fail
    go_ret
    exact A5.out.done 1 N5.out.1 (by have := N5.out.2; have := N4.out.2; omega) (by omega)
  · have hz' : (0 : Int) < (l1 : Int) := by omega
    have g0 := A1.out.1.c0
    go_wp2_with fail
    refine (A1.out.pick HF.out (by omega) 3 (by decide)).mono ?_
    rintro e X2 ⟨m2, s2, rfl, hm2, hM2, ha, hg⟩
    have A2 := hid ha
    have G2 := hid hg
    clear ha hg
    clear g0
    by_cases hm : 0 < m2
    · go_wp2_with fail
      go_ret
      exact A2.out.done 0 (N1.out.1.grew G2.out) (by have := N1.out.2; have := HL1.out; omega) (by omega)
    · have hm0 : m2 = 0 := by omega
      subst hm0
      go_wp2_with fail
      refine (A2.out.name HF.out (by omega)).mono ?_
      rintro e X3 ⟨x3, s3, rfl, hb3, ha, hg⟩
      have A3 := hid ha
      have G3 := hid hg
      clear ha hg
      have B3 := hid hb3
      clear hb3
      go_wp2_with fail
      refine (A3.out.add x3 1 0 (HKn.out.grew (G1.out.trans (G2.out.trans G3.out))) B3.out (by have := HKl.out; omega)).mono ?_
      rintro e X4 ⟨u4, ks4, rfl, hk4, hkl4, ha, hg⟩
      have A4 := hid ha
      have G4 := hid hg
      clear ha hg
      have K4 := hid (And.intro hk4 hkl4)
      clear hk4 hkl4
      go_wp2_with fail
      refine (A4.out.nodes (leaf1 1 rfl A4.out.1 (A4.out.fit HF.out 4 (by omega)) K4.out.1 (by have := K4.out.2; have := HKl.out; omega))).mono ?_
      rintro e X5 ⟨v5, n5, s5, t5, rfl, hn5, hl5, ha, hg⟩
      have A5 := hid ha
      have G5 := hid hg
      clear ha hg
      have N5 := hid (And.intro hn5 hl5)
      obtain ⟨ad5, cp5, rfl⟩ := hn5.is
      clear hn5 hl5
      go_wp2_with fail
      refine (A5.out.put1 6 0 0 x3 ByteArray.empty ByteArray.empty N5.out.1 ⟨B3.out, brief_none, brief_none⟩ (by have := A5.out.bound HF.out (by omega) (by decide); have := N5.out.2; omega)).mono ?_
      rintro e X6 ⟨v6, n6, rfl, hn6, hl6, ha, hg⟩
      have A6 := hid ha
      have G6 := hid hg
      clear ha hg
      have N6 := hid (And.intro hn6 hl6)
      obtain ⟨ad6, cp6, rfl⟩ := hn6.is
      clear hn6 hl6
      go_wp2_with fail
      go_ret
      exact A6.out.done 1 N6.out.1 (by have := N6.out.2; have := N5.out.2; omega) (by omega)

theorem Fit.mono {s : Cn} {c c' : Nat} (h : Fit s c) (hc : c' ≤ c) : Fit s c' := by
  unfold Fit at h ⊢
  omega

theorem NodesPost.mono {d : Dr} {ve : Value} {W W' : World} {s : Cn} {c c' : Nat} {e : Ending} (h : NodesPost d ve W s c e W') (hc : c ≤ c') : NodesPost d ve W s c' e W' := by
  obtain ⟨v, ns, s', t, h1, h2, h3, h4, h5, h6⟩ := h
  exact ⟨v, ns, s', t, h1, h2, h3, h4, h5, h6.mono hc⟩

/-- Something small is drawn. -/
theorem leaf_calls {d : Dr} {ve v : Value} {W : World} {s : Cn} {ks : List Kn} (ty : Int) (h : Gen d ve W s) (hf : Fit s 10) (hk : KnowsD d W v ks) (hl : ks.length ≤ 998) :
    Calls Try.prog 54 #[.pointer (some ⟨d.G, 0, none⟩), .int .i64 ty, v] W (NodesPost d ve W s 10) := by
  by_cases h1 : ty = 1
  · exact (leaf1 ty h1 h (hf.mono (by omega)) hk (by omega)).mono fun e W' h => h.mono (by omega)
  by_cases h2 : ty = 2
  · exact (leaf2 ty h2 h (hf.mono (by omega)) hk (by omega)).mono fun e W' h => h.mono (by omega)
  by_cases h3 : ty = 3
  · exact (leaf3 ty h3 h (hf.mono (by omega)) hk (by omega)).mono fun e W' h => h.mono (by omega)
  by_cases h4 : ty = 4
  · exact (leaf4 ty h4 h (hf.mono (by omega)) hk (by omega)).mono fun e W' h => h.mono (by omega)
  exact gleaf5 ty h1 h2 h3 h4 h hf hk hl
end Go.Proofs.Ytnbmhopoiijhoaa

/- What draws nodes stands in: what is known, what may be performed; the contract of the whole drawer. -/
namespace Go.Proofs.Ytnbmhopoiijhoaa
open Go.RowKit Go.Deep

def EffsD (d : Dr) (W : World) (v : Value) (es : List Ef) : Prop := Lies d W v es.length 3 (fun i => (es.getD (i / 3) default).cell (i % 3)) ∧ ∀ e ∈ es, Brief e.name

theorem EffsD.grew {d : Dr} {W W' : World} {v : Value} {es : List Ef} (h : EffsD d W v es) (g : Grew d W W') : EffsD d W' v es := ⟨h.1.grew g, h.2⟩
theorem EffsD.is {d : Dr} {W : World} {v : Value} {es : List Ef} (h : EffsD d W v es) : ∃ ad cp, v = .slice ad es.length cp := h.1.is

theorem EffsD.at {d : Dr} {W : World} {ad : Option Addr} {n cp : Nat} {es : List Ef} (h : EffsD d W (.slice ad n cp) es) {i : Nat} (hi : i < n) : ∃ b off nm ar re, ad = some ⟨b, off, none⟩ ∧ es.getD i default = ⟨nm, ar, re⟩ ∧ Brief nm ∧ d.free W b ∧ W.cell? ⟨b, off + i * 3, none⟩ = some (.string nm) ∧ W.cell? ⟨b, off + i * 3 + 1, none⟩ = some (.int .i64 ar) ∧ W.cell? ⟨b, off + i * 3 + 2, none⟩ = some (.int .i64 re) := by
  obtain ⟨h, hB⟩ := h
  obtain ⟨hl, -, b, off, rfl, hq, hc⟩ := h.at (by omega)
  obtain ⟨k, hk⟩ : ∃ k, es.getD i default = k := ⟨_, rfl⟩
  have hb := hB _ (getD_mem (l := es) (k := i) (by omega))
  have e : ∀ c, c < 3 → W.cell? ⟨b, off + (i * 3 + c), none⟩ = some (k.cell c) := fun c hc' => by
    rw [hc (i * 3 + c) (by omega), ← hk]
    exact congrArg some (cell_div es Ef.cell 3 i c hc')
  rw [hk] at hb
  obtain ⟨nm, ar, re⟩ := k
  exact ⟨b, off, nm, ar, re, rfl, hk, hb, hq, e 0 (by omega), e 1 (by omega), e 2 (by omega)⟩

/-- What is known and what may be performed, at a depth. -/
structure Env (d : Dr) (ve : Value) (es : List Ef) (X : World) (v : Value) (ks : List Kn) (vm : Value) (ms : List Bool) (D : Nat) : Prop where
  know : KnowsD d X v ks
  may : BoolsD d X vm ms
  len : ms.length = es.length
  effs : EffsD d X ve es
  room : ks.length + 4 * D ≤ 400
  few : es.length ≤ 4

theorem Env.grew {d : Dr} {ve : Value} {es : List Ef} {X X' : World} {v : Value} {ks : List Kn} {vm : Value} {ms : List Bool} {D : Nat} (h : Env d ve es X v ks vm ms D) (g : Grew d X X') : Env d ve es X' v ks vm ms D :=
  ⟨h.know.grew g, h.may.grew g, h.len, h.effs.grew g, h.room, h.few⟩

theorem Env.down {d : Dr} {ve : Value} {es : List Ef} {X : World} {v : Value} {ks : List Kn} {vm : Value} {ms : List Bool} {D : Nat} (h : Env d ve es X v ks vm ms (D + 1)) : Env d ve es X v ks vm ms D :=
  ⟨h.know, h.may, h.len, h.effs, by have := h.room; omega, h.few⟩

theorem Env.with {d : Dr} {ve : Value} {es : List Ef} {X : World} {v u : Value} {ks ks' : List Kn} {vm : Value} {ms : List Bool} {D : Nat} (h : Env d ve es X v ks vm ms (D + 1)) (hk : KnowsD d X u ks') (hl : ks'.length ≤ ks.length + 4) : Env d ve es X u ks' vm ms D :=
  ⟨hk, h.may, h.len, h.effs, by have := h.room; omega, h.few⟩

theorem Env.let {d : Dr} {ve : Value} {es : List Ef} {X : World} {v um : Value} {ks : List Kn} {vm : Value} {ms ms' : List Bool} {D : Nat} (h : Env d ve es X v ks vm ms (D + 1)) (hm : BoolsD d X um ms') (hl : ms'.length = es.length) : Env d ve es X v ks um ms' D :=
  ⟨h.know, hm, hl, h.effs, by have := h.room; omega, h.few⟩

/-- The drawer keeps its contract at depths up to D. -/
def OfC (d : Dr) (ve : Value) (es : List Ef) (D : Nat) : Prop :=
  ∀ (deep ty : Int) (v vm : Value) (ks : List Kn) (ms : List Bool) (X : World) (s : Cn), deep ≤ D → -100 ≤ deep → Fit s 10 → Gen d ve X s → Env d ve es X v ks vm ms D →
    Calls Try.prog 38 #[.pointer (some ⟨d.G, 0, none⟩), .int .i64 ty, v, vm, .int .i64 deep] X (NodesPost d ve X s 10)

set_option maxRecDepth 100000 in
theorem base_calls (b : Int) (W : World) : Calls Try.prog 75 #[.int .i64 b] W fun e W' => e = .returned (.int .i64 b) ∧ W = W' := by
  go_enter Try.func75, Try.ntmps75
  go_wp2_with fail
  go_ret
  exact ⟨rfl, rfl⟩

theorem nd_lit_at {d : Dr} (W : World) (n : Nd) (q : Nat) (hq : W.heap.size = q) (h1 : d.B < W.heap.size) (h2 : d.G < W.heap.size) (hb : Brief n.a ∧ Brief n.b ∧ Brief n.c) : NodesD d (W.alloc (.cells #[.int .i64 n.kind, .int .i64 n.num, .string n.a, .string n.b, .string n.c, .int .i64 n.kids] 92)) (.slice (some ⟨q, 0, none⟩) 1 1) [n] := by
  subst hq
  exact nd_lit W n h1 h2 hb

theorem two_get (a b : Int) (m : Int) (h0 : 0 ≤ m) (h1 : m < 2) : ∃ k : Int, (#[.int .i64 a, .int .i64 b] : Array Value)[m.toNat]? = some (.int .i64 k) := by
  have h : m = 0 ∨ m = 1 := by omega
  rcases h with rfl | rfl <;> exact ⟨_, rfl⟩

theorem KidsV.grew {d : Dr} {X X' : World} {v : Value} {ls : List (Value × List Nd)} (h : KidsV d X v ls) (g : Grew d X X') : KidsV d X' v ls := ⟨h.1.grew g, fun x hx => (h.2 x hx).grew g⟩

/-- Trees put together that lie in a list. -/
theorem At.put_kids {d : Dr} {ve : Value} {W X : World} {s s1 : Cn} {t c : Nat} (h : At d ve W s X s1 t c) {ls : List (Value × List Nd)} {vk : Value} (k nm kd : Int) (a b e' : ByteArray) (hk : KidsV d X vk ls) (hb : Brief a ∧ Brief b ∧ Brief e') (hl : ls.length ≤ 1000) (hfl : (flatL ls).length ≤ 800000) :
    Calls Try.prog 55 #[.agg #[.int .i64 k, .int .i64 nm, .string a, .string b, .string e', .int .i64 kd], vk] X fun e X' => ∃ v ns, e = .returned v ∧ NodesD d X' v ns ∧ ns.length = 1 + (flatL ls).length ∧ At d ve W s X' s1 t c ∧ Grew d X X' := by
  refine (gput_calls (d := d) k nm kd a b e' X _ ls h.1.ltB h.1.ltG hk hb hl hfl).mono ?_
  rintro e X' ⟨v, rfl, hn, hbl⟩
  exact ⟨v, _, rfl, hn, by simp; omega, h.below hbl, Grew.of_below hbl⟩
end Go.Proofs.Ytnbmhopoiijhoaa

/- A call of a continuation is drawn; an operation is drawn. -/
namespace Go.Proofs.Ytnbmhopoiijhoaa
open Go.RowKit Go.Deep

theorem none_post {d : Dr} {ve : Value} {W X : World} {s s1 : Cn} {t c C : Nat} (h : At d ve W s X s1 t c) (hc : c ≤ C) : NodesPost0 d ve W s C (.returned (.slice none 0 0)) X :=
  h.done0 0 (nodes_none _ _) (by simp) (by omega)

set_option maxHeartbeats 8000000 in
set_option maxRecDepth 100000 in
/-- A call of a continuation, or nothing. -/
theorem cont_calls {d : Dr} {ve v vm : Value} {es : List Ef} {W : World} {s : Cn} {ks : List Kn} {ms : List Bool} {D : Nat} (ty : Int) (deep : Int) (hO : OfC d ve es D) (h1 : deep ≤ D) (h2 : -90 ≤ deep) (h3 : D ≤ 100) (h : Gen d ve W s) (hf : Fit s 30) (hE : Env d ve es W v ks vm ms (D + 1)) :
    Calls Try.prog 59 #[.pointer (some ⟨d.G, 0, none⟩), .int .i64 ty, v, vm, .int .i64 deep] W (NodesPost0 d ve W s 30) := by
  have HF := hid hf
  have HO := hid hO
  have A0 := hid (At.start h)
  have HE := hid hE
  have HD := hid (And.intro h1 (And.intro h2 h3))
  have hdu : deep ≤ 1000 := by omega
  obtain ⟨ad, cp, rfl⟩ := hE.know.is
  obtain ⟨adm, cpm, rfl⟩ := hE.may.is
  clear hO h1 h3 h hf hE
  obtain ⟨L, hL⟩ : ∃ L, ks.length = L := ⟨_, rfl⟩
  have HL : Hid (ks.length = L ∧ L ≤ 1000) := ⟨hL, by have := HE.out.room; omega⟩
  rw [hL] at HE ⊢
  clear hL
  have hL0 : Hid (wrap64 ((L : Int) - 1) = (L : Int) - 1) := by show _ = _; have := HL.out.2; unfold wrap64; omega
  go_enter Try.func59, Try.ntmps59
  go_wp2_with fail
  try rw [hL0.out]
  go_loopw [11] (fun i wr => ∃ i' : Nat, i = .int .i64 ((i' : Int) - 1) ∧ i' ≤ L ∧ wr = W) (fun i _ => (intOf i + 1).toNat)
  case atStart => exact ⟨L, rfl, Nat.le_refl _, rfl⟩
  case round =>
    obtain ⟨i', rfl, hle, rfl⟩ := hrel
    by_cases hz : i' = 0
    · subst hz
      go_wp2_with fail
      go_ret
      exact none_post A0.out (by omega)
    · obtain ⟨j, rfl⟩ : ∃ j, i' = j + 1 := ⟨i' - 1, by omega⟩
      have ej : ((j + 1 : Nat) : Int) - 1 = (j : Int) := by omega
      rw [ej]
      obtain ⟨b, off, xn, xt, xr, rfl, -, hbr, hq, c0, c1, c2⟩ := HE.out.know.at (i := j) (by omega)
      have HQ := hid (And.intro hq hbr)
      have hj0 : (0 : Int) ≤ (j : Int) := by omega
      have hjl : (j : Int) < (L : Int) := by omega
      have HW : Hid (wrap64 ((j : Int) - 1) = (j : Int) - 1) := by show _ = _; have := HL.out.2; unfold wrap64; omega
      have hstep : (intOf (.int .i64 ((j : Int) - 1)) + 1).toNat < (intOf (.int .i64 (j : Int)) + 1).toNat := by simp [intOf]
      clear hq hbr hz
      by_cases hty : (xt == wrap64 (10 + ty)) = true
      · go_upto_region 5 with fail
        refine pick_begin (S := fun w' => w'.cell? ⟨b, off + j * 3, none⟩ = some (.string xn) ∧ w'.cell? ⟨b, off + j * 3 + 2, none⟩ = some (.int .i64 xr)) (by kernel_rfl) rfl rfl ?_
        have A1 := hid A0.out.drew
        have G1 := hid (Grew.refl d wr).drew
        generalize wr.drew = X1 at *
        refine pick_op (i := 0) (v := .agg #[.int .i64 7, .int .i64 0, .string ⟨#[]⟩, .string ⟨#[]⟩, .string ⟨#[]⟩, .int .i64 0]) (by kernel_rfl) rfl (by kernel_rfl) (by kernel_rfl) rfl rfl (fun w' hw => by simp [go_sem]) ⟨((G1.out.cell (p := ⟨b, off + j * 3, none⟩) HQ.out.1).trans c0), ((G1.out.cell (p := ⟨b, off + j * 3 + 2, none⟩) HQ.out.1).trans c2)⟩ (by simp [go_sem]; exact rfl) ?_
        refine pick_op (i := 1) (v := .slice (some ⟨b, off, none⟩) L cp) (by kernel_rfl) rfl (by kernel_rfl) (by kernel_rfl) rfl rfl (fun w' hw => by simp [go_sem]) ⟨((G1.out.cell (p := ⟨b, off + j * 3, none⟩) HQ.out.1).trans c0), ((G1.out.cell (p := ⟨b, off + j * 3 + 2, none⟩) HQ.out.1).trans c2)⟩ (by simp [go_sem]; exact rfl) ?_
        refine pick_op (i := 2) (v := .int .i64 (j : Int)) (by kernel_rfl) rfl (by kernel_rfl) (by kernel_rfl) rfl rfl (fun w' hw => by simp [go_sem]) ⟨((G1.out.cell (p := ⟨b, off + j * 3, none⟩) HQ.out.1).trans c0), ((G1.out.cell (p := ⟨b, off + j * 3 + 2, none⟩) HQ.out.1).trans c2)⟩ (by simp [go_sem]; exact rfl) ?_
        refine pick_op (i := 3) (v := .pointer (some ⟨b, off + j * 3, none⟩)) (by kernel_rfl) rfl (by kernel_rfl) (by kernel_rfl) rfl rfl (fun w' hw => by simp [go_sem, hj0, hjl]) ⟨((G1.out.cell (p := ⟨b, off + j * 3, none⟩) HQ.out.1).trans c0), ((G1.out.cell (p := ⟨b, off + j * 3 + 2, none⟩) HQ.out.1).trans c2)⟩ (by simp [go_sem]; exact rfl) ?_
        refine pick_op (i := 4) (v := .pointer (some ⟨b, off + j * 3, none⟩)) (by kernel_rfl) rfl (by kernel_rfl) (by kernel_rfl) rfl rfl (fun w' hw => by simp [go_sem]) ⟨((G1.out.cell (p := ⟨b, off + j * 3, none⟩) HQ.out.1).trans c0), ((G1.out.cell (p := ⟨b, off + j * 3 + 2, none⟩) HQ.out.1).trans c2)⟩ (by simp [go_sem]; exact rfl) ?_
        refine pick_op (i := 5) (v := .string xn) (by kernel_rfl) rfl (by kernel_rfl) (by kernel_rfl) rfl rfl (fun w' hw => by simp [go_sem, hw.1]) ⟨((G1.out.cell (p := ⟨b, off + j * 3, none⟩) HQ.out.1).trans c0), ((G1.out.cell (p := ⟨b, off + j * 3 + 2, none⟩) HQ.out.1).trans c2)⟩ (by simp [go_sem]; exact rfl) ?_
        refine pick_op (i := 6) (v := .agg #[.int .i64 5, .int .i64 0, .string xn, .string ⟨#[]⟩, .string ⟨#[]⟩, .int .i64 0]) (by kernel_rfl) rfl (by kernel_rfl) (by kernel_rfl) rfl rfl (fun w' hw => by simp [go_sem]) ⟨((G1.out.cell (p := ⟨b, off + j * 3, none⟩) HQ.out.1).trans c0), ((G1.out.cell (p := ⟨b, off + j * 3 + 2, none⟩) HQ.out.1).trans c2)⟩ (by simp [go_sem]; exact rfl) ?_
        refine pick_op (i := 8) (v := .pointer (some ⟨d.G, 0, none⟩)) (by kernel_rfl) rfl (by kernel_rfl) (by kernel_rfl) rfl rfl (fun w' hw => by simp [go_sem]) ⟨((G1.out.cell (p := ⟨b, off + j * 3, none⟩) HQ.out.1).trans c0), ((G1.out.cell (p := ⟨b, off + j * 3 + 2, none⟩) HQ.out.1).trans c2)⟩ (by simp [go_sem]; exact rfl) ?_
        refine pick_op (i := 9) (v := .slice (some ⟨b, off, none⟩) L cp) (by kernel_rfl) rfl (by kernel_rfl) (by kernel_rfl) rfl rfl (fun w' hw => by simp [go_sem]) ⟨((G1.out.cell (p := ⟨b, off + j * 3, none⟩) HQ.out.1).trans c0), ((G1.out.cell (p := ⟨b, off + j * 3 + 2, none⟩) HQ.out.1).trans c2)⟩ (by simp [go_sem]; exact rfl) ?_
        refine pick_op (i := 10) (v := .int .i64 (j : Int)) (by kernel_rfl) rfl (by kernel_rfl) (by kernel_rfl) rfl rfl (fun w' hw => by simp [go_sem]) ⟨((G1.out.cell (p := ⟨b, off + j * 3, none⟩) HQ.out.1).trans c0), ((G1.out.cell (p := ⟨b, off + j * 3 + 2, none⟩) HQ.out.1).trans c2)⟩ (by simp [go_sem]; exact rfl) ?_
        refine pick_op (i := 11) (v := .pointer (some ⟨b, off + j * 3, none⟩)) (by kernel_rfl) rfl (by kernel_rfl) (by kernel_rfl) rfl rfl (fun w' hw => by simp [go_sem, hj0, hjl]) ⟨((G1.out.cell (p := ⟨b, off + j * 3, none⟩) HQ.out.1).trans c0), ((G1.out.cell (p := ⟨b, off + j * 3 + 2, none⟩) HQ.out.1).trans c2)⟩ (by simp [go_sem]; exact rfl) ?_
        refine pick_op (i := 12) (v := .pointer (some ⟨b, off + j * 3 + 2, none⟩)) (by kernel_rfl) rfl (by kernel_rfl) (by kernel_rfl) rfl rfl (fun w' hw => by simp [go_sem]) ⟨((G1.out.cell (p := ⟨b, off + j * 3, none⟩) HQ.out.1).trans c0), ((G1.out.cell (p := ⟨b, off + j * 3 + 2, none⟩) HQ.out.1).trans c2)⟩ (by simp [go_sem]; exact rfl) ?_
        refine pick_op (i := 13) (v := .int .i64 xr) (by kernel_rfl) rfl (by kernel_rfl) (by kernel_rfl) rfl rfl (fun w' hw => by simp [go_sem, hw.2]) ⟨((G1.out.cell (p := ⟨b, off + j * 3, none⟩) HQ.out.1).trans c0), ((G1.out.cell (p := ⟨b, off + j * 3 + 2, none⟩) HQ.out.1).trans c2)⟩ (by simp [go_sem]; exact rfl) ?_
        refine pick_op (i := 14) (v := .slice (some ⟨b, off, none⟩) L cp) (by kernel_rfl) rfl (by kernel_rfl) (by kernel_rfl) rfl rfl (fun w' hw => by simp [go_sem]) ⟨((G1.out.cell (p := ⟨b, off + j * 3, none⟩) HQ.out.1).trans c0), ((G1.out.cell (p := ⟨b, off + j * 3 + 2, none⟩) HQ.out.1).trans c2)⟩ (by simp [go_sem]; exact rfl) ?_
        refine pick_op (i := 15) (v := .slice adm ms.length cpm) (by kernel_rfl) rfl (by kernel_rfl) (by kernel_rfl) rfl rfl (fun w' hw => by simp [go_sem]) ⟨((G1.out.cell (p := ⟨b, off + j * 3, none⟩) HQ.out.1).trans c0), ((G1.out.cell (p := ⟨b, off + j * 3 + 2, none⟩) HQ.out.1).trans c2)⟩ (by simp [go_sem]; exact rfl) ?_
        refine pick_op (i := 16) (v := .int .i64 deep) (by kernel_rfl) rfl (by kernel_rfl) (by kernel_rfl) rfl rfl (fun w' hw => by simp [go_sem]) ⟨((G1.out.cell (p := ⟨b, off + j * 3, none⟩) HQ.out.1).trans c0), ((G1.out.cell (p := ⟨b, off + j * 3 + 2, none⟩) HQ.out.1).trans c2)⟩ (by simp [go_sem]; exact rfl) ?_
        refine pick_either (i := 7) (j := 17) (by kernel_rfl) ?_ ?_
        · have NL : Hid (NodesD d (X1.alloc (.cells #[.int .i64 5, .int .i64 0, .string xn, .string ⟨#[]⟩, .string ⟨#[]⟩, .int .i64 0] 92)) (.slice (some ⟨X1.heap.size, 0, none⟩) 1 1) [⟨5, 0, xn, ByteArray.empty, ByteArray.empty, 0⟩] ∧ [(⟨5, 0, xn, ByteArray.empty, ByteArray.empty, 0⟩ : Nd)].length = 1) := ⟨nd_lit (d := d) X1 ⟨5, 0, xn, ByteArray.empty, ByteArray.empty, 0⟩ A1.out.1.ltB A1.out.1.ltG ⟨HQ.out.2, brief_none, brief_none⟩, rfl⟩
          have A2 := hid (A1.out.alloc (.cells #[.int .i64 5, .int .i64 0, .string xn, .string ⟨#[]⟩, .string ⟨#[]⟩, .int .i64 0] 92))
          have G2 := hid ((Grew.refl d X1).alloc (.cells #[.int .i64 5, .int .i64 0, .string xn, .string ⟨#[]⟩, .string ⟨#[]⟩, .int .i64 0] 92))
          refine ⟨_, .slice (some ⟨X1.heap.size, 0, none⟩) 1 1, X1.alloc (.cells #[.int .i64 5, .int .i64 0, .string xn, .string ⟨#[]⟩, .string ⟨#[]⟩, .int .i64 0] 92), rfl, rfl, by simp [go_sem], ⟨(((G1.out.trans G2.out).cell (p := ⟨b, off + j * 3, none⟩) HQ.out.1).trans c0), (((G1.out.trans G2.out).cell (p := ⟨b, off + j * 3 + 2, none⟩) HQ.out.1).trans c2)⟩, ?_⟩
          refine pick_frame (by simp [go_sem]; exact rfl) ?_
          generalize X1.alloc (.cells #[.int .i64 5, .int .i64 0, .string xn, .string ⟨#[]⟩, .string ⟨#[]⟩, .int .i64 0] 92) = X2 at *
          refine pick_enter (i := 17) (f := 38) (args := #[.pointer (some ⟨d.G, 0, none⟩), .int .i64 xr, .slice (some ⟨b, off, none⟩) L cp, .slice adm ms.length cpm, .int .i64 deep]) rfl (by kernel_rfl) rfl rfl (by simp [go_sem]) ?_
          refine (A2.out.nodes (HO.out deep xr _ _ _ _ _ _ (by have := HD.out; omega) (by have := HD.out; omega) (A2.out.fit HF.out 10 (by omega)) A2.out.1 (HE.out.grew (G1.out.trans G2.out)).down)).mono ?_
          rintro e X3 ⟨v3, n3, s3, t3, rfl, hn3, hl3, ha, hg⟩
          have A3 := hid ha
          have G3 := hid hg
          clear ha hg
          have N3 := hid (And.intro hn3 hl3)
          obtain ⟨ad3, cp3, rfl⟩ := hn3.is
          clear hn3 hl3
          refine ⟨_, rfl, ⟨(((G1.out.trans (G2.out.trans G3.out)).cell (p := ⟨b, off + j * 3, none⟩) HQ.out.1).trans c0), (((G1.out.trans (G2.out.trans G3.out)).cell (p := ⟨b, off + j * 3 + 2, none⟩) HQ.out.1).trans c2)⟩, ?_⟩
          refine pick_frame (by simp [go_sem]; exact rfl) ?_
          have KV : Hid (KidsV d (X3.alloc (.cells #[.slice (some ⟨X1.heap.size, 0, none⟩) 1 1, .slice ad3 n3.length cp3] 53)) (.slice (some ⟨X3.heap.size, 0, none⟩) 2 2) [(.slice (some ⟨X1.heap.size, 0, none⟩) 1 1, [(⟨5, 0, xn, ByteArray.empty, ByteArray.empty, 0⟩ : Nd)]), (.slice ad3 n3.length cp3, n3)]) := (kids_lit [(.slice (some ⟨X1.heap.size, 0, none⟩) 1 1, [(⟨5, 0, xn, ByteArray.empty, ByteArray.empty, 0⟩ : Nd)]), (.slice ad3 n3.length cp3, n3)] _ rfl A3.out.1.ltB A3.out.1.ltG (fun x hx => by simp at hx; rcases hx with rfl | rfl; exact (NL.out.1.grew G3.out); exact N3.out.1))
          have A4 := hid (A3.out.alloc (.cells #[.slice (some ⟨X1.heap.size, 0, none⟩) 1 1, .slice ad3 n3.length cp3] 53))
          have G4 := hid ((Grew.refl d X3).alloc (.cells #[.slice (some ⟨X1.heap.size, 0, none⟩) 1 1, .slice ad3 n3.length cp3] 53))
          refine pick_make (i := 18) (v := .slice (some ⟨X3.heap.size, 0, none⟩) 2 2) (w1 := X3.alloc (.cells #[.slice (some ⟨X1.heap.size, 0, none⟩) 1 1, .slice ad3 n3.length cp3] 53)) rfl (by kernel_rfl) rfl rfl (by simp [go_sem]) ⟨(((G1.out.trans (G2.out.trans (G3.out.trans G4.out))).cell (p := ⟨b, off + j * 3, none⟩) HQ.out.1).trans c0), (((G1.out.trans (G2.out.trans (G3.out.trans G4.out))).cell (p := ⟨b, off + j * 3 + 2, none⟩) HQ.out.1).trans c2)⟩ (by simp [go_sem]; exact rfl) ?_
          generalize X3.alloc (.cells #[.slice (some ⟨X1.heap.size, 0, none⟩) 1 1, .slice ad3 n3.length cp3] 53) = X4 at *
          refine pick_enter (i := 19) (f := 55) (args := #[.agg #[.int .i64 7, .int .i64 0, .string ⟨#[]⟩, .string ⟨#[]⟩, .string ⟨#[]⟩, .int .i64 0], .slice (some ⟨X3.heap.size, 0, none⟩) 2 2]) rfl (by kernel_rfl) rfl rfl (by simp [go_sem]) ?_
          refine (A4.out.put_kids 7 0 0 ⟨#[]⟩ ⟨#[]⟩ ⟨#[]⟩ KV.out ⟨brief_none, brief_none, brief_none⟩ (by simp) (by have := A4.out.bound HF.out (by omega) (by decide); have := N3.out.2; simp [flatL]; omega)).mono ?_
          rintro e X5 ⟨v5, n5, rfl, hn5, hl5, ha, hg⟩
          have A5 := hid ha
          have G5 := hid hg
          clear ha hg
          have N5 := hid (And.intro hn5 hl5)
          obtain ⟨ad5, cp5, rfl⟩ := hn5.is
          clear hn5 hl5
          refine ⟨_, rfl, ⟨(((G1.out.trans (G2.out.trans (G3.out.trans (G4.out.trans G5.out)))).cell (p := ⟨b, off + j * 3, none⟩) HQ.out.1).trans c0), (((G1.out.trans (G2.out.trans (G3.out.trans (G4.out.trans G5.out)))).cell (p := ⟨b, off + j * 3 + 2, none⟩) HQ.out.1).trans c2)⟩, ?_⟩
          refine pick_frame (by simp [go_sem]; exact rfl) ?_
          refine pick_op (i := 20) (v := .slice ad5 n5.length cp5) (by kernel_rfl) rfl (by kernel_rfl) (by kernel_rfl) rfl rfl (fun w' hw => by simp [go_sem]) ⟨(((G1.out.trans (G2.out.trans (G3.out.trans (G4.out.trans G5.out)))).cell (p := ⟨b, off + j * 3, none⟩) HQ.out.1).trans c0), (((G1.out.trans (G2.out.trans (G3.out.trans (G4.out.trans G5.out)))).cell (p := ⟨b, off + j * 3 + 2, none⟩) HQ.out.1).trans c2)⟩ (by simp [go_sem]; exact rfl) ?_
          refine pick_end (by kernel_rfl) ?_
          go_wp2_with fail
          go_ret
          exact A5.out.done0 5 N5.out.1 (by have := N5.out.2; have := N3.out.2; simp [flatL] at *; omega) (by omega)
        · refine ⟨_, 38, #[.pointer (some ⟨d.G, 0, none⟩), .int .i64 xr, .slice (some ⟨b, off, none⟩) L cp, .slice adm ms.length cpm, .int .i64 deep], rfl, rfl, by simp [go_sem], ?_⟩
          refine (A1.out.nodes (HO.out deep xr _ _ _ _ _ _ (by have := HD.out; omega) (by have := HD.out; omega) (A1.out.fit HF.out 10 (by omega)) A1.out.1 (HE.out.grew G1.out).down)).mono ?_
          rintro e X2 ⟨v2, n2, s2, t2, rfl, hn2, hl2, ha, hg⟩
          have A2 := hid ha
          have G2 := hid hg
          clear ha hg
          have N2 := hid (And.intro hn2 hl2)
          obtain ⟨ad2, cp2, rfl⟩ := hn2.is
          clear hn2 hl2
          refine ⟨_, rfl, ⟨(((G1.out.trans G2.out).cell (p := ⟨b, off + j * 3, none⟩) HQ.out.1).trans c0), (((G1.out.trans G2.out).cell (p := ⟨b, off + j * 3 + 2, none⟩) HQ.out.1).trans c2)⟩, ?_⟩
          refine pick_frame (by simp [go_sem]; exact rfl) ?_
          have NL : Hid (NodesD d (X2.alloc (.cells #[.int .i64 5, .int .i64 0, .string xn, .string ⟨#[]⟩, .string ⟨#[]⟩, .int .i64 0] 92)) (.slice (some ⟨X2.heap.size, 0, none⟩) 1 1) [⟨5, 0, xn, ByteArray.empty, ByteArray.empty, 0⟩] ∧ [(⟨5, 0, xn, ByteArray.empty, ByteArray.empty, 0⟩ : Nd)].length = 1) := ⟨nd_lit (d := d) X2 ⟨5, 0, xn, ByteArray.empty, ByteArray.empty, 0⟩ A2.out.1.ltB A2.out.1.ltG ⟨HQ.out.2, brief_none, brief_none⟩, rfl⟩
          have A3 := hid (A2.out.alloc (.cells #[.int .i64 5, .int .i64 0, .string xn, .string ⟨#[]⟩, .string ⟨#[]⟩, .int .i64 0] 92))
          have G3 := hid ((Grew.refl d X2).alloc (.cells #[.int .i64 5, .int .i64 0, .string xn, .string ⟨#[]⟩, .string ⟨#[]⟩, .int .i64 0] 92))
          refine pick_make (i := 7) (v := .slice (some ⟨X2.heap.size, 0, none⟩) 1 1) (w1 := X2.alloc (.cells #[.int .i64 5, .int .i64 0, .string xn, .string ⟨#[]⟩, .string ⟨#[]⟩, .int .i64 0] 92)) rfl (by kernel_rfl) rfl rfl (by simp [go_sem]) ⟨(((G1.out.trans (G2.out.trans G3.out)).cell (p := ⟨b, off + j * 3, none⟩) HQ.out.1).trans c0), (((G1.out.trans (G2.out.trans G3.out)).cell (p := ⟨b, off + j * 3 + 2, none⟩) HQ.out.1).trans c2)⟩ (by simp [go_sem]; exact rfl) ?_
          generalize X2.alloc (.cells #[.int .i64 5, .int .i64 0, .string xn, .string ⟨#[]⟩, .string ⟨#[]⟩, .int .i64 0] 92) = X3 at *
          have KV : Hid (KidsV d (X3.alloc (.cells #[.slice (some ⟨X2.heap.size, 0, none⟩) 1 1, .slice ad2 n2.length cp2] 53)) (.slice (some ⟨X3.heap.size, 0, none⟩) 2 2) [(.slice (some ⟨X2.heap.size, 0, none⟩) 1 1, [(⟨5, 0, xn, ByteArray.empty, ByteArray.empty, 0⟩ : Nd)]), (.slice ad2 n2.length cp2, n2)]) := (kids_lit [(.slice (some ⟨X2.heap.size, 0, none⟩) 1 1, [(⟨5, 0, xn, ByteArray.empty, ByteArray.empty, 0⟩ : Nd)]), (.slice ad2 n2.length cp2, n2)] _ rfl A3.out.1.ltB A3.out.1.ltG (fun x hx => by simp at hx; rcases hx with rfl | rfl; exact NL.out.1; exact (N2.out.1.grew G3.out)))
          have A4 := hid (A3.out.alloc (.cells #[.slice (some ⟨X2.heap.size, 0, none⟩) 1 1, .slice ad2 n2.length cp2] 53))
          have G4 := hid ((Grew.refl d X3).alloc (.cells #[.slice (some ⟨X2.heap.size, 0, none⟩) 1 1, .slice ad2 n2.length cp2] 53))
          refine pick_make (i := 18) (v := .slice (some ⟨X3.heap.size, 0, none⟩) 2 2) (w1 := X3.alloc (.cells #[.slice (some ⟨X2.heap.size, 0, none⟩) 1 1, .slice ad2 n2.length cp2] 53)) rfl (by kernel_rfl) rfl rfl (by simp [go_sem]) ⟨(((G1.out.trans (G2.out.trans (G3.out.trans G4.out))).cell (p := ⟨b, off + j * 3, none⟩) HQ.out.1).trans c0), (((G1.out.trans (G2.out.trans (G3.out.trans G4.out))).cell (p := ⟨b, off + j * 3 + 2, none⟩) HQ.out.1).trans c2)⟩ (by simp [go_sem]; exact rfl) ?_
          generalize X3.alloc (.cells #[.slice (some ⟨X2.heap.size, 0, none⟩) 1 1, .slice ad2 n2.length cp2] 53) = X4 at *
          refine pick_enter (i := 19) (f := 55) (args := #[.agg #[.int .i64 7, .int .i64 0, .string ⟨#[]⟩, .string ⟨#[]⟩, .string ⟨#[]⟩, .int .i64 0], .slice (some ⟨X3.heap.size, 0, none⟩) 2 2]) rfl (by kernel_rfl) rfl rfl (by simp [go_sem]) ?_
          refine (A4.out.put_kids 7 0 0 ⟨#[]⟩ ⟨#[]⟩ ⟨#[]⟩ KV.out ⟨brief_none, brief_none, brief_none⟩ (by simp) (by have := A4.out.bound HF.out (by omega) (by decide); have := N2.out.2; simp [flatL]; omega)).mono ?_
          rintro e X5 ⟨v5, n5, rfl, hn5, hl5, ha, hg⟩
          have A5 := hid ha
          have G5 := hid hg
          clear ha hg
          have N5 := hid (And.intro hn5 hl5)
          obtain ⟨ad5, cp5, rfl⟩ := hn5.is
          clear hn5 hl5
          refine ⟨_, rfl, ⟨(((G1.out.trans (G2.out.trans (G3.out.trans (G4.out.trans G5.out)))).cell (p := ⟨b, off + j * 3, none⟩) HQ.out.1).trans c0), (((G1.out.trans (G2.out.trans (G3.out.trans (G4.out.trans G5.out)))).cell (p := ⟨b, off + j * 3 + 2, none⟩) HQ.out.1).trans c2)⟩, ?_⟩
          refine pick_frame (by simp [go_sem]; exact rfl) ?_
          refine pick_op (i := 20) (v := .slice ad5 n5.length cp5) (by kernel_rfl) rfl (by kernel_rfl) (by kernel_rfl) rfl rfl (fun w' hw => by simp [go_sem]) ⟨(((G1.out.trans (G2.out.trans (G3.out.trans (G4.out.trans G5.out)))).cell (p := ⟨b, off + j * 3, none⟩) HQ.out.1).trans c0), (((G1.out.trans (G2.out.trans (G3.out.trans (G4.out.trans G5.out)))).cell (p := ⟨b, off + j * 3 + 2, none⟩) HQ.out.1).trans c2)⟩ (by simp [go_sem]; exact rfl) ?_
          refine pick_end (by kernel_rfl) ?_
          go_wp2_with fail
          go_ret
          exact A5.out.done0 5 N5.out.1 (by have := N5.out.2; have := N2.out.2; simp [flatL] at *; omega) (by omega)
      · have hty' : (xt == wrap64 (10 + ty)) = false := by simpa using hty
        clear hty
        go_wp2_with fail
        rw [HW.out]
        exact ⟨⟨j, rfl, by omega, by first | rfl | trivial⟩, hstep⟩

end Go.Proofs.Ytnbmhopoiijhoaa

/- An operation is drawn. -/
namespace Go.Proofs.Ytnbmhopoiijhoaa
open Go.RowKit Go.Deep

set_option maxHeartbeats 8000000 in
set_option maxRecDepth 100000 in
/-- An operation that gives a type, or nothing. -/
theorem perform_calls {d : Dr} {ve v vm : Value} {es : List Ef} {W : World} {s : Cn} {ks : List Kn} {ms : List Bool} {D : Nat} (ty : Int) (deep : Int) (hO : OfC d ve es D) (h1 : deep ≤ D) (h2 : -90 ≤ deep) (h3 : D ≤ 100) (h : Gen d ve W s) (hf : Fit s 30) (hE : Env d ve es W v ks vm ms (D + 1)) :
    Calls Try.prog 60 #[.pointer (some ⟨d.G, 0, none⟩), .int .i64 ty, v, vm, .int .i64 deep] W (NodesPost0 d ve W s 30) := by
  have HF := hid hf
  have HO := hid hO
  have A0 := hid (At.start h)
  have HE := hid hE
  have HD := hid (And.intro h1 (And.intro h2 h3))
  have hdu : deep ≤ 1000 := by omega
  obtain ⟨ad, cp, rfl⟩ := hE.know.is
  obtain ⟨adm, cpm, rfl⟩ := hE.may.is
  obtain ⟨ade, cpe, rfl⟩ := hE.effs.is
  clear hO h1 h3 h hf hE
  have HL : Hid (es.length ≤ 4 ∧ ms.length = es.length) := ⟨HE.out.few, HE.out.len⟩
  have hwr : IntKind.i64.wrap ((es.length : Int) + 1) = (es.length : Int) + 1 := by rw [IntKind.wrap_i64]; have := HL.out.1; omega
  go_enter Try.func60, Try.ntmps60
  go_upto_region 1 with fail
  refine pick_begin (S := fun w' => w'.cell? ⟨d.G, 0, none⟩ = some (.pointer (some ⟨d.B, 0, none⟩)) ∧ w'.cell? ⟨d.G, 1, none⟩ = some (.slice ade es.length cpe)) (by kernel_rfl) rfl rfl ?_
  have A1 := hid A0.out.drew
  have G1 := hid (Grew.refl d W).drew
  generalize W.drew = X1 at *
  refine pick_op (i := 0) (v := .pointer (some ⟨d.G, 0, none⟩)) (by kernel_rfl) rfl (by kernel_rfl) (by kernel_rfl) rfl rfl (fun w' hw => by simp [go_sem]) ⟨A1.out.1.c0, A1.out.1.c1⟩ (by simp [go_sem]; exact rfl) ?_
  refine pick_op (i := 1) (v := .pointer (some ⟨d.G, 0, none⟩)) (by kernel_rfl) rfl (by kernel_rfl) (by kernel_rfl) rfl rfl (fun w' hw => by simp [go_sem]) ⟨A1.out.1.c0, A1.out.1.c1⟩ (by simp [go_sem]; exact rfl) ?_
  refine pick_op (i := 2) (v := .pointer (some ⟨d.G, 0, none⟩)) (by kernel_rfl) rfl (by kernel_rfl) (by kernel_rfl) rfl rfl (fun w' hw => by simp [go_sem]) ⟨A1.out.1.c0, A1.out.1.c1⟩ (by simp [go_sem]; exact rfl) ?_
  refine pick_op (i := 3) (v := .pointer (some ⟨d.B, 0, none⟩)) (by kernel_rfl) rfl (by kernel_rfl) (by kernel_rfl) rfl rfl (fun w' hw => by simp [go_sem, hw.1]) ⟨A1.out.1.c0, A1.out.1.c1⟩ (by simp [go_sem]; exact rfl) ?_
  refine pick_op (i := 4) (v := .pointer (some ⟨d.G, 0, none⟩)) (by kernel_rfl) rfl (by kernel_rfl) (by kernel_rfl) rfl rfl (fun w' hw => by simp [go_sem]) ⟨A1.out.1.c0, A1.out.1.c1⟩ (by simp [go_sem]; exact rfl) ?_
  refine pick_op (i := 5) (v := .pointer (some ⟨d.G, 0, none⟩)) (by kernel_rfl) rfl (by kernel_rfl) (by kernel_rfl) rfl rfl (fun w' hw => by simp [go_sem]) ⟨A1.out.1.c0, A1.out.1.c1⟩ (by simp [go_sem]; exact rfl) ?_
  refine pick_op (i := 6) (v := .pointer (some ⟨d.G, 1, none⟩)) (by kernel_rfl) rfl (by kernel_rfl) (by kernel_rfl) rfl rfl (fun w' hw => by simp [go_sem]) ⟨A1.out.1.c0, A1.out.1.c1⟩ (by simp [go_sem]; exact rfl) ?_
  refine pick_op (i := 7) (v := .slice ade es.length cpe) (by kernel_rfl) rfl (by kernel_rfl) (by kernel_rfl) rfl rfl (fun w' hw => by simp [go_sem, hw.2]) ⟨A1.out.1.c0, A1.out.1.c1⟩ (by simp [go_sem]; exact rfl) ?_
  refine pick_op (i := 8) (v := .int .i64 (es.length : Int)) (by kernel_rfl) rfl (by kernel_rfl) (by kernel_rfl) rfl rfl (fun w' hw => by simp [go_sem]) ⟨A1.out.1.c0, A1.out.1.c1⟩ (by simp [go_sem]; exact rfl) ?_
  refine pick_op (i := 9) (v := .int .i64 ((es.length : Int) + 1)) (by kernel_rfl) rfl (by kernel_rfl) (by kernel_rfl) rfl rfl (fun w' hw => by simp [go_sem, hwr]) ⟨A1.out.1.c0, A1.out.1.c1⟩ (by simp [go_sem]; exact rfl) ?_
  refine pick_enter (i := 10) (f := 13) (args := #[.pointer (some ⟨d.B, 0, none⟩), .int .i64 ((es.length : Int) + 1)]) rfl (by kernel_rfl) rfl rfl (by simp [go_sem]) ?_
  refine (A1.out.pick HF.out (by omega) _ (by omega)).mono ?_
  rintro e X2 ⟨m, s2, rfl, hm0, hm1, ha, hg⟩
  have A2 := hid ha
  have G2 := hid hg
  clear ha hg
  refine ⟨_, rfl, ⟨A2.out.1.c0, A2.out.1.c1⟩, ?_⟩
  refine pick_frame (by simp [go_sem]; exact rfl) ?_
  refine pick_op (i := 11) (v := .int .i64 m) (by kernel_rfl) rfl (by kernel_rfl) (by kernel_rfl) rfl rfl (fun w' hw => by simp [go_sem]) ⟨A2.out.1.c0, A2.out.1.c1⟩ (by simp [go_sem]; exact rfl) ?_
  refine pick_end (by kernel_rfl) ?_
  have AX := A2
  have HEX := hid (HE.out.grew (G1.out.trans G2.out))
  have GX := hid (G1.out.trans G2.out)
  have g0 := AX.out.1.c0
  have g1 := AX.out.1.c1
  have HM := hid (And.intro hm0 hm1)
  generalize X2 = X at *
  clear A0 HE hwr
  go_wp2_with fail
  go_loopw [12, 13] (fun i k wr => ∃ i' : Nat, i = .int .i64 i' ∧ i' ≤ es.length ∧ wr = X) (fun i _ _ => es.length - (intOf i).toNat)
  case atStart => exact ⟨0, rfl, Nat.zero_le _, rfl⟩
  case round =>
    obtain ⟨i', rfl, hle, rfl⟩ := hrel
    by_cases hi : (i' : Int) < (es.length : Int)
    · obtain ⟨kk, hkk⟩ : ∃ kk : Nat, (m + (i' : Int)) % (es.length : Int) = (kk : Int) := ⟨((m + (i' : Int)) % (es.length : Int)).toNat, by have := Int.emod_nonneg (m + (i' : Int)) (show (es.length : Int) ≠ 0 by omega); omega⟩
      have hkl : kk < es.length := by have := Int.emod_lt_of_pos (m + (i' : Int)) (show (0 : Int) < (es.length : Int) by omega); omega
      have hkt : (m + (i' : Int)).tmod (es.length : Int) = (kk : Int) := (Int.tmod_eq_emod_of_nonneg (by have := HM.out.1; omega)).trans hkk
      have hsum : wrap64 (m + (i' : Int)) = m + (i' : Int) := by have := HM.out; have := HL.out; unfold wrap64; omega
      obtain ⟨bm, om, rfl, hqm, cm⟩ := HEX.out.may.at (i := kk) (by have := HL.out.2; omega)
      obtain ⟨be, oe, xn, xa, xr, rfl, -, hbr, hqe, c0, c1, c2⟩ := HEX.out.effs.at (i := kk) hkl
      have HQ := hid (And.intro hqe hbr)
      have hk0 : (0 : Int) ≤ (kk : Int) := by omega
      have hk1 : (kk : Int) < (es.length : Int) := by omega
      have hk2 : (kk : Int) < (ms.length : Int) := by have := HL.out.2; omega
      have hstep : es.length - (intOf (.int .i64 ((i' + 1 : Nat) : Int))).toNat < es.length - (intOf (.int .i64 (i' : Int))).toNat := lt_step hi
      have hi0 : (0 : Int) ≤ (i' : Int) := by omega
      have hne : ((es.length : Int) == 0) = false := beq_eq_false_iff_ne.2 (by omega)
      clear hqm hqe hbr hkk hkl
      generalize ms.getD kk false = bb at *
      cases bb with
      | false =>
        go_wp2_with fail
        rw [wrap_succ (by have := HL.out.1; omega)]
        exact ⟨⟨i' + 1, rfl, by omega, by first | rfl | trivial⟩, hstep⟩
      | true =>
        go_wp2_with fail
        refine (base_calls xr _).mono ?_
        rintro e W9 ⟨rfl, rfl⟩
        by_cases hty : (xr == ty) = true
        · have HE := HEX
          go_upto_region 7 with fail
          refine pick_begin (S := fun w' => w'.cell? ⟨d.G, 1, none⟩ = some (.slice (some ⟨be, oe, none⟩) es.length cpe) ∧ w'.cell? ⟨be, oe + kk * 3, none⟩ = some (.string xn) ∧ w'.cell? ⟨be, oe + kk * 3 + 1, none⟩ = some (.int .i64 xa)) (by kernel_rfl) rfl rfl ?_
          have A1 := hid AX.out.drew
          have G1 := hid (Grew.refl d wr).drew
          generalize wr.drew = X1 at *
          refine pick_op (i := 0) (v := .pointer (some ⟨d.G, 0, none⟩)) (by kernel_rfl) rfl (by kernel_rfl) (by kernel_rfl) rfl rfl (fun w' hw => by simp [go_sem]) ⟨A1.out.1.c1, ((G1.out.cell (p := ⟨be, oe + kk * 3, none⟩) HQ.out.1).trans c0), ((G1.out.cell (p := ⟨be, oe + kk * 3 + 1, none⟩) HQ.out.1).trans c1)⟩ (by simp [go_sem]; exact rfl) ?_
          refine pick_op (i := 1) (v := .pointer (some ⟨d.G, 0, none⟩)) (by kernel_rfl) rfl (by kernel_rfl) (by kernel_rfl) rfl rfl (fun w' hw => by simp [go_sem]) ⟨A1.out.1.c1, ((G1.out.cell (p := ⟨be, oe + kk * 3, none⟩) HQ.out.1).trans c0), ((G1.out.cell (p := ⟨be, oe + kk * 3 + 1, none⟩) HQ.out.1).trans c1)⟩ (by simp [go_sem]; exact rfl) ?_
          refine pick_op (i := 2) (v := .pointer (some ⟨d.G, 1, none⟩)) (by kernel_rfl) rfl (by kernel_rfl) (by kernel_rfl) rfl rfl (fun w' hw => by simp [go_sem]) ⟨A1.out.1.c1, ((G1.out.cell (p := ⟨be, oe + kk * 3, none⟩) HQ.out.1).trans c0), ((G1.out.cell (p := ⟨be, oe + kk * 3 + 1, none⟩) HQ.out.1).trans c1)⟩ (by simp [go_sem]; exact rfl) ?_
          refine pick_op (i := 3) (v := .slice (some ⟨be, oe, none⟩) es.length cpe) (by kernel_rfl) rfl (by kernel_rfl) (by kernel_rfl) rfl rfl (fun w' hw => by simp [go_sem, hw.1]) ⟨A1.out.1.c1, ((G1.out.cell (p := ⟨be, oe + kk * 3, none⟩) HQ.out.1).trans c0), ((G1.out.cell (p := ⟨be, oe + kk * 3 + 1, none⟩) HQ.out.1).trans c1)⟩ (by simp [go_sem]; exact rfl) ?_
          refine pick_op (i := 4) (v := .int .i64 (kk : Int)) (by kernel_rfl) rfl (by kernel_rfl) (by kernel_rfl) rfl rfl (fun w' hw => by simp [go_sem]) ⟨A1.out.1.c1, ((G1.out.cell (p := ⟨be, oe + kk * 3, none⟩) HQ.out.1).trans c0), ((G1.out.cell (p := ⟨be, oe + kk * 3 + 1, none⟩) HQ.out.1).trans c1)⟩ (by simp [go_sem]; exact rfl) ?_
          refine pick_op (i := 5) (v := .pointer (some ⟨be, oe + kk * 3, none⟩)) (by kernel_rfl) rfl (by kernel_rfl) (by kernel_rfl) rfl rfl (fun w' hw => by simp [go_sem, hk0, hk1]) ⟨A1.out.1.c1, ((G1.out.cell (p := ⟨be, oe + kk * 3, none⟩) HQ.out.1).trans c0), ((G1.out.cell (p := ⟨be, oe + kk * 3 + 1, none⟩) HQ.out.1).trans c1)⟩ (by simp [go_sem]; exact rfl) ?_
          refine pick_op (i := 6) (v := .pointer (some ⟨be, oe + kk * 3, none⟩)) (by kernel_rfl) rfl (by kernel_rfl) (by kernel_rfl) rfl rfl (fun w' hw => by simp [go_sem]) ⟨A1.out.1.c1, ((G1.out.cell (p := ⟨be, oe + kk * 3, none⟩) HQ.out.1).trans c0), ((G1.out.cell (p := ⟨be, oe + kk * 3 + 1, none⟩) HQ.out.1).trans c1)⟩ (by simp [go_sem]; exact rfl) ?_
          refine pick_op (i := 7) (v := .string xn) (by kernel_rfl) rfl (by kernel_rfl) (by kernel_rfl) rfl rfl (fun w' hw => by simp [go_sem, hw.2.1]) ⟨A1.out.1.c1, ((G1.out.cell (p := ⟨be, oe + kk * 3, none⟩) HQ.out.1).trans c0), ((G1.out.cell (p := ⟨be, oe + kk * 3 + 1, none⟩) HQ.out.1).trans c1)⟩ (by simp [go_sem]; exact rfl) ?_
          refine pick_op (i := 8) (v := .agg #[.int .i64 22, .int .i64 0, .string xn, .string ⟨#[]⟩, .string ⟨#[]⟩, .int .i64 0]) (by kernel_rfl) rfl (by kernel_rfl) (by kernel_rfl) rfl rfl (fun w' hw => by simp [go_sem]) ⟨A1.out.1.c1, ((G1.out.cell (p := ⟨be, oe + kk * 3, none⟩) HQ.out.1).trans c0), ((G1.out.cell (p := ⟨be, oe + kk * 3 + 1, none⟩) HQ.out.1).trans c1)⟩ (by simp [go_sem]; exact rfl) ?_
          refine pick_op (i := 9) (v := .pointer (some ⟨d.G, 0, none⟩)) (by kernel_rfl) rfl (by kernel_rfl) (by kernel_rfl) rfl rfl (fun w' hw => by simp [go_sem]) ⟨A1.out.1.c1, ((G1.out.cell (p := ⟨be, oe + kk * 3, none⟩) HQ.out.1).trans c0), ((G1.out.cell (p := ⟨be, oe + kk * 3 + 1, none⟩) HQ.out.1).trans c1)⟩ (by simp [go_sem]; exact rfl) ?_
          refine pick_op (i := 10) (v := .pointer (some ⟨d.G, 0, none⟩)) (by kernel_rfl) rfl (by kernel_rfl) (by kernel_rfl) rfl rfl (fun w' hw => by simp [go_sem]) ⟨A1.out.1.c1, ((G1.out.cell (p := ⟨be, oe + kk * 3, none⟩) HQ.out.1).trans c0), ((G1.out.cell (p := ⟨be, oe + kk * 3 + 1, none⟩) HQ.out.1).trans c1)⟩ (by simp [go_sem]; exact rfl) ?_
          refine pick_op (i := 11) (v := .pointer (some ⟨d.G, 0, none⟩)) (by kernel_rfl) rfl (by kernel_rfl) (by kernel_rfl) rfl rfl (fun w' hw => by simp [go_sem]) ⟨A1.out.1.c1, ((G1.out.cell (p := ⟨be, oe + kk * 3, none⟩) HQ.out.1).trans c0), ((G1.out.cell (p := ⟨be, oe + kk * 3 + 1, none⟩) HQ.out.1).trans c1)⟩ (by simp [go_sem]; exact rfl) ?_
          refine pick_op (i := 12) (v := .pointer (some ⟨d.G, 1, none⟩)) (by kernel_rfl) rfl (by kernel_rfl) (by kernel_rfl) rfl rfl (fun w' hw => by simp [go_sem]) ⟨A1.out.1.c1, ((G1.out.cell (p := ⟨be, oe + kk * 3, none⟩) HQ.out.1).trans c0), ((G1.out.cell (p := ⟨be, oe + kk * 3 + 1, none⟩) HQ.out.1).trans c1)⟩ (by simp [go_sem]; exact rfl) ?_
          refine pick_op (i := 13) (v := .slice (some ⟨be, oe, none⟩) es.length cpe) (by kernel_rfl) rfl (by kernel_rfl) (by kernel_rfl) rfl rfl (fun w' hw => by simp [go_sem, hw.1]) ⟨A1.out.1.c1, ((G1.out.cell (p := ⟨be, oe + kk * 3, none⟩) HQ.out.1).trans c0), ((G1.out.cell (p := ⟨be, oe + kk * 3 + 1, none⟩) HQ.out.1).trans c1)⟩ (by simp [go_sem]; exact rfl) ?_
          refine pick_op (i := 14) (v := .int .i64 (kk : Int)) (by kernel_rfl) rfl (by kernel_rfl) (by kernel_rfl) rfl rfl (fun w' hw => by simp [go_sem]) ⟨A1.out.1.c1, ((G1.out.cell (p := ⟨be, oe + kk * 3, none⟩) HQ.out.1).trans c0), ((G1.out.cell (p := ⟨be, oe + kk * 3 + 1, none⟩) HQ.out.1).trans c1)⟩ (by simp [go_sem]; exact rfl) ?_
          refine pick_op (i := 15) (v := .pointer (some ⟨be, oe + kk * 3, none⟩)) (by kernel_rfl) rfl (by kernel_rfl) (by kernel_rfl) rfl rfl (fun w' hw => by simp [go_sem, hk0, hk1]) ⟨A1.out.1.c1, ((G1.out.cell (p := ⟨be, oe + kk * 3, none⟩) HQ.out.1).trans c0), ((G1.out.cell (p := ⟨be, oe + kk * 3 + 1, none⟩) HQ.out.1).trans c1)⟩ (by simp [go_sem]; exact rfl) ?_
          refine pick_op (i := 16) (v := .pointer (some ⟨be, oe + kk * 3 + 1, none⟩)) (by kernel_rfl) rfl (by kernel_rfl) (by kernel_rfl) rfl rfl (fun w' hw => by simp [go_sem]) ⟨A1.out.1.c1, ((G1.out.cell (p := ⟨be, oe + kk * 3, none⟩) HQ.out.1).trans c0), ((G1.out.cell (p := ⟨be, oe + kk * 3 + 1, none⟩) HQ.out.1).trans c1)⟩ (by simp [go_sem]; exact rfl) ?_
          refine pick_op (i := 17) (v := .int .i64 xa) (by kernel_rfl) rfl (by kernel_rfl) (by kernel_rfl) rfl rfl (fun w' hw => by simp [go_sem, hw.2.2]) ⟨A1.out.1.c1, ((G1.out.cell (p := ⟨be, oe + kk * 3, none⟩) HQ.out.1).trans c0), ((G1.out.cell (p := ⟨be, oe + kk * 3 + 1, none⟩) HQ.out.1).trans c1)⟩ (by simp [go_sem]; exact rfl) ?_
          refine pick_op (i := 19) (v := .slice ad ks.length cp) (by kernel_rfl) rfl (by kernel_rfl) (by kernel_rfl) rfl rfl (fun w' hw => by simp [go_sem]) ⟨A1.out.1.c1, ((G1.out.cell (p := ⟨be, oe + kk * 3, none⟩) HQ.out.1).trans c0), ((G1.out.cell (p := ⟨be, oe + kk * 3 + 1, none⟩) HQ.out.1).trans c1)⟩ (by simp [go_sem]; exact rfl) ?_
          refine pick_op (i := 20) (v := .slice (some ⟨bm, om, none⟩) ms.length cpm) (by kernel_rfl) rfl (by kernel_rfl) (by kernel_rfl) rfl rfl (fun w' hw => by simp [go_sem]) ⟨A1.out.1.c1, ((G1.out.cell (p := ⟨be, oe + kk * 3, none⟩) HQ.out.1).trans c0), ((G1.out.cell (p := ⟨be, oe + kk * 3 + 1, none⟩) HQ.out.1).trans c1)⟩ (by simp [go_sem]; exact rfl) ?_
          refine pick_op (i := 21) (v := .int .i64 deep) (by kernel_rfl) rfl (by kernel_rfl) (by kernel_rfl) rfl rfl (fun w' hw => by simp [go_sem]) ⟨A1.out.1.c1, ((G1.out.cell (p := ⟨be, oe + kk * 3, none⟩) HQ.out.1).trans c0), ((G1.out.cell (p := ⟨be, oe + kk * 3 + 1, none⟩) HQ.out.1).trans c1)⟩ (by simp [go_sem]; exact rfl) ?_
          refine pick_enter (i := 18) (f := 75) (args := #[.int .i64 xa]) rfl (by kernel_rfl) rfl rfl (by simp [go_sem]) ?_
          refine (base_calls xa _).mono ?_
          rintro e W8 ⟨rfl, rfl⟩
          refine ⟨_, rfl, ⟨A1.out.1.c1, ((G1.out.cell (p := ⟨be, oe + kk * 3, none⟩) HQ.out.1).trans c0), ((G1.out.cell (p := ⟨be, oe + kk * 3 + 1, none⟩) HQ.out.1).trans c1)⟩, ?_⟩
          refine pick_frame (by simp [go_sem]; exact rfl) ?_
          refine pick_enter (i := 22) (f := 38) (args := #[.pointer (some ⟨d.G, 0, none⟩), .int .i64 xa, .slice ad ks.length cp, .slice (some ⟨bm, om, none⟩) ms.length cpm, .int .i64 deep]) rfl (by kernel_rfl) rfl rfl (by simp [go_sem]) ?_
          refine (A1.out.nodes (HO.out deep xa _ _ _ _ _ _ (by have := HD.out; omega) (by have := HD.out; omega) (A1.out.fit HF.out 10 (by omega)) A1.out.1 (HE.out.grew G1.out).down)).mono ?_
          rintro e X2 ⟨v2, n2, s2, t2, rfl, hn2, hl2, ha, hg⟩
          have A2 := hid ha
          have G2 := hid hg
          clear ha hg
          have N2 := hid (And.intro hn2 hl2)
          obtain ⟨ad2, cp2, rfl⟩ := hn2.is
          clear hn2 hl2
          refine ⟨_, rfl, ⟨A2.out.1.c1, (((G1.out.trans G2.out).cell (p := ⟨be, oe + kk * 3, none⟩) HQ.out.1).trans c0), (((G1.out.trans G2.out).cell (p := ⟨be, oe + kk * 3 + 1, none⟩) HQ.out.1).trans c1)⟩, ?_⟩
          refine pick_frame (by simp [go_sem]; exact rfl) ?_
          have KV : Hid (KidsV d (X2.alloc (.cells #[.slice ad2 n2.length cp2] 53)) (.slice (some ⟨X2.heap.size, 0, none⟩) 1 1) [(.slice ad2 n2.length cp2, n2)]) := (kids_lit [(.slice ad2 n2.length cp2, n2)] _ rfl A2.out.1.ltB A2.out.1.ltG (fun x hx => by simp at hx; rcases hx with rfl; exact N2.out.1))
          have A3 := hid (A2.out.alloc (.cells #[.slice ad2 n2.length cp2] 53))
          have G3 := hid ((Grew.refl d X2).alloc (.cells #[.slice ad2 n2.length cp2] 53))
          refine pick_make (i := 23) (v := .slice (some ⟨X2.heap.size, 0, none⟩) 1 1) (w1 := X2.alloc (.cells #[.slice ad2 n2.length cp2] 53)) rfl (by kernel_rfl) rfl rfl (by simp [go_sem]) ⟨A3.out.1.c1, (((G1.out.trans (G2.out.trans G3.out)).cell (p := ⟨be, oe + kk * 3, none⟩) HQ.out.1).trans c0), (((G1.out.trans (G2.out.trans G3.out)).cell (p := ⟨be, oe + kk * 3 + 1, none⟩) HQ.out.1).trans c1)⟩ (by simp [go_sem]; exact rfl) ?_
          generalize X2.alloc (.cells #[.slice ad2 n2.length cp2] 53) = X3 at *
          refine pick_enter (i := 24) (f := 55) (args := #[.agg #[.int .i64 22, .int .i64 0, .string xn, .string ⟨#[]⟩, .string ⟨#[]⟩, .int .i64 0], .slice (some ⟨X2.heap.size, 0, none⟩) 1 1]) rfl (by kernel_rfl) rfl rfl (by simp [go_sem]) ?_
          refine (A3.out.put_kids 22 0 0 xn ⟨#[]⟩ ⟨#[]⟩ KV.out ⟨HQ.out.2, brief_none, brief_none⟩ (by simp) (by have := A3.out.bound HF.out (by omega) (by decide); have := N2.out.2; simp [flatL]; omega)).mono ?_
          rintro e X4 ⟨v4, n4, rfl, hn4, hl4, ha, hg⟩
          have A4 := hid ha
          have G4 := hid hg
          clear ha hg
          have N4 := hid (And.intro hn4 hl4)
          obtain ⟨ad4, cp4, rfl⟩ := hn4.is
          clear hn4 hl4
          refine ⟨_, rfl, ⟨A4.out.1.c1, (((G1.out.trans (G2.out.trans (G3.out.trans G4.out))).cell (p := ⟨be, oe + kk * 3, none⟩) HQ.out.1).trans c0), (((G1.out.trans (G2.out.trans (G3.out.trans G4.out))).cell (p := ⟨be, oe + kk * 3 + 1, none⟩) HQ.out.1).trans c1)⟩, ?_⟩
          refine pick_frame (by simp [go_sem]; exact rfl) ?_
          refine pick_op (i := 25) (v := .slice ad4 n4.length cp4) (by kernel_rfl) rfl (by kernel_rfl) (by kernel_rfl) rfl rfl (fun w' hw => by simp [go_sem]) ⟨A4.out.1.c1, (((G1.out.trans (G2.out.trans (G3.out.trans G4.out))).cell (p := ⟨be, oe + kk * 3, none⟩) HQ.out.1).trans c0), (((G1.out.trans (G2.out.trans (G3.out.trans G4.out))).cell (p := ⟨be, oe + kk * 3 + 1, none⟩) HQ.out.1).trans c1)⟩ (by simp [go_sem]; exact rfl) ?_
          refine pick_end (by kernel_rfl) ?_
          go_wp2_with fail
          go_ret
          exact A4.out.done0 5 N4.out.1 (by have := N4.out.2; have := N2.out.2; simp [flatL] at *; omega) (by omega)
        · have hty' : (xr == ty) = false := by simpa using hty
          clear hty
          go_wp2_with fail
          rw [wrap_succ (by have := HL.out.1; omega)]
          exact ⟨⟨i' + 1, rfl, by omega, by first | rfl | trivial⟩, hstep⟩
    · go_wp2_with fail
      go_ret
      exact none_post AX.out (by omega)
end Go.Proofs.Ytnbmhopoiijhoaa

/- A function that calls itself is drawn, and a call. -/
namespace Go.Proofs.Ytnbmhopoiijhoaa
open Go.RowKit Go.Deep

set_option maxHeartbeats 8000000 in
set_option maxRecDepth 100000 in
/-- A function that calls itself, and a call. -/
theorem loop_calls {d : Dr} {ve v vm : Value} {es : List Ef} {W : World} {s : Cn} {ks : List Kn} {ms : List Bool} {D : Nat} (deep : Int) (hO : OfC d ve es D) (h1 : deep ≤ D) (h2 : -90 ≤ deep) (h3 : D ≤ 100) (h : Gen d ve W s) (hf : Fit s 60) (hE : Env d ve es W v ks vm ms (D + 1)) :
    Calls Try.prog 76 #[.pointer (some ⟨d.G, 0, none⟩), v, vm, .int .i64 deep] W (NodesPost d ve W s 60) := by
  have HF := hid hf
  have HO := hid hO
  have A0 := hid (At.start h)
  have HE := hid hE
  have HD := hid (And.intro h1 (And.intro h2 h3))
  have hdu : deep ≤ 1000 := by omega
  obtain ⟨ad, cp, rfl⟩ := hE.know.is
  obtain ⟨adm, cpm, rfl⟩ := hE.may.is
  clear hO h1 h3 h hf hE
  go_enter Try.func76, Try.ntmps76
  go_wp2_with fail
  refine (A0.out.name HF.out (by omega)).mono ?_
  rintro e X1 ⟨x1, s1, rfl, hb1, ha, hg⟩
  have A1 := hid ha
  have G1 := hid hg
  clear ha hg
  have B1 := hid hb1
  clear hb1
  go_wp2_with fail
  refine (A1.out.name HF.out (by omega)).mono ?_
  rintro e X2 ⟨x2, s2, rfl, hb2, ha, hg⟩
  have A2 := hid ha
  have G2 := hid hg
  clear ha hg
  have B2 := hid hb2
  clear hb2
  have N3 := hid (And.intro (nd_lit_at (d := d) X2 ⟨5, 0, x2, ByteArray.empty, ByteArray.empty, 0⟩ (X2.heap.size) (by simp) A2.out.1.ltB A2.out.1.ltG ⟨B2.out, brief_none, brief_none⟩) (show [(⟨5, 0, x2, ByteArray.empty, ByteArray.empty, 0⟩ : Nd)].length = 1 from rfl))
  have A3 := hid (A2.out.alloc (.cells #[.int .i64 5, .int .i64 0, .string x2, .string ByteArray.empty, .string ByteArray.empty, .int .i64 0] 92))
  have G3 := hid ((Grew.refl d X2).alloc (.cells #[.int .i64 5, .int .i64 0, .string x2, .string ByteArray.empty, .string ByteArray.empty, .int .i64 0] 92))
  have N4 := hid (And.intro (nd_lit_at (d := d) (X2.alloc (.cells #[.int .i64 5, .int .i64 0, .string x2, .string ByteArray.empty, .string ByteArray.empty, .int .i64 0] 92)) ⟨5, 0, x1, ByteArray.empty, ByteArray.empty, 0⟩ (X2.heap.size + 1) (by simp) A3.out.1.ltB A3.out.1.ltG ⟨B1.out, brief_none, brief_none⟩) (show [(⟨5, 0, x1, ByteArray.empty, ByteArray.empty, 0⟩ : Nd)].length = 1 from rfl))
  have A4 := hid (A3.out.alloc (.cells #[.int .i64 5, .int .i64 0, .string x1, .string ByteArray.empty, .string ByteArray.empty, .int .i64 0] 92))
  have G4 := hid ((Grew.refl d (X2.alloc (.cells #[.int .i64 5, .int .i64 0, .string x2, .string ByteArray.empty, .string ByteArray.empty, .int .i64 0] 92))).alloc (.cells #[.int .i64 5, .int .i64 0, .string x1, .string ByteArray.empty, .string ByteArray.empty, .int .i64 0] 92))
  go_wp2_with fail
  refine (A4.out.node 1 1).mono ?_
  rintro e X5 ⟨v5, n5, rfl, hn5, hl5, ha, hg⟩
  have A5 := hid ha
  have G5 := hid hg
  clear ha hg
  have N5 := hid (And.intro hn5 hl5)
  obtain ⟨ad5, cp5, rfl⟩ := hn5.is
  clear hn5 hl5
  go_wp2_with fail
  refine (A5.out.put2 12 0 0 ByteArray.empty ByteArray.empty ByteArray.empty (N3.out.1.grew (G4.out.trans G5.out)) N5.out.1 ⟨brief_none, brief_none, brief_none⟩ (by have := A5.out.bound HF.out (by omega) (by decide); have := N3.out.2; have := N5.out.2; omega)).mono ?_
  rintro e X6 ⟨v6, n6, rfl, hn6, hl6, ha, hg⟩
  have A6 := hid ha
  have G6 := hid hg
  clear ha hg
  have N6 := hid (And.intro hn6 hl6)
  obtain ⟨ad6, cp6, rfl⟩ := hn6.is
  clear hn6 hl6
  go_wp2_with fail
  refine (A6.out.put2 7 0 0 ByteArray.empty ByteArray.empty ByteArray.empty (N4.out.1.grew (G5.out.trans G6.out)) N6.out.1 ⟨brief_none, brief_none, brief_none⟩ (by have := A6.out.bound HF.out (by omega) (by decide); have := N4.out.2; have := N6.out.2; have := N3.out.2; have := N5.out.2; omega)).mono ?_
  rintro e X7 ⟨v7, n7, rfl, hn7, hl7, ha, hg⟩
  have A7 := hid ha
  have G7 := hid hg
  clear ha hg
  have N7 := hid (And.intro hn7 hl7)
  obtain ⟨ad7, cp7, rfl⟩ := hn7.is
  clear hn7 hl7
  go_wp2_with fail
  refine (A7.out.add x2 1 0 (HE.out.grew (G1.out.trans (G2.out.trans (G3.out.trans (G4.out.trans (G5.out.trans (G6.out.trans G7.out))))))).know B2.out (by have := HE.out.room; omega)).mono ?_
  rintro e X8 ⟨u8, ks8, rfl, hk8, hkl8, ha, hg⟩
  have A8 := hid ha
  have G8 := hid hg
  clear ha hg
  have K8 := hid (And.intro hk8 hkl8)
  obtain ⟨ad8, cp8, rfl⟩ := hk8.is
  clear hk8 hkl8
  go_wp2_with fail
  refine (A8.out.node 1 1).mono ?_
  rintro e X9 ⟨v9, n9, rfl, hn9, hl9, ha, hg⟩
  have A9 := hid ha
  have G9 := hid hg
  clear ha hg
  have N9 := hid (And.intro hn9 hl9)
  obtain ⟨ad9, cp9, rfl⟩ := hn9.is
  clear hn9 hl9
  go_wp2_with fail
  refine (A9.out.put2 15 0 0 ByteArray.empty ByteArray.empty ByteArray.empty (N3.out.1.grew (G4.out.trans (G5.out.trans (G6.out.trans (G7.out.trans (G8.out.trans G9.out)))))) N9.out.1 ⟨brief_none, brief_none, brief_none⟩ (by have := A9.out.bound HF.out (by omega) (by decide); have := N3.out.2; have := N9.out.2; omega)).mono ?_
  rintro e X10 ⟨v10, n10, rfl, hn10, hl10, ha, hg⟩
  have A10 := hid ha
  have G10 := hid hg
  clear ha hg
  have N10 := hid (And.intro hn10 hl10)
  obtain ⟨ad10, cp10, rfl⟩ := hn10.is
  clear hn10 hl10
  go_wp2_with fail
  refine (A10.out.nodes (leaf_calls 1 A10.out.1 (A10.out.fit HF.out 10 (by omega)) (K8.out.1.grew (G9.out.trans G10.out)) (by have := HE.out.room; have := K8.out.2; omega))).mono ?_
  rintro e X11 ⟨v11, n11, s11, t11, rfl, hn11, hl11, ha, hg⟩
  have A11 := hid ha
  have G11 := hid hg
  clear ha hg
  have N11 := hid (And.intro hn11 hl11)
  obtain ⟨ad11, cp11, rfl⟩ := hn11.is
  clear hn11 hl11
  go_wp2_with fail
  refine (A11.out.nodes (HO.out (deep - 2) 1 _ _ _ _ _ _ (by have := HD.out; omega) (by have := HD.out; omega) (A11.out.fit HF.out 10 (by omega)) A11.out.1 ((HE.out.grew (G1.out.trans (G2.out.trans (G3.out.trans (G4.out.trans (G5.out.trans (G6.out.trans (G7.out.trans (G8.out.trans (G9.out.trans (G10.out.trans G11.out))))))))))).with (K8.out.1.grew (G9.out.trans (G10.out.trans G11.out))) (by have := K8.out.2; omega)))).mono ?_
  rintro e X12 ⟨v12, n12, s12, t12, rfl, hn12, hl12, ha, hg⟩
  have A12 := hid ha
  have G12 := hid hg
  clear ha hg
  have N12 := hid (And.intro hn12 hl12)
  obtain ⟨ad12, cp12, rfl⟩ := hn12.is
  clear hn12 hl12
  go_wp2_with fail
  refine (A12.out.put2 11 0 0 ByteArray.empty ByteArray.empty ByteArray.empty N12.out.1 (N7.out.1.grew (G8.out.trans (G9.out.trans (G10.out.trans (G11.out.trans G12.out))))) ⟨brief_none, brief_none, brief_none⟩ (by have := A12.out.bound HF.out (by omega) (by decide); have := N12.out.2; have := N7.out.2; have := N4.out.2; have := N6.out.2; have := N3.out.2; have := N5.out.2; omega)).mono ?_
  rintro e X13 ⟨v13, n13, rfl, hn13, hl13, ha, hg⟩
  have A13 := hid ha
  have G13 := hid hg
  clear ha hg
  have N13 := hid (And.intro hn13 hl13)
  obtain ⟨ad13, cp13, rfl⟩ := hn13.is
  clear hn13 hl13
  go_wp2_with fail
  refine (A13.out.put3 10 0 0 ByteArray.empty ByteArray.empty ByteArray.empty (N10.out.1.grew (G11.out.trans (G12.out.trans G13.out))) (N11.out.1.grew (G12.out.trans G13.out)) N13.out.1 ⟨brief_none, brief_none, brief_none⟩ (by have := A13.out.bound HF.out (by omega) (by decide); have := N10.out.2; have := N3.out.2; have := N9.out.2; have := N11.out.2; have := N13.out.2; have := N12.out.2; have := N7.out.2; have := N4.out.2; have := N6.out.2; have := N3.out.2; have := N5.out.2; omega)).mono ?_
  rintro e X14 ⟨v14, n14, rfl, hn14, hl14, ha, hg⟩
  have A14 := hid ha
  have G14 := hid hg
  clear ha hg
  have N14 := hid (And.intro hn14 hl14)
  obtain ⟨ad14, cp14, rfl⟩ := hn14.is
  clear hn14 hl14
  have N15 := hid (And.intro (nd_lit_at (d := d) X14 ⟨5, 0, x1, ByteArray.empty, ByteArray.empty, 0⟩ (X14.heap.size) (by simp) A14.out.1.ltB A14.out.1.ltG ⟨B1.out, brief_none, brief_none⟩) (show [(⟨5, 0, x1, ByteArray.empty, ByteArray.empty, 0⟩ : Nd)].length = 1 from rfl))
  have A15 := hid (A14.out.alloc (.cells #[.int .i64 5, .int .i64 0, .string x1, .string ByteArray.empty, .string ByteArray.empty, .int .i64 0] 92))
  have G15 := hid ((Grew.refl d X14).alloc (.cells #[.int .i64 5, .int .i64 0, .string x1, .string ByteArray.empty, .string ByteArray.empty, .int .i64 0] 92))
  have g0 : (X14.alloc (.cells #[.int .i64 5, .int .i64 0, .string x1, .string ⟨#[]⟩, .string ⟨#[]⟩, .int .i64 0] 92)).cell? ⟨d.G, 0, none⟩ = some (.pointer (some ⟨d.B, 0, none⟩)) := A15.out.1.c0
  go_wp2_with fail
  refine (A15.out.pick HF.out (by omega) 12 (by decide)).mono ?_
  rintro e X16 ⟨m16, s16, rfl, hm16, hM16, ha, hg⟩
  have A16 := hid ha
  have G16 := hid hg
  clear ha hg
  clear g0
  go_wp2_with fail
  refine (A16.out.node 1 m16).mono ?_
  rintro e X17 ⟨v17, n17, rfl, hn17, hl17, ha, hg⟩
  have A17 := hid ha
  have G17 := hid hg
  clear ha hg
  have N17 := hid (And.intro hn17 hl17)
  obtain ⟨ad17, cp17, rfl⟩ := hn17.is
  clear hn17 hl17
  go_wp2_with fail
  refine (A17.out.put2 7 0 0 ByteArray.empty ByteArray.empty ByteArray.empty (N15.out.1.grew (G16.out.trans G17.out)) N17.out.1 ⟨brief_none, brief_none, brief_none⟩ (by have := A17.out.bound HF.out (by omega) (by decide); have := N15.out.2; have := N17.out.2; omega)).mono ?_
  rintro e X18 ⟨v18, n18, rfl, hn18, hl18, ha, hg⟩
  have A18 := hid ha
  have G18 := hid hg
  clear ha hg
  have N18 := hid (And.intro hn18 hl18)
  obtain ⟨ad18, cp18, rfl⟩ := hn18.is
  clear hn18 hl18
  go_wp2_with fail
  refine (A18.out.put2 9 0 0 x1 x2 ByteArray.empty (N14.out.1.grew (G15.out.trans (G16.out.trans (G17.out.trans G18.out)))) N18.out.1 ⟨B1.out, B2.out, brief_none⟩ (by have := A18.out.bound HF.out (by omega) (by decide); have := N14.out.2; have := N10.out.2; have := N3.out.2; have := N9.out.2; have := N11.out.2; have := N13.out.2; have := N12.out.2; have := N7.out.2; have := N4.out.2; have := N6.out.2; have := N3.out.2; have := N5.out.2; have := N18.out.2; have := N15.out.2; have := N17.out.2; omega)).mono ?_
  rintro e X19 ⟨v19, n19, rfl, hn19, hl19, ha, hg⟩
  have A19 := hid ha
  have G19 := hid hg
  clear ha hg
  have N19 := hid (And.intro hn19 hl19)
  obtain ⟨ad19, cp19, rfl⟩ := hn19.is
  clear hn19 hl19
  go_wp2_with fail
  go_ret
  exact A19.out.done 30 N19.out.1 (by have := N19.out.2; have := N14.out.2; have := N10.out.2; have := N3.out.2; have := N9.out.2; have := N11.out.2; have := N13.out.2; have := N12.out.2; have := N7.out.2; have := N4.out.2; have := N6.out.2; have := N3.out.2; have := N5.out.2; have := N18.out.2; have := N15.out.2; have := N17.out.2; omega) (by omega)
end Go.Proofs.Ytnbmhopoiijhoaa
