/- Whether a node has the fields of its kind, as the specification asks it. -/
import Derived.Test.YtgiejnmphfgmgaaGreatDoorPureTree
import Derived.Test.YtgiejnmphfgmgaaGreatDoorKept
import Derived.Deep.RegionWith
import Derived.Deep.RegionHeld
import Derived.BigQuiet
import Derived.BigRegion
namespace Go.Proofs.YtgiejnmphfgmgaaGreatDoor
open Go.RowKit

def Nd.nm (n : Nd) : Nat → ByteArray
  | 0 => n.a
  | 1 => n.b
  | _ => n.c

/-- A name where the kind has one, nothing where it has none. -/
def fit (nm : Int) (i : Nat) (s : ByteArray) : Bool := if (i : Int) < nm then nameOk s else s.toList == []

def kidsOk (k kids : Int) : Bool := if arityZ k = -1 then false else if arityZ k = -2 then decide (2 ≤ kids ∧ kids ≤ 6) else decide (kids = arityZ k)

def numOk (k num : Int) : Bool := decide (0 ≤ num ∧ num ≤ mostZ k)

def namesOk (n : Nd) : Bool := fit (namesZ n.kind) 0 n.a && (fit (namesZ n.kind) 1 n.b && fit (namesZ n.kind) 2 n.c)

def unlike (n : Nd) : Bool := !(n.kind == 20 && n.a.toList == n.b.toList)

/-- The fields are those of the kind. -/
def ownOk (n : Nd) : Bool := kidsOk n.kind n.kids && (namesOk n && (unlike n && numOk n.kind n.num))

theorem arity_range (k : Int) : arityZ k = -1 ∨ arityZ k = -2 ∨ (0 ≤ arityZ k ∧ arityZ k ≤ 3) := by
  rcases kinds k with rfl | rfl | rfl | rfl | rfl | rfl | rfl | rfl | rfl | rfl | rfl | rfl | rfl | rfl | rfl | rfl | rfl | rfl | rfl | rfl | rfl | rfl | rfl | rfl | rfl | rfl | h
  all_goals try decide
  exact Or.inl (tab_other h)

theorem names_range (k : Int) : 0 ≤ namesZ k ∧ namesZ k ≤ 3 := by
  rcases kinds k with rfl | rfl | rfl | rfl | rfl | rfl | rfl | rfl | rfl | rfl | rfl | rfl | rfl | rfl | rfl | rfl | rfl | rfl | rfl | rfl | rfl | rfl | rfl | rfl | rfl | rfl | h
  all_goals try decide
  rw [namesZ, tab_other h]
  decide

theorem names_case {k : Int} (h : k = 20) : 1 < namesZ k := by subst h; decide

theorem most_one : mostZ 1 = 999999999 := rfl
theorem most_two : mostZ 2 = 1 := rfl
theorem most_other {k : Int} (h1 : k ≠ 1) (h2 : k ≠ 2) : mostZ k = 0 := by
  rcases kinds k with rfl | rfl | rfl | rfl | rfl | rfl | rfl | rfl | rfl | rfl | rfl | rfl | rfl | rfl | rfl | rfl | rfl | rfl | rfl | rfl | rfl | rfl | rfl | rfl | rfl | rfl | h
  all_goals try (first | (exact absurd rfl h1) | (exact absurd rfl h2) | rfl)
  exact tab_other h

theorem num_one {num : Int} (h : 0 ≤ num) : numOk 1 num = decide (num ≤ 999999999) := by
  unfold numOk
  rw [most_one]
  exact decide_eq_decide.2 ⟨fun x => x.2, fun x => ⟨h, x⟩⟩

theorem num_one_neg {num : Int} (h : ¬ 0 ≤ num) : numOk 1 num = false := decide_eq_false (fun x => h x.1)

theorem num_zero {k num : Int} (h : mostZ k = 0) : numOk k num = (num == 0) := by
  unfold numOk
  rw [h, Bool.eq_iff_iff, decide_eq_true_iff, beq_iff_eq]
  omega

theorem empty_name {s : ByteArray} (h : (s.toList == []) = true) : nameOk s = false := by
  refine nameOk_size (fun hh => ?_)
  have h1 : s.toList = [] := by simpa using h
  rw [ByteArray.toList_eq] at h1
  have h2 : s.data.toList.length = 0 := by rw [h1]; rfl
  rw [Array.length_toList] at h2
  have : s.size = 0 := h2
  omega

theorem fit_all {n : Nd} (h : ∀ i, i < 3 → fit (namesZ n.kind) i (n.nm i) = true) : namesOk n = true := by
  have h0 := h 0 (by omega)
  have h1 := h 1 (by omega)
  have h2 := h 2 (by omega)
  simp only [Nd.nm] at h0 h1 h2
  simp [namesOk, h0, h1, h2]

theorem fit_none {n : Nd} {i : Nat} (hi : i < 3) (h : fit (namesZ n.kind) i (n.nm i) = false) : namesOk n = false := by
  match i, hi, h with
  | 0, _, h => simp only [Nd.nm] at h; simp [namesOk, h]
  | 1, _, h => simp only [Nd.nm] at h; simp [namesOk, h]
  | 2, _, h => simp only [Nd.nm] at h; simp [namesOk, h]

/-- The last part of the test, behind the names. -/
def tailOk (k num : Int) (a b : ByteArray) : Bool := !(k == 20 && a.toList == b.toList) && numOk k num

set_option maxHeartbeats 4000000 in
set_option maxRecDepth 100000 in
theorem own_many (k num : Int) (a b c : ByteArray) (kids : Int) (w : World) (hK : kidsOk k kids = true) (h2 : arityZ k = -2) (hk2 : 2 ≤ kids) (hk6 : kids ≤ 6) :
    Calls Tryz.prog 68 #[.agg #[.int .i64 k, .int .i64 num, .string a, .string b, .string c, .int .i64 kids]] w fun e w' => e = .returned (.bool (ownOk ⟨k, num, a, b, c, kids⟩)) ∧ Below w.heap.size w w' := by
  have HN : Hid (∀ w, _) := names_calls k
  have hac := arity_calls k
  rw [h2] at hac
  have HC : Hid (∀ w, _) := hac
  clear hac h2
  go_enter Tryz.func68, Tryz.ntmps68
  go_wp2_with (first | (go_at_call 100; refine (HC.out _).mono ?_; rintro e w2 ⟨rfl, rfl⟩))
  go_loopw [5] (fun i wr => ∃ j : Nat, i = .int .i64 j ∧ j ≤ 3 ∧ Hid (∀ i, i < j → fit (namesZ k) i (Nd.nm ⟨k, num, a, b, c, kids⟩ i) = true) ∧ wr.heap[w.heap.size]? = some (.cells #[.int .i64 k, .int .i64 num, .string a, .string b, .string c, .int .i64 kids] 81) ∧ wr.heap[w.heap.size + 1]? = some (.cells #[.string a, .string b, .string c] 9) ∧ Below w.heap.size w wr) (fun i _ => 3 - (intOf i).toNat)
  case atStart =>
    have e1 := (MapKept.heap_alloc w (.cells #[.int .i64 k, .int .i64 num, .string a, .string b, .string c, .int .i64 kids] 81)).1
    refine ⟨0, rfl, by omega, fun i hi => by omega, ?_, ?_, ((Below.refl _ _).alloc (Nat.le_refl _) _).alloc (by simp) _⟩
    · rw [Below.heap_alloc _ _ _ (by simp)]
      exact e1
    · have := (MapKept.heap_alloc (w.alloc (.cells #[.int .i64 k, .int .i64 num, .string a, .string b, .string c, .int .i64 kids] 81)) (.cells #[.string a, .string b, .string c] 9)).1
      simpa using this
  case round =>
    obtain ⟨j, rfl, hj3, HA, eA, eN, hnx⟩ := hrel
    have a0 := cell_of_heap eA 0
    simp at a0
    have hltA := heap_lt eA
    have hltN := heap_lt eN
    by_cases hj : j < 3
    · have cN : wr.cell? ⟨w.heap.size + 1, j, none⟩ = some (.string (Nd.nm ⟨k, num, a, b, c, kids⟩ j)) := by
        rw [cell_of_heap eN j]
        match j, hj with
        | 0, _ => rfl
        | 1, _ => rfl
        | 2, _ => rfl
      have step : fit (namesZ k) j (Nd.nm ⟨k, num, a, b, c, kids⟩ j) = true → Hid (∀ i, i < j + 1 → fit (namesZ k) i (Nd.nm ⟨k, num, a, b, c, kids⟩ i) = true) := fun h i hi => by
        by_cases e : i = j
        · rw [e]
          exact h
        · exact HA.out i (by omega)
      have fin : fit (namesZ k) j (Nd.nm ⟨k, num, a, b, c, kids⟩ j) = false → Hid (ownOk ⟨k, num, a, b, c, kids⟩ = false) := fun h => by
        show ownOk _ = false
        have := fit_none (n := ⟨k, num, a, b, c, kids⟩) hj h
        simp [ownOk, this]
      have hLn := specName_calls (Nd.nm ⟨k, num, a, b, c, kids⟩ j)
      have hem := @empty_name (Nd.nm ⟨k, num, a, b, c, kids⟩ j)
      unfold fit at step fin
      generalize Nd.nm ⟨k, num, a, b, c, kids⟩ j = s at *
      generalize hnm : namesZ k = nm at *
      have eA' : Hid (wr.heap[w.heap.size]? = some (.cells #[.int .i64 k, .int .i64 num, .string a, .string b, .string c, .int .i64 kids] 81)) := eA
      have eN' : Hid (wr.heap[w.heap.size + 1]? = some (.cells #[.string a, .string b, .string c] 9)) := eN
      have hi3 : (j : Int) < 3 := by omega
      have htf : (true != false) = true := rfl
      have hft : (false != true) = true := rfl
      clear HA eA eN hnm
      by_cases hjn : (j : Int) < nm
      · rw [if_pos hjn] at step fin
        cases he : (s.toList == []) with
        | true =>
          have HF := fin (hem he)
          have HL : Hid (∀ w, _) := hLn
          clear hem step fin hLn
          go_wp2_with fail
          go_quiet (first | (go_at_call 101; refine Calls.quiet_of_same ((HN.out _).mono (fun _ _ h => ⟨h.1, h.2.symm⟩))))
          go_wp2_with fail
          go_ret
          exact ⟨by rw [HF.out]; rfl, below_drewN hnx _⟩
        | false =>
          cases hn : nameOk s with
          | true =>
            have HS := step hn
            rw [hn] at hLn
            have HL : Hid (∀ w, _) := hLn
            clear hem step fin hLn hn
            go_wp2_with fail
            go_region_held (fun w' => w'.cell? ⟨w.heap.size, 0, none⟩ = some (.int .i64 k) ∧ w'.cell? ⟨w.heap.size + 1, j, none⟩ = some (.string s)) (go_keep) (first | (go_at_call 101; refine (HN.out _).mono ?_; rintro e w2 ⟨rfl, rfl⟩) | (go_at_call 35; refine (HL.out _).mono ?_; rintro e w2 ⟨rfl, hb2⟩; have a0' := (hb2.cell (p := ⟨w.heap.size, 0, none⟩) hltA).trans a0; have cN' := (hb2.cell (p := ⟨w.heap.size + 1, j, none⟩) hltN).trans cN))
            all_goals
              have eA2 := (hb2.block w.heap.size hltA).trans eA'.out
              have eN2 := (hb2.block (w.heap.size + 1) hltN).trans eN'.out
              have hnx2 := hnx.drew.trans (hb2.mono hnx.size)
              clear hb2 a0 cN a0' cN'
              go_wp2_with fail
              exact ⟨⟨j + 1, by simp, by omega, HS, eA2, eN2, hnx2⟩, by simp [intOf]; omega⟩
          | false =>
            have HF := fin hn
            rw [hn] at hLn
            have HL : Hid (∀ w, _) := hLn
            clear hem step fin hLn hn
            go_wp2_with fail
            go_region_held (fun w' => w'.cell? ⟨w.heap.size, 0, none⟩ = some (.int .i64 k) ∧ w'.cell? ⟨w.heap.size + 1, j, none⟩ = some (.string s)) (go_keep) (first | (go_at_call 101; refine (HN.out _).mono ?_; rintro e w2 ⟨rfl, rfl⟩) | (go_at_call 35; refine (HL.out _).mono ?_; rintro e w2 ⟨rfl, hb2⟩; have a0' := (hb2.cell (p := ⟨w.heap.size, 0, none⟩) hltA).trans a0; have cN' := (hb2.cell (p := ⟨w.heap.size + 1, j, none⟩) hltN).trans cN))
            all_goals
              have hnx2 := hnx.drew.trans (hb2.mono hnx.size)
              clear hb2 a0 cN a0' cN'
              go_wp2_with fail
              go_ret
              exact ⟨by rw [HF.out]; rfl, hnx2⟩
      · rw [if_neg hjn] at step fin
        have hjd : decide ((j : Int) < nm) = false := decide_eq_false hjn
        have HL : Hid (∀ w, _) := hLn
        cases he : (s.toList == []) with
        | true =>
          have HS := step he
          clear hem step fin hLn
          go_wp2_with fail
          go_quiet (first | (go_at_call 101; refine Calls.quiet_of_same ((HN.out _).mono (fun _ _ h => ⟨h.1, h.2.symm⟩))))
          go_wp2_with fail
          exact ⟨⟨j + 1, by simp, by omega, HS, eA'.out, eN'.out, below_drewN hnx _⟩, by simp [intOf]; omega⟩
        | false =>
          have HF := fin he
          clear hem step fin hLn
          go_wp2_with fail
          go_quiet (first | (go_at_call 101; refine Calls.quiet_of_same ((HN.out _).mono (fun _ _ h => ⟨h.1, h.2.symm⟩))))
          go_wp2_with fail
          go_ret
          exact ⟨by rw [HF.out]; rfl, below_drewN hnx _⟩
    · have hnames : namesOk ⟨k, num, a, b, c, kids⟩ = true := fit_all (fun i hi => HA.out i (by omega))
      have hO : ownOk ⟨k, num, a, b, c, kids⟩ = (!(k == 20 && a.toList == b.toList) && numOk k num) := by simp [ownOk, hK, hnames, unlike]
      have a1 := cell_of_heap eA 1
      have a2 := cell_of_heap eA 2
      have a3 := cell_of_heap eA 3
      simp at a1 a2 a3
      have hnc := @names_case k
      have hm0 := @most_other k
      clear HA eA eN hnames
      generalize namesZ k = nm at *
      by_cases h20 : k = 20
      · subst h20
        have hnm1 : 1 < nm := hnc rfl
        cases hab : (a.toList == b.toList) with
        | true =>
          have HO : Hid (ownOk ⟨20, num, a, b, c, kids⟩ = false) := by show _ = _; rw [hO, hab]; rfl
          clear hO hnc hm0
          go_wp2_with (first | (go_at_call 101; refine (HN.out _).mono ?_; rintro e w2 ⟨rfl, rfl⟩))
          go_ret
          exact ⟨by rw [HO.out]; rfl, hnx⟩
        | false =>
          have HO : Hid (ownOk ⟨20, num, a, b, c, kids⟩ = (num == 0)) := by
            show _ = _
            rw [hO, hab, numOk, hm0 (by omega) (by omega), Bool.eq_iff_iff]
            simp
            omega
          clear hO hnc hm0
          go_wp2_with (first | (go_at_call 101; refine (HN.out _).mono ?_; rintro e w2 ⟨rfl, rfl⟩))
          go_ret
          exact ⟨by rw [HO.out]; rfl, hnx⟩
      · have h20' : (k == 20) = false := by rw [beq_eq_false_iff_ne]; exact h20
        rw [h20', Bool.false_and, Bool.not_false, Bool.true_and] at hO
        clear hnc h20
        by_cases h1 : k = 1
        · subst h1
          by_cases hn0 : 0 ≤ num
          · have HO : Hid (ownOk ⟨1, num, a, b, c, kids⟩ = decide (num ≤ 999999999)) := by
              exact hO.trans (num_one hn0)
            clear hO hm0 h20'
            go_wp2_with (first | (go_at_call 101; refine (HN.out _).mono ?_; rintro e w2 ⟨rfl, rfl⟩))
            all_goals
              go_ret
              exact ⟨by rw [HO.out]; rfl, hnx⟩
          · have HO : Hid (ownOk ⟨1, num, a, b, c, kids⟩ = false) := by
              exact hO.trans (num_one_neg hn0)
            clear hO hm0 h20'
            go_wp2_with (first | (go_at_call 101; refine (HN.out _).mono ?_; rintro e w2 ⟨rfl, rfl⟩))
            all_goals
              go_ret
              exact ⟨by rw [HO.out]; rfl, hnx⟩
        · by_cases h2 : k = 2
          · subst h2
            by_cases hn0 : num = 0
            · have hn0' : (num == 0) = true := by rw [hn0]; rfl
              have HO : Hid (ownOk ⟨2, num, a, b, c, kids⟩ = true) := by
                show _ = _
                rw [hO, numOk, most_two]
                simp
                omega
              clear hO hm0 h20' hn0
              go_wp2_with (first | (go_at_call 101; refine (HN.out _).mono ?_; rintro e w2 ⟨rfl, rfl⟩))
              all_goals
                go_ret
                exact ⟨by rw [HO.out]; rfl, hnx⟩
            · have hn0' : (num == 0) = false := by rw [beq_eq_false_iff_ne]; exact hn0
              have HO : Hid (ownOk ⟨2, num, a, b, c, kids⟩ = (num == 1)) := by
                show _ = _
                rw [hO, numOk, most_two, Bool.eq_iff_iff]
                simp
                omega
              clear hO hm0 h20' hn0
              go_wp2_with (first | (go_at_call 101; refine (HN.out _).mono ?_; rintro e w2 ⟨rfl, rfl⟩))
              all_goals
                go_ret
                exact ⟨by rw [HO.out]; rfl, hnx⟩
          · have HO : Hid (ownOk ⟨k, num, a, b, c, kids⟩ = (num == 0)) := by
              exact hO.trans (num_zero (hm0 h1 h2))
            have h1' : (k == 1) = false := by rw [beq_eq_false_iff_ne]; exact h1
            have h2' : (k == 2) = false := by rw [beq_eq_false_iff_ne]; exact h2
            clear hO hm0 h1 h2
            go_wp2_with (first | (go_at_call 101; refine (HN.out _).mono ?_; rintro e w2 ⟨rfl, rfl⟩))
            all_goals
              go_ret
              exact ⟨by rw [HO.out]; rfl, hnx⟩
end Go.Proofs.YtgiejnmphfgmgaaGreatDoor
