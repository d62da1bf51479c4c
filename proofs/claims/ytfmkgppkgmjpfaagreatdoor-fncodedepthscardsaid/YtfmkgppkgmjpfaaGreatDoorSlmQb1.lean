import Derived.Test.YtfmkgppkgmjpfaaGreatDoorSlmQb0
import Derived.Test.YtfmkgppkgmjpfaaGreatDoorShelf
import Derived.BigQuiet
import Derived.Deep.RegionWith
import Derived.Deep.RegionHeld
import Derived.BigRegion
import Derived.Test.YtfmkgppkgmjpfaaGreatDoorRows
import Derived.WalkKit
import Derived.ProofKit
import Derived.Deep.OwnRows
import Derived.Deep.Slices
import Derived.Laws.AppendOwn
import Derived.Lib.ItoaLen
import Derived.Lib.SmallJoins
import Derived.Deep.RegionHeld3
import Derived.Maps.AppendAt
import Derived.Deep.Cut
import Derived.Lib.SlicesCompact
import Derived.Sort.OwnSorted
import Derived.Laws.Bits64
import Derived.OwnWalk
import Derived.Laws.OwnMore
import Derived.Deep.CutRange
import Derived.Deep.CutBlock
namespace Go.Proofs.YtfmkgppkgmjpfaaGreatDoor
section
open Go.RowKit
def Nd.nm (n : Nd) : Nat → ByteArray
 | 0 => n.a
 | 1 => n.b
 | _ => n.c
def fit (nm : Int) (i : Nat) (s : ByteArray) : Bool := if (i : Int) < nm then nameOk s else s.toList == []
def kidsOk (k kids : Int) : Bool := if arityZ k = -1 then false else if arityZ k = -2 then decide (2 ≤ kids ∧ kids ≤ 6) else decide (kids = arityZ k)
def numOk (k num : Int) : Bool := decide (0 ≤ num ∧ num ≤ mostZ k)
def namesOk (n : Nd) : Bool := fit (namesZ n.kind) 0 n.a && (fit (namesZ n.kind) 1 n.b && fit (namesZ n.kind) 2 n.c)
def unlike (n : Nd) : Bool := !(n.kind == 20 && n.a.toList == n.b.toList)
def ownOk (n : Nd) : Bool := kidsOk n.kind n.kids && (namesOk n && (unlike n && numOk n.kind n.num))
theorem arity_range (k : Int) : arityZ k = -1 ∨ arityZ k = -2 ∨ (0 ≤ arityZ k ∧ arityZ k ≤ 3) := by
 rcases kinds k with rfl | rfl | rfl | rfl | rfl | rfl | rfl | rfl | rfl | rfl | rfl | rfl | rfl | rfl | rfl | rfl | rfl | rfl | rfl | rfl | rfl | rfl | rfl | rfl | rfl | rfl | h
 all_goals try decide
 exact Or.inl (tab_other h)
theorem names_case {k : Int} (h : k = 20) : 1 < namesZ k := by subst h; decide
theorem most_one : mostZ 1 = 999999999 := rfl
theorem most_two : mostZ 2 = 1 := rfl
theorem most_other {k : Int} (h1 : k ≠ 1) (h2 : k ≠ 2) : mostZ k = 0 := by
 rcases kinds k with rfl | rfl | rfl | rfl | rfl | rfl | rfl | rfl | rfl | rfl | rfl | rfl | rfl | rfl | rfl | rfl | rfl | rfl | rfl | rfl | rfl | rfl | rfl | rfl | rfl | rfl | h
 all_goals try (first | (exact absurd rfl h1) | (exact absurd rfl h2) | rfl)
 exact tab_other h
theorem num_one {num : Int} (h : 0 ≤ num) : numOk 1 num = decide (num ≤ 999999999) := by
 unfold numOk
 rw [most_one]
 exact decide_eq_decide.2 ⟨fun x => x.2, fun x => ⟨h, x⟩⟩
theorem num_one_neg {num : Int} (h : ¬ 0 ≤ num) : numOk 1 num = false := decide_eq_false (fun x => h x.1)
theorem num_zero {k num : Int} (h : mostZ k = 0) : numOk k num = (num == 0) := by
 unfold numOk
 rw [h, Bool.eq_iff_iff, decide_eq_true_iff, beq_iff_eq]
 omega
theorem empty_name {s : ByteArray} (h : (s.toList == []) = true) : nameOk s = false := by
 refine nameOk_size (fun hh => ?_)
 have h1 : s.toList = [] := by simpa using h
 rw [ByteArray.toList_eq] at h1
 have h2 : s.data.toList.length = 0 := by rw [h1]; rfl
 rw [Array.length_toList] at h2
 have : s.size = 0 := h2
 omega
theorem fit_all {n : Nd} (h : ∀ i, i < 3 → fit (namesZ n.kind) i (n.nm i) = true) : namesOk n = true := by
 have h0 := h 0 (by omega)
 have h1 := h 1 (by omega)
 have h2 := h 2 (by omega)
 simp only [Nd.nm] at h0 h1 h2
 simp [namesOk, h0, h1, h2]
theorem fit_none {n : Nd} {i : Nat} (hi : i < 3) (h : fit (namesZ n.kind) i (n.nm i) = false) : namesOk n = false := by
 match i, hi, h with
 | 0, _, h => simp only [Nd.nm] at h; simp [namesOk, h]
 | 1, _, h => simp only [Nd.nm] at h; simp [namesOk, h]
 | 2, _, h => simp only [Nd.nm] at h; simp [namesOk, h]
set_option maxHeartbeats 4000000 in
set_option maxRecDepth 100000 in
theorem own_many (k num : Int) (a b c : ByteArray) (kids : Int) (w : World) (hK : kidsOk k kids = true) (h2 : arityZ k = -2) (hk2 : 2 ≤ kids) (hk6 : kids ≤ 6) :
   Calls Tryz.prog 72 #[.agg #[.int .i64 k, .int .i64 num, .string a, .string b, .string c, .int .i64 kids]] w fun e w' => e = .returned (.bool (ownOk ⟨k, num, a, b, c, kids⟩)) ∧ Below w.heap.size w w' := by
 have HN : Hid (∀ w, _) := names_calls k
 have hac := arity_calls k
 rw [h2] at hac
 have HC : Hid (∀ w, _) := hac
 clear hac h2
 go_enter Tryz.func72, Tryz.ntmps72
 go_wp2_with (first | (go_at_call 89; refine (HC.out _).mono ?_; rintro e w2 ⟨rfl, rfl⟩))
 go_loopw [5] (fun i wr => ∃ j : Nat, i = .int .i64 j ∧ j ≤ 3 ∧ Hid (∀ i, i < j → fit (namesZ k) i (Nd.nm ⟨k, num, a, b, c, kids⟩ i) = true) ∧ wr.heap[w.heap.size]? = some (.cells #[.int .i64 k, .int .i64 num, .string a, .string b, .string c, .int .i64 kids] 116) ∧ wr.heap[w.heap.size + 1]? = some (.cells #[.string a, .string b, .string c] 9) ∧ Below w.heap.size w wr) (fun i _ => 3 - (intOf i).toNat)
 case atStart =>
   have e1 := (MapKept.heap_alloc w (.cells #[.int .i64 k, .int .i64 num, .string a, .string b, .string c, .int .i64 kids] 116)).1
   refine ⟨0, rfl, by omega, fun i hi => by omega, ?_, ?_, ((Below.refl _ _).alloc (Nat.le_refl _) _).alloc (by simp) _⟩
   · rw [Below.heap_alloc _ _ _ (by simp)]
     exact e1
   · have := (MapKept.heap_alloc (w.alloc (.cells #[.int .i64 k, .int .i64 num, .string a, .string b, .string c, .int .i64 kids] 116)) (.cells #[.string a, .string b, .string c] 9)).1
     simpa using this
 case round =>
   obtain ⟨j, rfl, hj3, HA, eA, eN, hnx⟩ := hrel
   have a0 := z11 eA 0
   simp at a0
   have hltA := z26 eA
   have hltN := z26 eN
   by_cases hj : j < 3
   · have cN : wr.cell? ⟨w.heap.size + 1, j, none⟩ = some (.string (Nd.nm ⟨k, num, a, b, c, kids⟩ j)) := by
       rw [z11 eN j]
       match j, hj with
       | 0, _ => rfl
       | 1, _ => rfl
       | 2, _ => rfl
     have step : fit (namesZ k) j (Nd.nm ⟨k, num, a, b, c, kids⟩ j) = true → Hid (∀ i, i < j + 1 → fit (namesZ k) i (Nd.nm ⟨k, num, a, b, c, kids⟩ i) = true) := fun h i hi => by
       by_cases e : i = j
       · rw [e]
         exact h
       · exact HA.out i (by omega)
     have fin : fit (namesZ k) j (Nd.nm ⟨k, num, a, b, c, kids⟩ j) = false → Hid (ownOk ⟨k, num, a, b, c, kids⟩ = false) := fun h => by
       show ownOk _ = false
       have := fit_none (n := ⟨k, num, a, b, c, kids⟩) hj h
       simp [ownOk, this]
     have hLn := specName_calls (Nd.nm ⟨k, num, a, b, c, kids⟩ j)
     have hem := @empty_name (Nd.nm ⟨k, num, a, b, c, kids⟩ j)
     unfold fit at step fin
     generalize Nd.nm ⟨k, num, a, b, c, kids⟩ j = s at *
     generalize hnm : namesZ k = nm at *
     have eA' : Hid (wr.heap[w.heap.size]? = some (.cells #[.int .i64 k, .int .i64 num, .string a, .string b, .string c, .int .i64 kids] 116)) := eA
     have eN' : Hid (wr.heap[w.heap.size + 1]? = some (.cells #[.string a, .string b, .string c] 9)) := eN
     have hi3 : (j : Int) < 3 := by omega
     have htf : (true != false) = true := rfl
     have hft : (false != true) = true := rfl
     clear HA eA eN hnm
     by_cases hjn : (j : Int) < nm
     · rw [if_pos hjn] at step fin
       cases he : (s.toList == []) with
       | true =>
         have HF := fin (hem he)
         have HL : Hid (∀ w, _) := hLn
         clear hem step fin hLn
         go_wp2_with fail
         go_quiet (first | (go_at_call 90; refine Calls.quiet_of_same ((HN.out _).mono (fun _ _ h => ⟨h.1, h.2.symm⟩))))
         go_wp2_with fail
         go_ret
         exact ⟨by rw [HF.out]; rfl, z62 hnx _⟩
       | false =>
         cases hn : nameOk s with
         | true =>
           have HS := step hn
           rw [hn] at hLn
           have HL : Hid (∀ w, _) := hLn
           clear hem step fin hLn hn
           go_wp2_with fail
           go_region_held (fun w' => w'.cell? ⟨w.heap.size, 0, none⟩ = some (.int .i64 k) ∧ w'.cell? ⟨w.heap.size + 1, j, none⟩ = some (.string s)) (go_keep) (first | (go_at_call 90; refine (HN.out _).mono ?_; rintro e w2 ⟨rfl, rfl⟩) | (go_at_call 45; refine (HL.out _).mono ?_; rintro e w2 ⟨rfl, hb2⟩; have a0' := (hb2.cell (p := ⟨w.heap.size, 0, none⟩) hltA).trans a0; have cN' := (hb2.cell (p := ⟨w.heap.size + 1, j, none⟩) hltN).trans cN))
           all_goals
             have eA2 := (hb2.block w.heap.size hltA).trans eA'.out
             have eN2 := (hb2.block (w.heap.size + 1) hltN).trans eN'.out
             have hnx2 := hnx.drew.trans (hb2.mono hnx.size)
             clear hb2 a0 cN a0' cN'
             go_wp2_with fail
             exact ⟨⟨j + 1, by simp, by omega, HS, eA2, eN2, hnx2⟩, by simp [intOf]; omega⟩
         | false =>
           have HF := fin hn
           rw [hn] at hLn
           have HL : Hid (∀ w, _) := hLn
           clear hem step fin hLn hn
           go_wp2_with fail
           go_region_held (fun w' => w'.cell? ⟨w.heap.size, 0, none⟩ = some (.int .i64 k) ∧ w'.cell? ⟨w.heap.size + 1, j, none⟩ = some (.string s)) (go_keep) (first | (go_at_call 90; refine (HN.out _).mono ?_; rintro e w2 ⟨rfl, rfl⟩) | (go_at_call 45; refine (HL.out _).mono ?_; rintro e w2 ⟨rfl, hb2⟩; have a0' := (hb2.cell (p := ⟨w.heap.size, 0, none⟩) hltA).trans a0; have cN' := (hb2.cell (p := ⟨w.heap.size + 1, j, none⟩) hltN).trans cN))
           all_goals
             have hnx2 := hnx.drew.trans (hb2.mono hnx.size)
             clear hb2 a0 cN a0' cN'
             go_wp2_with fail
             go_ret
             exact ⟨by rw [HF.out]; rfl, hnx2⟩
     · rw [if_neg hjn] at step fin
       have hjd : decide ((j : Int) < nm) = false := decide_eq_false hjn
       have HL : Hid (∀ w, _) := hLn
       cases he : (s.toList == []) with
       | true =>
         have HS := step he
         clear hem step fin hLn
         go_wp2_with fail
         go_quiet (first | (go_at_call 90; refine Calls.quiet_of_same ((HN.out _).mono (fun _ _ h => ⟨h.1, h.2.symm⟩))))
         go_wp2_with fail
         exact ⟨⟨j + 1, by simp, by omega, HS, eA'.out, eN'.out, z62 hnx _⟩, by simp [intOf]; omega⟩
       | false =>
         have HF := fin he
         clear hem step fin hLn
         go_wp2_with fail
         go_quiet (first | (go_at_call 90; refine Calls.quiet_of_same ((HN.out _).mono (fun _ _ h => ⟨h.1, h.2.symm⟩))))
         go_wp2_with fail
         go_ret
         exact ⟨by rw [HF.out]; rfl, z62 hnx _⟩
   · have hnames : namesOk ⟨k, num, a, b, c, kids⟩ = true := fit_all (fun i hi => HA.out i (by omega))
     have hO : ownOk ⟨k, num, a, b, c, kids⟩ = (!(k == 20 && a.toList == b.toList) && numOk k num) := by simp [ownOk, hK, hnames, unlike]
     have a1 := z11 eA 1
     have a2 := z11 eA 2
     have a3 := z11 eA 3
     simp at a1 a2 a3
     have hnc := @names_case k
     have hm0 := @most_other k
     clear HA eA eN hnames
     generalize namesZ k = nm at *
     by_cases h20 : k = 20
     · subst h20
       have hnm1 : 1 < nm := hnc rfl
       cases hab : (a.toList == b.toList) with
       | true =>
         have HO : Hid (ownOk ⟨20, num, a, b, c, kids⟩ = false) := by show _ = _; rw [hO, hab]; rfl
         clear hO hnc hm0
         go_wp2_with (first | (go_at_call 90; refine (HN.out _).mono ?_; rintro e w2 ⟨rfl, rfl⟩))
         go_ret
         exact ⟨by rw [HO.out]; rfl, hnx⟩
       | false =>
         have HO : Hid (ownOk ⟨20, num, a, b, c, kids⟩ = (num == 0)) := by
           show _ = _
           rw [hO, hab, numOk, hm0 (by omega) (by omega), Bool.eq_iff_iff]
           simp
           omega
         clear hO hnc hm0
         go_wp2_with (first | (go_at_call 90; refine (HN.out _).mono ?_; rintro e w2 ⟨rfl, rfl⟩))
         go_ret
         exact ⟨by rw [HO.out]; rfl, hnx⟩
     · have h20' : (k == 20) = false := by rw [beq_eq_false_iff_ne]; exact h20
       rw [h20', Bool.false_and, Bool.not_false, Bool.true_and] at hO
       clear hnc h20
       by_cases h1 : k = 1
       · subst h1
         by_cases hn0 : 0 ≤ num
         · have HO : Hid (ownOk ⟨1, num, a, b, c, kids⟩ = decide (num ≤ 999999999)) := by
             exact hO.trans (num_one hn0)
           clear hO hm0 h20'
           go_wp2_with (first | (go_at_call 90; refine (HN.out _).mono ?_; rintro e w2 ⟨rfl, rfl⟩))
           all_goals
             go_ret
             exact ⟨by rw [HO.out]; rfl, hnx⟩
         · have HO : Hid (ownOk ⟨1, num, a, b, c, kids⟩ = false) := by
             exact hO.trans (num_one_neg hn0)
           clear hO hm0 h20'
           go_wp2_with (first | (go_at_call 90; refine (HN.out _).mono ?_; rintro e w2 ⟨rfl, rfl⟩))
           all_goals
             go_ret
             exact ⟨by rw [HO.out]; rfl, hnx⟩
       · by_cases h2 : k = 2
         · subst h2
           by_cases hn0 : num = 0
           · have hn0' : (num == 0) = true := by rw [hn0]; rfl
             have HO : Hid (ownOk ⟨2, num, a, b, c, kids⟩ = true) := by
               show _ = _
               rw [hO, numOk, most_two]
               simp
               omega
             clear hO hm0 h20' hn0
             go_wp2_with (first | (go_at_call 90; refine (HN.out _).mono ?_; rintro e w2 ⟨rfl, rfl⟩))
             all_goals
               go_ret
               exact ⟨by rw [HO.out]; rfl, hnx⟩
           · have hn0' : (num == 0) = false := by rw [beq_eq_false_iff_ne]; exact hn0
             have HO : Hid (ownOk ⟨2, num, a, b, c, kids⟩ = (num == 1)) := by
               show _ = _
               rw [hO, numOk, most_two, Bool.eq_iff_iff]
               simp
               omega
             clear hO hm0 h20' hn0
             go_wp2_with (first | (go_at_call 90; refine (HN.out _).mono ?_; rintro e w2 ⟨rfl, rfl⟩))
             all_goals
               go_ret
               exact ⟨by rw [HO.out]; rfl, hnx⟩
         · have HO : Hid (ownOk ⟨k, num, a, b, c, kids⟩ = (num == 0)) := by
             exact hO.trans (num_zero (hm0 h1 h2))
           have h1' : (k == 1) = false := by rw [beq_eq_false_iff_ne]; exact h1
           have h2' : (k == 2) = false := by rw [beq_eq_false_iff_ne]; exact h2
           clear hO hm0 h1 h2
           go_wp2_with (first | (go_at_call 90; refine (HN.out _).mono ?_; rintro e w2 ⟨rfl, rfl⟩))
           all_goals
             go_ret
             exact ⟨by rw [HO.out]; rfl, hnx⟩
end
section
open Go.RowKit
def nodeOkZ (n : Nd) : Bool := ownOk n && !(n.kind == 26 && n.b.toList == n.c.toList)

end
section
open Go.RowKit Go.Deep
def SpecAns (ns : List Nd) (R : Bool) : Prop :=
 (¬ (1 ≤ ns.length ∧ ns.length ≤ 300) ∧ R = false) ∨
 (1 ≤ ns.length ∧ ns.length ≤ 300 ∧ treeEnd ns 0 ≠ ns.length ∧ R = false) ∨
 (1 ≤ ns.length ∧ ns.length ≤ 300 ∧ ∃ n k, ns = n :: k.flat ∧ n.kids = k.count ∧ k.wf ∧ R = (ns.all ownOk && (decide (k.deep + 1 ≤ 40) && specTree n k 0)))
def ImplAns (ns : List Nd) (R : Bool) : Prop :=
 (¬ (1 ≤ ns.length ∧ ns.length ≤ 300) ∧ R = false) ∨
 (1 ≤ ns.length ∧ ns.length ≤ 300 ∧ treeEnd ns 0 ≠ ns.length ∧ R = false) ∨
 (1 ≤ ns.length ∧ ns.length ≤ 300 ∧ ∃ n k, ns = n :: k.flat ∧ n.kids = k.count ∧ k.wf ∧ R = (ns.all nodeOkZ && (implTree n k && decide (k.deep + 1 ≤ 40))))
theorem all_both {α : Type} (p q : α → Bool) : ∀ l : List α, l.all (fun x => p x && q x) = (l.all p && l.all q)
 | [] => rfl
 | x :: l => by
   simp only [List.all_cons, all_both p q l]
   cases p x <;> cases q x <;> cases l.all p <;> cases l.all q <;> rfl
theorem answers (ns : List Nd) : ∃ R, SpecAns ns R ∧ ImplAns ns R := by
 by_cases hl : 1 ≤ ns.length ∧ ns.length ≤ 300
 · by_cases he : treeEnd ns 0 = ns.length
   · obtain ⟨n, k, h1, h2, h3⟩ := tree_of he
     refine ⟨_, Or.inr (Or.inr ⟨hl.1, hl.2, n, k, h1, h2, h3, rfl⟩), Or.inr (Or.inr ⟨hl.1, hl.2, n, k, h1, h2, h3, ?_⟩)⟩
     have e : ns.all nodeOkZ = (ns.all ownOk && ns.all ok26) := all_both ownOk ok26 ns
     rw [e, trees_eq, ← h1]
     cases ns.all ownOk <;> cases ns.all ok26 <;> cases implTree n k <;> cases decide (k.deep + 1 ≤ 40) <;> rfl
   · exact ⟨false, Or.inr (Or.inl ⟨hl.1, hl.2, he, rfl⟩), Or.inr (Or.inl ⟨hl.1, hl.2, he, rfl⟩)⟩
 · exact ⟨false, Or.inl ⟨hl, rfl⟩, Or.inl ⟨hl, rfl⟩⟩
theorem end_of_tree {ns : List Nd} {n : Nd} {k : Fo} (h1 : ns = n :: k.flat) (h2 : n.kids = k.count) (h3 : k.wf) : treeEnd ns 0 = (ns.length : Int) := by
 have := treeEnd_at (ns := ns) (p := 0) (n := n) (k := k) (suf := []) (by rw [h1]; simp) h2 h3
 rw [show ((0 : Nat) : Int) = 0 from rfl] at this
 rw [this, h1]
 simp
 omega
theorem all_take_succ {p : Nd → Bool} {ns : List Nd} {i : Nat} (hi : i < ns.length) (h : (ns.take i).all p = true) (hn : p (ns.getD i default) = true) : (ns.take (i + 1)).all p = true := by
 rw [List.take_succ_eq_append_getElem hi, List.all_append, h]
 simp only [List.getD, List.getElem?_eq_getElem hi] at hn
 simpa using hn
theorem all_false {p : Nd → Bool} {ns : List Nd} {i : Nat} (hi : i < ns.length) (hn : p (ns.getD i default) = false) : ns.all p = false := by
 rw [List.all_eq_false]
 simp only [List.getD, List.getElem?_eq_getElem hi] at hn
 exact ⟨ns[i], List.getElem_mem _, by simpa using hn⟩
def Rest (ns : List Nd) (R : Bool) (own : Nd → Bool) (tr : Nd → Fo → Bool) : Prop :=
 (ns.all own = false → R = false) ∧ (ns.all own = true → (treeEnd ns 0 ≠ (ns.length : Int) ∧ R = false) ∨ ∃ n k, ns = n :: k.flat ∧ n.kids = k.count ∧ k.wf ∧ treeEnd ns 0 = (ns.length : Int) ∧ R = (tr n k && decide (k.deep + 1 ≤ 40)))
theorem SpecAns.rest {ns : List Nd} {R : Bool} (h : SpecAns ns R) (hl : 1 ≤ ns.length ∧ ns.length ≤ 300) : Rest ns R ownOk (fun n k => specTree n k 0) := by
 rcases h with ⟨h, _⟩ | ⟨_, _, he, hR⟩ | ⟨_, _, n, k, h1, h2, h3, hR⟩
 · exact absurd hl h
 · exact ⟨fun _ => hR, fun _ => Or.inl ⟨he, hR⟩⟩
 · refine ⟨fun h => by rw [hR, h, Bool.false_and], fun h => Or.inr ⟨n, k, h1, h2, h3, end_of_tree h1 h2 h3, ?_⟩⟩
   rw [hR, h, Bool.true_and, Bool.and_comm]

end
section
open Go.RowKit Go.Deep
theorem flat_inj : ∀ (f g : Fo), f.wf → g.wf → f.count = g.count → ∀ (a b : List Nd), f.flat ++ a = g.flat ++ b → f = g ∧ a = b
 | .none, .none, _, _, _, a, b, h => ⟨rfl, h⟩
 | .none, .tree _ _ _, _, _, hc, _, _, _ => by simp [Fo.count] at hc
 | .tree _ _ _, .none, _, _, hc, _, _, _ => by simp [Fo.count] at hc
 | .tree n k r, .tree n' k' r', hf, hg, hc, a, b, h => by
   simp only [Fo.flat, List.cons_append, List.cons.injEq, List.append_assoc] at h
   obtain ⟨rfl, h⟩ := h
   have h1 := hf.1
   have h2 := hg.1
   obtain ⟨rfl, h4⟩ := flat_inj k k' hf.2.1 hg.2.1 (by omega) _ _ h
   obtain ⟨rfl, h5⟩ := flat_inj r r' hf.2.2 hg.2.2 (by simp only [Fo.count] at hc; omega) _ _ h4
   exact ⟨rfl, h5⟩
theorem tree_inj {ns : List Nd} {n n' : Nd} {k k' : Fo} (h1 : ns = n :: k.flat) (h2 : n.kids = k.count) (h3 : k.wf) (e1 : ns = n' :: k'.flat) (e2 : n'.kids = k'.count) (e3 : k'.wf) : n' = n ∧ k' = k := by
 rw [h1] at e1
 simp only [List.cons.injEq] at e1
 obtain ⟨rfl, e1⟩ := e1
 obtain ⟨rfl, -⟩ := flat_inj k k' h3 e3 (by omega) [] [] (by simpa using e1)
 exact ⟨rfl, rfl⟩

end
section
open Go.RowKit
theorem info_node : (Tryz.prog.info? 116).map (fun i => (i.zero, i.size, i.bytes)) = some (some (.agg #[.int .i64 0, .int .i64 0, .string ByteArray.empty, .string ByteArray.empty, .string ByteArray.empty, .int .i64 0]), 6, 72) := by kernel_rfl

end
section
open Go.RowKit Go.Deep Go.ChangeShapes Go.WideShapes
def NodeSlice (w : World) (v : Value) (ns : List Nd) : Prop :=
 ∃ a cap, v = .slice a ns.length cap ∧ (ns = [] ∨ ∃ b off, a = some ⟨b, off, none⟩ ∧ b < w.heap.size ∧ NodesAt w b off ns)

section
variable {H : Type} {enc : TypeId × Value → H} {W : World} {sp : Nat → Bool} {held : Bool}

end

end
section
open Go.RowKit Go.Deep Go.ChangeShapes Go.WideShapes

structure Ef where
 name : ByteArray
 arg : Int
 res : Int

instance : Inhabited Ef := ⟨⟨ByteArray.empty, 0, 0⟩⟩
def Ef.cell (n : Ef) : Nat → Value
 | 0 => .string n.name
 | 1 => .int .i64 n.arg
 | _ => .int .i64 n.res
def EffsAt (w : World) (b off : Nat) (es : List Ef) : Prop :=
 ∀ k, k < es.length → ∀ c, c < 3 → w.cell? ⟨b, off + k * 3 + c, none⟩ = some ((es.getD k default).cell c)
theorem EffsAt.below {w w' : World} {b off B : Nat} {es : List Ef} (h : EffsAt w b off es) (hb : Below B w w') (hB : b < B) : EffsAt w' b off es :=
 fun k hk c hc => (hb.cell hB).trans (h k hk c hc)

end
section
open Go.RowKit Go.Deep
def effIn (es : List Ef) (s : ByteArray) : Bool := es.any (fun e => e.name.toList == s.toList)
def effPlace : List Ef → ByteArray → Nat → Int
 | [], _, _ => -1
 | e :: r, s, i => if (e.name.toList == s.toList) = true then i else effPlace r s (i + 1)
theorem effPlace_lt : ∀ (es : List Ef) (s : ByteArray) (i : Nat), effPlace es s i < 0 ↔ effIn es s = false
 | [], s, i => by simp [effPlace, effIn]
 | e :: r, s, i => by
   have ih := effPlace_lt r s (i + 1)
   unfold effPlace
   simp only [effIn, List.any_cons] at *
   split
   · rename_i h
     rw [h]
     simp
   · rename_i h
     have h' : (e.name.toList == s.toList) = false := by simpa using h
     rw [h', Bool.false_or]
     exact ih
theorem effs_drop {es : List Ef} {i : Nat} (hi : i < es.length) : es.drop i = es.getD i default :: es.drop (i + 1) := by
 rw [List.drop_eq_getElem_cons hi]
 simp [List.getD, List.getElem?_eq_getElem hi]
set_option maxHeartbeats 1000000 in
set_option maxRecDepth 100000 in
theorem l2Eff_calls (a0 : Option Addr) (cap : Nat) (es : List Ef) (s : ByteArray) (w : World) (hm : es.length ≤ 1000000) (hn : es ≠ [] → ∃ b off, a0 = some ⟨b, off, none⟩ ∧ EffsAt w b off es) :
   Calls Tryz.prog 46 #[.slice a0 es.length cap, .string s] w fun e w' => e = .returned (.int .i64 (effPlace es s 0)) ∧ w = w' := by
 obtain ⟨len, hlen⟩ : ∃ len, es.length = len := ⟨_, rfl⟩
 have Hlen : Hid (es.length = len) := hlen
 have HM : Hid (len ≤ 1000000) := by show _ ≤ _; omega
 obtain ⟨R, hR⟩ : ∃ R, effPlace es s 0 = R := ⟨_, rfl⟩
 have HR : Hid (effPlace es s 0 = R) := hR
 have HN : Hid (es ≠ [] → ∃ b off, a0 = some ⟨b, off, none⟩ ∧ EffsAt w b off es) := hn
 rw [hlen, hR]
 clear hlen hR hm hn
 go_enter Tryz.func46, Tryz.ntmps46
 go_wp2_with fail
 go_loop [5] (fun i => ∃ k : Nat, i = .int .i64 k ∧ k ≤ len ∧ Hid (effPlace (es.drop k) s k = R)) (fun i => len - (intOf i).toNat)
 case atStart => exact ⟨0, rfl, Nat.zero_le _, HR.out⟩
 case round =>
   obtain ⟨k, rfl, hle, HT⟩ := hrel
   by_cases hlt : (k : Int) < (len : Int)
   · have hil : k < es.length := by rw [Hlen.out]; omega
     obtain ⟨b, off, rfl, hE⟩ := HN.out (fun h => by rw [h] at hil; cases hil)
     have c0 := hE k hil 0 (by omega)
     have hT := HT.out
     rw [effs_drop hil] at hT
     obtain ⟨n, hnd⟩ : ∃ n, es.getD k default = n := ⟨_, rfl⟩
     rw [hnd] at c0 hT
     simp only [Ef.cell, Nat.add_zero] at c0
     clear HT HN hil hE hnd
     cases he : (n.name.toList == s.toList) with
     | true =>
       simp only [effPlace, he, if_true] at hT
       have HT2 : Hid ((k : Int) = R) := hT
       clear hT
       go_wp2_with fail
       go_ret
       exact ⟨by rw [← HT2.out]; rfl, rfl⟩
     | false =>
       have HT2 : Hid (effPlace (es.drop (k + 1)) s (k + 1) = R) := by
         show _ = _
         rw [← hT, effPlace, he]
         simp
       clear hT
       go_wp2_with fail
       have hs : len - (intOf (.int .i64 ((k + 1 : Nat) : Int))).toNat < len - (intOf (.int .i64 (k : Int))).toNat := by simp only [intOf, Int.toNat_natCast]; omega
       try rw [show wrap64 ((k : Int) + 1) = ((k + 1 : Nat) : Int) by have := HM.out; unfold wrap64; omega]
       exact ⟨⟨k + 1, rfl, by omega, HT2⟩, hs⟩
   · have hT := HT.out
     rw [List.drop_eq_nil_of_le (by rw [Hlen.out]; omega)] at hT
     have HT2 : Hid ((-1 : Int) = R) := hT
     clear hT HT HN
     go_wp2_with fail
     go_ret
     exact ⟨by rw [← HT2.out]; rfl, rfl⟩

end
section
open Go.RowKit
theorem hid {p : Prop} (h : p) : Hid p := h
theorem kept_refl (w : World) (row : Option Nat) : w.grownBy w row := ⟨rfl, rfl, rfl, Nat.le_refl _, fun _ _ _ => rfl⟩
theorem kept_of_below {w w' : World} (h : Below w.heap.size w w') (row : Option Nat) : w.grownBy w' row := ⟨h.os, h.tape, h.output, h.size, fun k hk _ => h.block k hk⟩
theorem kept_set {w w' : World} {g : Nat} (h : w.grownBy w' (some g)) (i : Nat) (v : Value) : w.grownBy (w'.setCell ⟨g, i, none⟩ v) (some g) :=
 ⟨h.os, h.tape, h.output, by simpa [World.setCell] using h.size, fun k hk hne => (Below.heap_setCell _ _ _ _ (fun e => hne (by rw [e]))).trans (h.block k hk hne)⟩
theorem z58 {w w' : World} {base : Nat} {e : TypeId} {size : Nat} {v : Value} {n : Nat} {xs : List Value} (h : w.ownsRow base e size v n xs) (hb : Below w.heap.size w w') : w'.ownsRow base e size v n xs :=
 h.kept (kept_of_below hb none) (by cases hv : v.ownBlock <;> simp)
theorem one_below {w w2 : World} {o : Obj} (h : Below (w.alloc o).heap.size (w.alloc o) w2) : Below w.heap.size w w2 := (one_kept h).2
def Rw (w : World) (g : Nat) (t : TypeId) (N : Nat) (f : Nat → Value) (n : Nat) : Prop :=
 ∃ (c : Array Value) (fz : Nat × Nat), w.heap[g]? = some (.cells c t fz) ∧ c.size = N ∧ (∀ i, i < N → c[i]? = some (f i)) ∧ (fz = (0, 0) ∨ n ≤ fz.1)
theorem rw_of_row {w : World} {g : Nat} {t : TypeId} {N : Nat} {f : Nat → Value} (h : w.rowIs g t N f) (n : Nat) : Rw w g t N f n := by
 obtain ⟨c, hg, hs, hc⟩ := h
 exact ⟨c, (0, 0), hg, hs, hc, Or.inl rfl⟩

namespace Rw
variable {w : World} {g : Nat} {t : TypeId} {N n : Nat} {f : Nat → Value}
theorem cell (h : Rw w g t N f n) {i : Nat} (hi : i < N) : w.cell? ⟨g, i, none⟩ = some (f i) := by
 obtain ⟨c, fz, hg, hs, hc, _⟩ := h
 simp [World.cell?, hg, hc i hi]
theorem lt (h : Rw w g t N f n) : g < w.heap.size := by
 obtain ⟨c, fz, hg, _⟩ := h
 exact z26 hg

end Rw
def CellRow (t : TypeId) (w : World) (g n : Nat) (F : Nat → Value) : Prop :=
 ∃ N f, Rw w g t N f n ∧ n ≤ N ∧ ∀ i, i < n → f i = F i
theorem CellRow.lt {t : TypeId} {w : World} {g n : Nat} {F : Nat → Value} (h : CellRow t w g n F) : g < w.heap.size := by
 obtain ⟨N, f, hr, _⟩ := h
 exact hr.lt
theorem CellRow.cell {t : TypeId} {w : World} {g n : Nat} {F : Nat → Value} (h : CellRow t w g n F) {i : Nat} (hi : i < n) : w.cell? ⟨g, i, none⟩ = some (F i) := by
 obtain ⟨N, f, hr, h1, h2⟩ := h
 rw [hr.cell (by omega), h2 i hi]
theorem CellRow.congr {t : TypeId} {w : World} {g n : Nat} {F G : Nat → Value} (h : CellRow t w g n F) (e : ∀ i, i < n → F i = G i) : CellRow t w g n G := by
 obtain ⟨N, f, hr, h1, h2⟩ := h
 exact ⟨N, f, hr, h1, fun i hi => (h2 i hi).trans (e i hi)⟩
def SliceR (t : TypeId) (sz B : Nat) (w : World) (v : Value) (n : Nat) (F : Nat → Value) : Prop :=
 ∃ ad cap, v = .slice ad n cap ∧ (n = 0 ∨ ∃ g, ad = some ⟨g, 0, none⟩ ∧ B ≤ g ∧ CellRow t w g (n * sz) F)
theorem sliceR_of_owns {t : TypeId} {sz B : Nat} {w : World} {v : Value} {n : Nat} {xs : List Value} (h : w.ownsRow B t sz v n xs) : SliceR t sz B w v n (fun i => xs.getD i undef) := by
 rcases h.2 with ⟨rfl, hn⟩ | ⟨g, cap, cur, rfl, hB, hg, hnc, hcm, hsz, htake⟩
 · exact ⟨none, 0, by rw [hn], Or.inl hn⟩
 · refine ⟨_, cap, rfl, Or.inr ⟨g, rfl, hB, cur.size, fun i => cur.getD i undef, ⟨cur, (0, 0), hg, rfl, fun i hi => by simp [hi], Or.inl rfl⟩, by rw [hsz]; exact Nat.mul_le_mul_right _ hnc, fun i hi => ?_⟩⟩
   rw [← htake]
   simp only [List.getD, Array.getD_eq_getD_getElem?]
   rw [List.getElem?_take_of_lt hi, Array.getElem?_toList]
end
section
open Go.RowKit Go.Deep Go.ChangeShapes Go.WideShapes

structure In where
 op : Int
 a : Int
 b : Int
 c : Int

instance : Inhabited In := ⟨⟨0, 0, 0, 0⟩⟩
def In.cell (n : In) : Nat → Value
 | 0 => .int .i64 n.op
 | 1 => .int .i64 n.a
 | 2 => .int .i64 n.b
 | _ => .int .i64 n.c
def InsAt (w : World) (b off : Nat) (ns : List In) : Prop :=
 ∀ k, k < ns.length → ∀ c, c < 4 → w.cell? ⟨b, off + k * 4 + c, none⟩ = some ((ns.getD k default).cell c)
theorem InsAt.below {w w' : World} {b off B : Nat} {ns : List In} (h : InsAt w b off ns) (hb : Below B w w') (hB : b < B) : InsAt w' b off ns :=
 fun k hk c hc => (hb.cell hB).trans (h k hk c hc)
def InsSlice (w : World) (v : Value) (ns : List In) : Prop :=
 ∃ a cap, v = .slice a ns.length cap ∧ (ns = [] ∨ ∃ b off, a = some ⟨b, off, none⟩ ∧ b < w.heap.size ∧ InsAt w b off ns)
theorem InsSlice.below {w w' : World} {v : Value} {ns : List In} (h : InsSlice w v ns) (hb : Below w.heap.size w w') : InsSlice w' v ns := by
 obtain ⟨a, cap, rfl, h⟩ := h
 refine ⟨a, cap, rfl, h.imp id ?_⟩
 rintro ⟨b, off, rfl, hlt, hn⟩
 exact ⟨b, off, rfl, Nat.lt_of_lt_of_le hlt hb.size, hn.below hb hlt⟩

section
variable {H : Type} {enc : TypeId × Value → H} {W : World} {sp : Nat → Bool} {held : Bool}

end
theorem wrap_one {k len : Nat} (hk : k < len) (hm : len ≤ 1048576) : wrap64 ((k : Int) + 1) = ((k + 1 : Nat) : Int) := by
 unfold wrap64
 omega

end
section
open Go.RowKit Go.Deep

structure Tp where
 n : Nd
 k : Fo
 at_ : Nat

instance : Inhabited Tp := ⟨⟨default, .none, 0⟩⟩
def kidsAt : Fo → Nat → List Tp
 | .none, _ => []
 | .tree n k r, p => ⟨n, k, p⟩ :: kidsAt r (p + 1 + k.flat.length)
def Tp.kids (t : Tp) : List Tp := kidsAt t.k (t.at_ + 1)
def Tp.kid (t : Tp) (i : Nat) : Tp := t.kids.getD i default
def Tp.size (t : Tp) : Nat := t.k.flat.length + 1

structure Lt where
 t : Tp
 names : List ByteArray
 fr : Nat
 wh : Nat

structure Cs where
 out : List In
 later : List Lt
def Cs.put (s : Cs) (i : In) : Cs := ⟨s.out ++ [i], s.later⟩
def In.lead (i : In) (wh : Nat) (v : Int) : In := if wh = 0 then ⟨i.op, v, i.b, i.c⟩ else if wh = 1 then ⟨i.op, i.a, v, i.c⟩ else ⟨i.op, i.a, i.b, v⟩
def Cs.lead (s : Cs) (fr wh : Nat) : Cs := ⟨s.out.set fr ((s.out.getD fr default).lead wh s.out.length), s.later⟩
def Cs.wait (s : Cs) (l : Lt) : Cs := ⟨s.out, s.later ++ [l]⟩
def idxGo (ss : List ByteArray) (x : ByteArray) : Nat → Int
 | 0 => -1
 | i + 1 => if ((ss.getD i ⟨#[]⟩).toList == x.toList) = true then ((ss.length - 1 - i : Nat) : Int) else idxGo ss x i
def idxZ (ss : List ByteArray) (x : ByteArray) : Int := idxGo ss x ss.length
def lastZ (es : List Ef) (n : Nd) : In :=
 if n.kind = 7 then ⟨8, 0, 0, 0⟩ else if n.kind = 16 then ⟨15, 0, 0, 0⟩ else if n.kind = 17 then ⟨16, 0, 0, 0⟩ else if n.kind = 18 then ⟨17, 0, 0, 0⟩ else if n.kind = 19 then ⟨18, 0, 0, 0⟩ else if n.kind = 21 then ⟨20, 0, 0, 0⟩ else if n.kind = 22 then ⟨22, effPlace es n.a 0, 0, 0⟩ else ⟨14, n.kind, 0, 0⟩
def boundZ (go : Tp → List ByteArray → Cs → Cs) (t : Tp) (ss : List ByteArray) (s : Cs) : Cs := (go t ss (s.put ⟨12, 0, 0, 0⟩)).put ⟨13, 0, 0, 0⟩
def opZ (es : List Ef) (ss : List ByteArray) (s : Cs) (c : Tp) : Cs := (s.put ⟨25, effPlace es c.n.a 0, 0, 0⟩).wait ⟨c.kid 0, ss ++ [c.n.b, c.n.c], s.out.length, 1⟩
def handA (go : Tp → List ByteArray → Cs → Cs) (t : Tp) (ss : List ByteArray) (s : Cs) : Cs :=
 ((go (t.kid 0) ss (s.put ⟨21, 0, if t.n.kind = 23 then 1 else 0, 0⟩)).put ⟨23, 0, 0, 0⟩).lead s.out.length 0
def handB (t : Tp) (ss : List ByteArray) (s : Cs) : Cs := (s.put ⟨24, 0, t.n.kids - 2, 0⟩).wait ⟨(t.kid 1).kid 0, ss ++ [(t.kid 1).n.a], s.out.length, 0⟩
def handZ (es : List Ef) (go : Tp → List ByteArray → Cs → Cs) (t : Tp) (ss : List ByteArray) (s : Cs) : Cs :=
 ((t.kids.drop 2).foldl (opZ es ss) (handB t ss (handA go t ss s))).lead s.out.length 2
def ifZ (go : Tp → List ByteArray → Cs → Cs) (t : Tp) (ss : List ByteArray) (s : Cs) : Cs :=
 let s1 := go (t.kid 0) ss s
 let s2 := go (t.kid 1) ss (s1.put ⟨10, 0, 0, 0⟩)
 let s3 := go (t.kid 2) ss ((s2.put ⟨11, 0, 0, 0⟩).lead s1.out.length 0)
 s3.lead s2.out.length 0
def caseZ (go : Tp → List ByteArray → Cs → Cs) (t : Tp) (ss : List ByteArray) (s : Cs) : Cs :=
 let s1 := go (t.kid 0) ss s
 let s2 := ((go (t.kid 2) (ss ++ [t.n.a, t.n.b]) (s1.put ⟨19, 0, 0, 0⟩)).put ⟨13, 0, 0, 0⟩).put ⟨13, 0, 0, 0⟩
 let s3 := go (t.kid 1) ss ((s2.put ⟨11, 0, 0, 0⟩).lead s1.out.length 0)
 s3.lead s2.out.length 0
def partZ (es : List Ef) : Nat → Tp → List ByteArray → Cs → Cs
 | 0, _, _, s => s
 | f + 1, t, ss, s =>
   if t.n.kind = 1 then s.put ⟨1, t.n.num, 0, 0⟩ else
   if t.n.kind = 2 then s.put ⟨2, t.n.num, 0, 0⟩ else
   if t.n.kind = 3 then s.put ⟨3, 0, 0, 0⟩ else
   if t.n.kind = 4 then s.put ⟨4, 0, 0, 0⟩ else
   if t.n.kind = 5 then s.put ⟨5, idxZ ss t.n.a, 0, 0⟩ else
   if t.n.kind = 6 then (s.put ⟨6, 0, 0, 0⟩).wait ⟨t.kid 0, ss ++ [t.n.a], s.out.length, 0⟩ else
   if t.n.kind = 8 then boundZ (partZ es f) (t.kid 1) (ss ++ [t.n.a]) (partZ es f (t.kid 0) ss s) else
   if t.n.kind = 9 then boundZ (partZ es f) (t.kid 1) (ss ++ [t.n.a]) ((s.put ⟨7, 0, 0, 0⟩).wait ⟨t.kid 0, ss ++ [t.n.a, t.n.b], s.out.length, 0⟩) else
   if t.n.kind = 10 then ifZ (partZ es f) t ss s else
   if t.n.kind = 20 then caseZ (partZ es f) t ss s else
   if t.n.kind = 23 ∨ t.n.kind = 24 then handZ es (partZ es f) t ss s else
   (t.kids.foldl (fun s c => partZ es f c ss s) s).put (lastZ es t.n)
def restZ (es : List Ef) : Nat → Nat → Cs → Cs
 | 0, _, s => s
 | m + 1, i, s => if i < s.later.length then
     let l := s.later.getD i ⟨default, [], 0, 0⟩
     restZ es m (i + 1) ((partZ es 400 l.t l.names (s.lead l.fr l.wh)).put ⟨9, 0, 0, 0⟩) else s
def codeZ (es : List Ef) (n : Nd) (k : Fo) : List In := (restZ es 400 0 ((partZ es 400 ⟨n, k, 0⟩ [] ⟨[], []⟩).put ⟨0, 0, 0, 0⟩)).out
def headsZ (k : Fo) : Prop := ∀ t ∈ (kidsAt k 0).drop 1, t.n.kids = 1
def goodF : Fo → Prop
 | .none => True
 | .tree n k r => n.kids = k.count ∧ kidsOk n.kind n.kids = true ∧ (n.kind = 23 ∨ n.kind = 24 → headsZ k) ∧ goodF k ∧ goodF r
theorem goodF.wf : ∀ {f : Fo}, goodF f → f.wf
 | .none, _ => trivial
 | .tree _ _ _, h => ⟨h.1, h.2.2.2.1.wf, h.2.2.2.2.wf⟩

structure Good (t : Tp) : Prop where
 kids : t.n.kids = t.k.count
 own : kidsOk t.n.kind t.n.kids = true
 heads : t.n.kind = 23 ∨ t.n.kind = 24 → headsZ t.k
 good : goodF t.k

structure Stands (ns : List Nd) (t : Tp) : Prop extends Good t where
 drop : ∃ suf, ns.drop t.at_ = t.n :: (t.k.flat ++ suf)
theorem kidsAt_len : ∀ (f : Fo) (p : Nat), (kidsAt f p).length = f.count
 | .none, _ => rfl
 | .tree n k r, p => by simp [kidsAt, Fo.count, kidsAt_len r]
theorem kidsAt_sum : ∀ (f : Fo) (p : Nat), ((kidsAt f p).map Tp.size).sum = f.flat.length
 | .none, _ => rfl
 | .tree n k r, p => by
   simp only [kidsAt, Fo.flat, List.map_cons, List.sum_cons, kidsAt_sum r, List.length_cons, List.length_append, Tp.size]
   omega
theorem kidsAt_mem : ∀ (f : Fo) (p : Nat) (ns suf : List Nd), goodF f → ns.drop p = f.flat ++ suf → ∀ t ∈ kidsAt f p, Stands ns t
 | .none, p, ns, suf, _, _, t, h => by simp [kidsAt] at h
 | .tree n k r, p, ns, suf, hg, hd, t, h => by
   obtain ⟨h1, h2, h3, h4, h5⟩ := hg
   simp only [Fo.flat, List.cons_append, List.append_assoc] at hd
   rw [kidsAt, List.mem_cons] at h
   rcases h with rfl | h
   · exact ⟨⟨h1, h2, h3, h4⟩, ⟨_, hd⟩⟩
   · refine kidsAt_mem r _ ns suf h5 ?_ t h
     rw [show p + 1 + k.flat.length = p + (1 + k.flat.length) by omega, ← List.drop_drop, hd, Nat.add_comm 1, List.drop_succ_cons, List.drop_left]
theorem kidsAt_place : ∀ (f : Fo) (p q : Nat), (kidsAt f q).map (fun t => (t.n, t.k)) = (kidsAt f p).map (fun t => (t.n, t.k))
 | .none, _, _ => rfl
 | .tree n k r, p, q => by
   simp only [kidsAt, List.map_cons]
   rw [kidsAt_place r (p + 1 + k.flat.length)]
theorem Tp.kids_len (t : Tp) : t.kids.length = t.k.count := kidsAt_len _ _
theorem Tp.kids_sum (t : Tp) : (t.kids.map Tp.size).sum + 1 = t.size := by
 have := kidsAt_sum t.k (t.at_ + 1)
 unfold Tp.kids
 rw [this]
 rfl
theorem Stands.kids_mem {ns : List Nd} {t : Tp} (h : Stands ns t) : ∀ c ∈ t.kids, Stands ns c := by
 obtain ⟨suf, hd⟩ := h.drop
 refine kidsAt_mem t.k _ ns suf h.good ?_
 rw [← List.drop_drop, hd]
 rfl
theorem Tp.kid_mem {t : Tp} {i : Nat} (h : i < t.k.count) : t.kid i ∈ t.kids := getD_mem' (by rw [t.kids_len]; exact h)
where
 getD_mem' {l : List Tp} {k : Nat} (h : k < l.length) : l.getD k default ∈ l := by
   rw [show l.getD k default = l[k] by simp [List.getD, h]]
   exact List.getElem_mem h
theorem Stands.kid {ns : List Nd} {t : Tp} (h : Stands ns t) {i : Nat} (hi : i < t.k.count) : Stands ns (t.kid i) := h.kids_mem _ (Tp.kid_mem hi)
theorem Stands.head {ns : List Nd} {t : Tp} (h : Stands ns t) (hk : t.n.kind = 23 ∨ t.n.kind = 24) : ∀ c ∈ t.kids.drop 1, c.n.kids = 1 ∧ c.k.count = 1 := fun c hc => by
 have h1 := h.heads hk
 have hs := h.kids_mem c (List.mem_of_mem_drop hc)
 have e : ∃ c' ∈ (kidsAt t.k 0).drop 1, (c'.n, c'.k) = (c.n, c.k) := by
   have h2 := congrArg (List.drop 1) (kidsAt_place t.k 0 (t.at_ + 1))
   rw [← List.map_drop, ← List.map_drop] at h2
   have h3 : (c.n, c.k) ∈ ((kidsAt t.k (t.at_ + 1)).drop 1).map (fun t => (t.n, t.k)) := List.mem_map_of_mem (f := fun t : Tp => (t.n, t.k)) hc
   rw [h2, List.mem_map] at h3
   obtain ⟨c', h4, h5⟩ := h3
   exact ⟨c', h4, h5⟩
 obtain ⟨c', hc', e⟩ := e
 have h6 := h1 c' hc'
 simp only [Prod.mk.injEq] at e
 rw [e.1] at h6
 have h7 := hs.kids
 exact ⟨h6, by omega⟩
theorem role_two (pk : Int) (i : Nat) (h : pk = 23 ∨ pk = 24) (hi : 1 ≤ i) : role pk i = 1 ∨ role pk i = 2 := by
 unfold role
 rw [if_pos h]
 split <;> omega
theorem head_kids {m : Nd} {c : Nat} (h : headOk m c = true) (hc : c = 1 ∨ c = 2) (ho : ownOk m = true) : m.kids = 1 := by
 unfold headOk at h
 simp only [Bool.and_eq_true] at h
 unfold ownOk at ho
 simp only [Bool.and_eq_true] at ho
 have hk := ho.1
 rcases hc with rfl | rfl
 · have e : m.kind = 25 := by simpa using h.1.1
   rw [e] at hk
   exact of_decide_eq_true hk
 · have e : m.kind = 26 := by simpa using h.1.2
   rw [e] at hk
   exact of_decide_eq_true hk
theorem spec_heads : ∀ (f : Fo) (pk : Int) (i p : Nat) (ops : List ByteArray), (pk = 23 ∨ pk = 24) → (∀ m ∈ f.flat, ownOk m = true) → specKids f pk i ops = true → 1 ≤ i → ∀ t ∈ kidsAt f p, t.n.kids = 1
 | .none, pk, i, p, ops, _, _, _, _, t, h => by simp [kidsAt] at h
 | .tree n k r, pk, i, p, ops, hp, ho, hs, hi, t, h => by
   simp only [specKids, Bool.and_eq_true] at hs
   rw [kidsAt, List.mem_cons] at h
   rcases h with rfl | h
   · exact head_kids hs.1 (role_two pk i hp hi) (ho n (by simp [Fo.flat]))
   · have ho' : ∀ m ∈ r.flat, ownOk m = true := fun m hm => ho m (by simp [Fo.flat, hm])
     have h2 := hs.2.2
     split at h2
     · rw [Bool.and_eq_true] at h2
       exact spec_heads r pk (i + 1) _ _ hp ho' h2.2 (by omega) t h
     · exact spec_heads r pk (i + 1) _ _ hp ho' h2 (by omega) t h
theorem heads_of (k : Fo) (pk : Int) (hp : pk = 23 ∨ pk = 24) (ho : ∀ m ∈ k.flat, ownOk m = true) (hs : specKids k pk 0 [] = true) : headsZ k := by
 cases k with
 | none => exact fun t h => by simp [kidsAt] at h
 | tree n k r =>
   intro t h
   rw [kidsAt, List.drop_succ_cons, List.drop_zero] at h
   simp only [specKids, Bool.and_eq_true] at hs
   have h2 := hs.2.2
   have ho' : ∀ m ∈ r.flat, ownOk m = true := fun m hm => ho m (by simp [Fo.flat, hm])
   split at h2
   · rw [Bool.and_eq_true] at h2
     exact spec_heads r pk (0 + 1) _ _ hp ho' h2.2 (by omega) t h
   · exact spec_heads r pk (0 + 1) _ _ hp ho' h2 (by omega) t h
theorem good_of : ∀ (f : Fo) (pk : Int) (i : Nat) (ops : List ByteArray), f.wf → (∀ m ∈ f.flat, ownOk m = true) → specKids f pk i ops = true → goodF f
 | .none, _, _, _, _, _, _ => trivial
 | .tree n k r, pk, i, ops, hw, ho, hs => by
   simp only [specKids, Bool.and_eq_true] at hs
   have hk : ∀ m ∈ k.flat, ownOk m = true := fun m hm => ho m (by simp [Fo.flat, hm])
   have hr : ∀ m ∈ r.flat, ownOk m = true := fun m hm => ho m (by simp [Fo.flat, hm])
   have hn := ho n (by simp [Fo.flat])
   unfold ownOk at hn
   rw [Bool.and_eq_true] at hn
   refine ⟨hw.1, hn.1, fun h => heads_of k n.kind h hk hs.2.1, good_of k n.kind 0 [] hw.2.1 hk hs.2.1, ?_⟩
   have h2 := hs.2.2
   split at h2
   · rw [Bool.and_eq_true] at h2
     exact good_of r pk (i + 1) _ hw.2.2 hr h2.2
   · exact good_of r pk (i + 1) _ hw.2.2 hr h2
theorem stands_of {ns : List Nd} {n : Nd} {k : Fo} (hA : SpecAns ns true) (h1 : ns = n :: k.flat) (h2 : n.kids = k.count) (h3 : k.wf) : Stands ns ⟨n, k, 0⟩ := by
 rcases hA with ⟨-, h⟩ | ⟨-, -, -, h⟩ | ⟨-, -, n', k', e1, e2, e3, hR⟩
 · cases h
 · cases h
 obtain ⟨rfl, rfl⟩ := tree_inj h1 h2 h3 e1 e2 e3
 have hR' := hR.symm
 rw [Bool.and_eq_true, Bool.and_eq_true] at hR'
 obtain ⟨ho, -, hs⟩ := hR'
 unfold specTree at hs
 rw [Bool.and_eq_true] at hs
 have ho' : ∀ m ∈ ns, ownOk m = true := fun m hm => List.all_eq_true.1 ho m hm
 have hn := ho' n' (by rw [e1]; simp)
 have hk : ∀ m ∈ k'.flat, ownOk m = true := fun m hm => ho' m (by rw [e1]; simp [hm])
 unfold ownOk at hn
 rw [Bool.and_eq_true] at hn
 exact ⟨⟨e2, hn.1, fun h => heads_of k' n'.kind h hk hs.2, good_of k' n'.kind 0 [] e3 hk hs.2⟩, ⟨[], by rw [e1]; simp⟩⟩
end
section
open Go.RowKit Go.Deep
def Cs.rest (s : Cs) : Nat := (s.later.map (fun l => l.t.size)).sum
def LOk (ns : List Nd) (K : Nat) (s : Cs) : Prop := ∀ l ∈ s.later, Stands ns l.t ∧ (l.names.length + 2 * l.t.size ≤ K ∧ (l.wh = 0 ∨ l.wh = 1)) ∧ l.fr < s.out.length

structure Rs (ns : List Nd) (K c z : Nat) (s s' : Cs) : Prop where
 cost : s'.out.length + 10 * s'.rest ≤ s.out.length + 10 * s.rest + c
 rest : s'.rest ≤ s.rest + z
 out : s.out.length ≤ s'.out.length
 len : s.later.length ≤ s'.later.length
 ok : LOk ns K s → LOk ns K s'
 pre : ∃ r, s'.later = s.later ++ r
theorem Rs.refl (ns : List Nd) (K : Nat) (s : Cs) : Rs ns K 0 0 s s := ⟨Nat.le_refl _, Nat.le_refl _, Nat.le_refl _, Nat.le_refl _, id, [], by simp⟩
theorem Rs.trans {ns : List Nd} {K c z c' z' : Nat} {s s' s'' : Cs} (h : Rs ns K c z s s') (h' : Rs ns K c' z' s' s'') : Rs ns K (c + c') (z + z') s s'' :=
 ⟨by have := h.cost; have := h'.cost; omega, by have := h.rest; have := h'.rest; omega, Nat.le_trans h.out h'.out, Nat.le_trans h.len h'.len, fun x => h'.ok (h.ok x), by
   obtain ⟨r, e⟩ := h.pre
   obtain ⟨r', e'⟩ := h'.pre
   exact ⟨r ++ r', by rw [e', e, List.append_assoc]⟩⟩
theorem Rs.mono {ns : List Nd} {K c z c' z' : Nat} {s s' : Cs} (h : Rs ns K c z s s') (hc : c ≤ c') (hz : z ≤ z') : Rs ns K c' z' s s' :=
 ⟨by have := h.cost; omega, by have := h.rest; omega, h.out, h.len, h.ok, h.pre⟩
theorem Rs.put (ns : List Nd) (K : Nat) (s : Cs) (i : In) : Rs ns K 1 0 s (s.put i) := by
 refine ⟨?_, Nat.le_refl _, ?_, Nat.le_refl _, fun h l hl => ?_, [], by simp [Cs.put]⟩
 · simp only [Cs.put, Cs.rest, List.length_append, List.length_singleton]; omega
 · simp only [Cs.put, List.length_append]; omega
 · obtain ⟨h1, h2, h3⟩ := h l hl
   refine ⟨h1, h2, ?_⟩
   simp only [Cs.put, List.length_append]
   omega
theorem lead_len (s : Cs) (fr wh : Nat) : (s.lead fr wh).out.length = s.out.length := by simp [Cs.lead]
theorem Rs.lead (ns : List Nd) (K : Nat) (s : Cs) (fr wh : Nat) : Rs ns K 0 0 s (s.lead fr wh) := by
 refine ⟨?_, Nat.le_refl _, by rw [lead_len]; exact Nat.le_refl _, Nat.le_refl _, fun h l hl => ?_, [], by simp [Cs.lead]⟩
 · rw [lead_len]; exact Nat.le_refl _
 · obtain ⟨h1, h2, h3⟩ := h l hl
   exact ⟨h1, h2, by rw [lead_len]; exact h3⟩
theorem Rs.wait {ns : List Nd} {K : Nat} {s : Cs} {l : Lt} (h1 : Stands ns l.t) (h2 : l.names.length + 2 * l.t.size ≤ K) (h3 : l.fr < s.out.length) (h4 : l.wh = 0 ∨ l.wh = 1 := by simp) : Rs ns K (10 * l.t.size) l.t.size s (s.wait l) := by
 refine ⟨?_, ?_, Nat.le_refl _, ?_, fun h l' hl => ?_, [l], rfl⟩
 · simp only [Cs.wait, Cs.rest, List.map_append, List.map_cons, List.map_nil, List.sum_append, List.sum_cons, List.sum_nil]; omega
 · simp only [Cs.wait, Cs.rest, List.map_append, List.map_cons, List.map_nil, List.sum_append, List.sum_cons, List.sum_nil]; omega
 · simp only [Cs.wait, List.length_append]; omega
 · simp only [Cs.wait, List.mem_append, List.mem_singleton] at hl
   rcases hl with hl | rfl
   · exact h l' hl
   · exact ⟨h1, ⟨h2, h4⟩, h3⟩
theorem kids_of (t : Tp) {c : Nat} (h : t.k.count = c) : t.kids.length = c := by rw [t.kids_len, h]
theorem kids1 {t : Tp} (h : t.k.count = 1) : t.kids = [t.kid 0] ∧ (t.kid 0).size + 1 = t.size := by
 have hl := kids_of t h
 have hs := t.kids_sum
 unfold Tp.kid
 match hk : t.kids, hl with
 | [a], _ => rw [hk] at hs; simp at hs ⊢; omega
theorem kids2 {t : Tp} (h : t.k.count = 2) : t.kids = [t.kid 0, t.kid 1] ∧ (t.kid 0).size + (t.kid 1).size + 1 = t.size := by
 have hl := kids_of t h
 have hs := t.kids_sum
 unfold Tp.kid
 match hk : t.kids, hl with
 | [a, b], _ => rw [hk] at hs; simp at hs ⊢; omega
theorem kids3 {t : Tp} (h : t.k.count = 3) : t.kids = [t.kid 0, t.kid 1, t.kid 2] ∧ (t.kid 0).size + (t.kid 1).size + (t.kid 2).size + 1 = t.size := by
 have hl := kids_of t h
 have hs := t.kids_sum
 unfold Tp.kid
 match hk : t.kids, hl with
 | [a, b, c], _ => rw [hk] at hs; simp at hs ⊢; omega
theorem kidsM {t : Tp} (h : 2 ≤ t.k.count) : t.kids = t.kid 0 :: t.kid 1 :: t.kids.drop 2 ∧ (t.kid 0).size + (t.kid 1).size + ((t.kids.drop 2).map Tp.size).sum + 1 = t.size := by
 have hl := t.kids_len
 have hs := t.kids_sum
 unfold Tp.kid
 match hk : t.kids with
 | [] => rw [hk] at hl; simp at hl; omega
 | [a] => rw [hk] at hl; simp at hl; omega
 | a :: b :: r => rw [hk] at hs; simp at hs ⊢; omega
theorem arity_at {t : Tp} (h : Good t) : arityZ t.n.kind ≠ -1 ∧ (arityZ t.n.kind = -2 → 2 ≤ t.k.count ∧ t.k.count ≤ 6) ∧ (arityZ t.n.kind ≠ -2 → (t.k.count : Int) = arityZ t.n.kind) := by
 have h1 := h.own
 have h2 := h.kids
 unfold kidsOk at h1
 split at h1
 · cases h1
 · rename_i e
   refine ⟨e, fun e2 => ?_, fun e2 => ?_⟩
   · rw [if_pos e2] at h1
     have := of_decide_eq_true h1
     omega
   · rw [if_neg e2] at h1
     have := of_decide_eq_true h1
     omega
theorem z67 {t : Tp} (h : Good t) {k : Int} (hk : t.n.kind = k) {c : Nat} (ha : arityZ k = (c : Int)) : t.k.count = c := by
 have h3 := (arity_at h).2.2
 rw [hk] at h3
 have := h3 (by omega)
 omega
theorem part1 {es : List Ef} {f : Nat} {t : Tp} {ss : List ByteArray} {s : Cs} (h : t.n.kind = 1) : partZ es (f + 1) t ss s = s.put ⟨1, t.n.num, 0, 0⟩ := by
 rw [partZ, if_pos h]
theorem part2 {es : List Ef} {f : Nat} {t : Tp} {ss : List ByteArray} {s : Cs} (h : t.n.kind = 2) : partZ es (f + 1) t ss s = s.put ⟨2, t.n.num, 0, 0⟩ := by
 rw [partZ, if_neg (by omega), if_pos h]
theorem part3 {es : List Ef} {f : Nat} {t : Tp} {ss : List ByteArray} {s : Cs} (h : t.n.kind = 3) : partZ es (f + 1) t ss s = s.put ⟨3, 0, 0, 0⟩ := by
 rw [partZ, if_neg (by omega), if_neg (by omega), if_pos h]
theorem part4 {es : List Ef} {f : Nat} {t : Tp} {ss : List ByteArray} {s : Cs} (h : t.n.kind = 4) : partZ es (f + 1) t ss s = s.put ⟨4, 0, 0, 0⟩ := by
 rw [partZ, if_neg (by omega), if_neg (by omega), if_neg (by omega), if_pos h]
theorem part5 {es : List Ef} {f : Nat} {t : Tp} {ss : List ByteArray} {s : Cs} (h : t.n.kind = 5) : partZ es (f + 1) t ss s = s.put ⟨5, idxZ ss t.n.a, 0, 0⟩ := by
 rw [partZ, if_neg (by omega), if_neg (by omega), if_neg (by omega), if_neg (by omega), if_pos h]
theorem part6 {es : List Ef} {f : Nat} {t : Tp} {ss : List ByteArray} {s : Cs} (h : t.n.kind = 6) : partZ es (f + 1) t ss s = (s.put ⟨6, 0, 0, 0⟩).wait ⟨t.kid 0, ss ++ [t.n.a], s.out.length, 0⟩ := by
 rw [partZ, if_neg (by omega), if_neg (by omega), if_neg (by omega), if_neg (by omega), if_neg (by omega), if_pos h]
theorem part8 {es : List Ef} {f : Nat} {t : Tp} {ss : List ByteArray} {s : Cs} (h : t.n.kind = 8) : partZ es (f + 1) t ss s = boundZ (partZ es f) (t.kid 1) (ss ++ [t.n.a]) (partZ es f (t.kid 0) ss s) := by
 rw [partZ, if_neg (by omega), if_neg (by omega), if_neg (by omega), if_neg (by omega), if_neg (by omega), if_neg (by omega), if_pos h]
theorem part9 {es : List Ef} {f : Nat} {t : Tp} {ss : List ByteArray} {s : Cs} (h : t.n.kind = 9) : partZ es (f + 1) t ss s = boundZ (partZ es f) (t.kid 1) (ss ++ [t.n.a]) ((s.put ⟨7, 0, 0, 0⟩).wait ⟨t.kid 0, ss ++ [t.n.a, t.n.b], s.out.length, 0⟩) := by
 rw [partZ, if_neg (by omega), if_neg (by omega), if_neg (by omega), if_neg (by omega), if_neg (by omega), if_neg (by omega), if_neg (by omega), if_pos h]
theorem part10 {es : List Ef} {f : Nat} {t : Tp} {ss : List ByteArray} {s : Cs} (h : t.n.kind = 10) : partZ es (f + 1) t ss s = ifZ (partZ es f) t ss s := by
 rw [partZ, if_neg (by omega), if_neg (by omega), if_neg (by omega), if_neg (by omega), if_neg (by omega), if_neg (by omega), if_neg (by omega), if_neg (by omega), if_pos h]
theorem part20 {es : List Ef} {f : Nat} {t : Tp} {ss : List ByteArray} {s : Cs} (h : t.n.kind = 20) : partZ es (f + 1) t ss s = caseZ (partZ es f) t ss s := by
 rw [partZ, if_neg (by omega), if_neg (by omega), if_neg (by omega), if_neg (by omega), if_neg (by omega), if_neg (by omega), if_neg (by omega), if_neg (by omega), if_neg (by omega), if_pos h]
theorem partH {es : List Ef} {f : Nat} {t : Tp} {ss : List ByteArray} {s : Cs} (h : t.n.kind = 23 ∨ t.n.kind = 24) : partZ es (f + 1) t ss s = handZ es (partZ es f) t ss s := by
 rw [partZ, if_neg (by omega), if_neg (by omega), if_neg (by omega), if_neg (by omega), if_neg (by omega), if_neg (by omega), if_neg (by omega), if_neg (by omega), if_neg (by omega), if_neg (by omega), if_pos h]
theorem partK {es : List Ef} {f : Nat} {t : Tp} {ss : List ByteArray} {s : Cs} (h1 : t.n.kind ≠ 1) (h2 : t.n.kind ≠ 2) (h3 : t.n.kind ≠ 3) (h4 : t.n.kind ≠ 4) (h5 : t.n.kind ≠ 5) (h6 : t.n.kind ≠ 6) (h8 : t.n.kind ≠ 8) (h9 : t.n.kind ≠ 9) (h10 : t.n.kind ≠ 10) (h20 : t.n.kind ≠ 20) (h23 : t.n.kind ≠ 23) (h24 : t.n.kind ≠ 24) : partZ es (f + 1) t ss s = (t.kids.foldl (fun s c => partZ es f c ss s) s).put (lastZ es t.n) := by
 rw [partZ, if_neg h1, if_neg h2, if_neg h3, if_neg h4, if_neg h5, if_neg h6, if_neg h8, if_neg h9, if_neg h10, if_neg h20, if_neg (by omega)]

section
variable {ns : List Nd} {K : Nat} {es : List Ef}
def PartR (ns : List Nd) (K : Nat) (go : Tp → List ByteArray → Cs → Cs) (F : Nat) : Prop := ∀ t ss s, t.size ≤ F → Stands ns t → ss.length + 2 * t.size ≤ K → Rs ns K (10 * t.size - 1) (t.size - 1) s (go t ss s)
theorem Tp.size_pos (t : Tp) : 1 ≤ t.size := by unfold Tp.size; omega
theorem bound_r {go : Tp → List ByteArray → Cs → Cs} {F : Nat} (hgo : PartR ns K go F) {t : Tp} {ss : List ByteArray} (s : Cs) (h1 : t.size ≤ F) (h2 : Stands ns t) (h3 : ss.length + 2 * t.size ≤ K) : Rs ns K (10 * t.size + 1) (t.size - 1) s (boundZ go t ss s) :=
 (((Rs.put ns K s _).trans (hgo t ss _ h1 h2 h3)).trans (Rs.put ns K _ _)).mono (by have := t.size_pos; omega) (by omega)
theorem kids_r {go : Tp → List ByteArray → Cs → Cs} {F : Nat} (hgo : PartR ns K go F) {ss : List ByteArray} : ∀ (l : List Tp) (s : Cs), (∀ c ∈ l, c.size ≤ F ∧ Stands ns c ∧ ss.length + 2 * c.size ≤ K) → Rs ns K (10 * (l.map Tp.size).sum) ((l.map Tp.size).sum) s (l.foldl (fun s c => go c ss s) s)
 | [], s, _ => Rs.refl _ _ _
 | c :: l, s, h => by
   have hc := h c List.mem_cons_self
   refine ((hgo c ss s hc.1 hc.2.1 hc.2.2).trans (kids_r hgo l _ (fun x hx => h x (List.mem_cons_of_mem _ hx)))).mono ?_ ?_
   · simp only [List.map_cons, List.sum_cons]; omega
   · simp only [List.map_cons, List.sum_cons]; omega
theorem op_r {ss : List ByteArray} (s : Cs) (c : Tp) (h1 : c.k.count = 1) (h2 : Stands ns c) (h3 : ss.length + 2 * c.size ≤ K) : Rs ns K (10 * c.size) (c.size - 1) s (opZ es ss s c) := by
 obtain ⟨-, e⟩ := kids1 h1
 refine ((Rs.put ns K s _).trans (Rs.wait (l := ⟨c.kid 0, ss ++ [c.n.b, c.n.c], s.out.length, 1⟩) (h2.kid (by omega)) ?_ ?_)).mono ?_ ?_
 · simp only [List.length_append, List.length_cons, List.length_nil]; omega
 · simp [Cs.put]
 · show 1 + 10 * (c.kid 0).size ≤ _; omega
 · show 0 + (c.kid 0).size ≤ _; omega
theorem ops_r {ss : List ByteArray} : ∀ (l : List Tp) (s : Cs), (∀ c ∈ l, c.k.count = 1 ∧ Stands ns c ∧ ss.length + 2 * c.size ≤ K) → Rs ns K (10 * (l.map Tp.size).sum) ((l.map Tp.size).sum) s (l.foldl (opZ es ss) s)
 | [], s, _ => Rs.refl _ _ _
 | c :: l, s, h => by
   have hc := h c List.mem_cons_self
   refine ((op_r s c hc.1 hc.2.1 hc.2.2).trans (ops_r l _ (fun x hx => h x (List.mem_cons_of_mem _ hx)))).mono ?_ ?_
   · simp only [List.map_cons, List.sum_cons]; omega
   · simp only [List.map_cons, List.sum_cons]; omega
theorem sum_mem (l : List Tp) (c : Tp) (h : c ∈ l) : c.size ≤ (l.map Tp.size).sum := by
 induction l with
 | nil => simp at h
 | cons a l ih =>
   simp only [List.map_cons, List.sum_cons]
   rw [List.mem_cons] at h
   rcases h with rfl | h
   · omega
   · have := ih h; omega
theorem part_r : ∀ F, PartR ns K (partZ es F) F := by
 intro F
 induction F with
 | zero => intro t ss s h; have := t.size_pos; omega
 | succ F ih =>
   intro t ss s hF hs hK
   have hg := hs.toGood
   have hp := t.size_pos
   have one : ∀ i, Rs ns K (10 * t.size - 1) (t.size - 1) s (s.put i) := fun i => (Rs.put ns K s i).mono (by omega) (by omega)
   by_cases e : t.n.kind = 1
   · rw [part1 e]
     exact one _
   have n1 := e
   clear e
   by_cases e : t.n.kind = 2
   · rw [part2 e]
     exact one _
   have n2 := e
   clear e
   by_cases e : t.n.kind = 3
   · rw [part3 e]
     exact one _
   have n3 := e
   clear e
   by_cases e : t.n.kind = 4
   · rw [part4 e]
     exact one _
   have n4 := e
   clear e
   by_cases e : t.n.kind = 5
   · rw [part5 e]
     exact one _
   have n5 := e
   clear e
   by_cases e : t.n.kind = 6
   · rw [part6 e]
     obtain ⟨-, e1⟩ := kids1 (z67 hg e (c := 1) rfl)
     refine ((Rs.put ns K s _).trans (Rs.wait (l := ⟨t.kid 0, ss ++ [t.n.a], s.out.length, 0⟩) (hs.kid (by rw [z67 hg e (c := 1) rfl]; omega)) ?_ ?_)).mono ?_ ?_
     · simp only [List.length_append, List.length_cons, List.length_nil]; omega
     · simp [Cs.put]
     · show 1 + 10 * (t.kid 0).size ≤ _; omega
     · show 0 + (t.kid 0).size ≤ _; omega
   have n6 := e
   clear e
   by_cases e : t.n.kind = 8
   · rw [part8 e]
     have hc := z67 hg e (c := 2) rfl
     obtain ⟨-, e1⟩ := kids2 hc
     have p0 := (t.kid 0).size_pos
     have p1 := (t.kid 1).size_pos
     refine ((ih (t.kid 0) ss s (by omega) (hs.kid (by omega)) (by omega)).trans (bound_r ih _ (by omega) (hs.kid (by omega)) ?_)).mono (by omega) (by omega)
     simp only [List.length_append, List.length_cons, List.length_nil]; omega
   have n8 := e
   clear e
   by_cases e : t.n.kind = 9
   · rw [part9 e]
     have hc := z67 hg e (c := 2) rfl
     obtain ⟨-, e1⟩ := kids2 hc
     have p0 := (t.kid 0).size_pos
     have p1 := (t.kid 1).size_pos
     refine (((Rs.put ns K s _).trans (Rs.wait (l := ⟨t.kid 0, ss ++ [t.n.a, t.n.b], s.out.length, 0⟩) (hs.kid (by omega)) ?_ ?_)).trans (bound_r ih _ (by omega) (hs.kid (by omega)) ?_)).mono ?_ ?_
     · simp only [List.length_append, List.length_cons, List.length_nil]; omega
     · simp [Cs.put]
     · simp only [List.length_append, List.length_cons, List.length_nil]; omega
     · show 1 + 10 * (t.kid 0).size + _ ≤ _; omega
     · show 0 + (t.kid 0).size + _ ≤ _; omega
   have n9 := e
   clear e
   by_cases e : t.n.kind = 10
   · rw [part10 e]
     have hc := z67 hg e (c := 3) rfl
     obtain ⟨-, e1⟩ := kids3 hc
     have p0 := (t.kid 0).size_pos
     have p1 := (t.kid 1).size_pos
     have p2 := (t.kid 2).size_pos
     unfold ifZ
     exact ((((((ih (t.kid 0) ss s (by omega) (hs.kid (by omega)) (by omega)).trans (Rs.put ns K _ _)).trans (ih (t.kid 1) ss _ (by omega) (hs.kid (by omega)) (by omega))).trans (Rs.put ns K _ _)).trans (Rs.lead ns K _ _ _)).trans ((ih (t.kid 2) ss _ (by omega) (hs.kid (by omega)) (by omega)).trans (Rs.lead ns K _ _ _))).mono (by omega) (by omega)
   have n10 := e
   clear e
   by_cases e : t.n.kind = 20
   · rw [part20 e]
     have hc := z67 hg e (c := 3) rfl
     obtain ⟨-, e1⟩ := kids3 hc
     have p0 := (t.kid 0).size_pos
     have p1 := (t.kid 1).size_pos
     have p2 := (t.kid 2).size_pos
     have h3 : (ss ++ [t.n.a, t.n.b]).length + 2 * (t.kid 2).size ≤ K := by simp only [List.length_append, List.length_cons, List.length_nil]; omega
     unfold caseZ
     exact ((((((((ih (t.kid 0) ss s (by omega) (hs.kid (by omega)) (by omega)).trans (Rs.put ns K _ _)).trans (ih (t.kid 2) (ss ++ [t.n.a, t.n.b]) _ (by omega) (hs.kid (by omega)) h3)).trans (Rs.put ns K _ _)).trans (Rs.put ns K _ _)).trans (Rs.put ns K _ _)).trans (Rs.lead ns K _ _ _)).trans ((ih (t.kid 1) ss _ (by omega) (hs.kid (by omega)) (by omega)).trans (Rs.lead ns K _ _ _))).mono (by omega) (by omega)
   have n20 := e
   clear e
   by_cases e : t.n.kind = 23 ∨ t.n.kind = 24
   · rw [partH e]
     have hc : 2 ≤ t.k.count := by
       have := (arity_at hg).2.1 (by rcases e with e | e <;> rw [e] <;> rfl)
       exact this.1
     obtain ⟨e0, e1⟩ := kidsM hc
     have hh := hs.head e
     have hh1 : (t.kid 1).k.count = 1 := (hh (t.kid 1) (by rw [e0]; simp)).2
     obtain ⟨-, e2⟩ := kids1 hh1
     have p0 := (t.kid 0).size_pos
     have p1 := (t.kid 1).size_pos
     have r1 : Rs ns K (10 * (t.kid 0).size + 1) ((t.kid 0).size) s (handA (partZ es F) t ss s) := by
       unfold handA
       exact ((((Rs.put ns K s _).trans (ih (t.kid 0) ss _ (by omega) (hs.kid (by omega)) (by omega))).trans (Rs.put ns K _ _)).trans (Rs.lead ns K _ _ _)).mono (by omega) (by omega)
     have r2 : Rs ns K (10 * (t.kid 1).size) ((t.kid 1).size) (handA (partZ es F) t ss s) (handB t ss (handA (partZ es F) t ss s)) := by
       unfold handB
       refine ((Rs.put ns K _ _).trans (Rs.wait (l := ⟨(t.kid 1).kid 0, ss ++ [(t.kid 1).n.a], (handA (partZ es F) t ss s).out.length, 0⟩) ((hs.kid (by omega)).kid (by omega)) ?_ ?_)).mono ?_ ?_
       · simp only [List.length_append, List.length_cons, List.length_nil]; omega
       · simp [Cs.put]
       · show 1 + 10 * ((t.kid 1).kid 0).size ≤ _; omega
       · show 0 + ((t.kid 1).kid 0).size ≤ _; omega
     have r3 : Rs ns K _ _ _ ((t.kids.drop 2).foldl (opZ es ss) (handB t ss (handA (partZ es F) t ss s))) := ops_r (ns := ns) (K := K) (t.kids.drop 2) _ (fun c hc => by
       have h4 := sum_mem _ c hc
       refine ⟨(hh c ?_).2, hs.kids_mem c (List.mem_of_mem_drop hc), by omega⟩
       rw [show (2 : Nat) = 1 + 1 from rfl, ← List.drop_drop] at hc
       exact List.mem_of_mem_drop hc)
     unfold handZ
     exact (((r1.trans r2).trans r3).trans (Rs.lead ns K _ _ _)).mono (by omega) (by omega)
   · rw [partK n1 n2 n3 n4 n5 n6 n8 n9 n10 n20 (fun h => e (Or.inl h)) (fun h => e (Or.inr h))]
     have e1 := t.kids_sum
     refine ((kids_r ih t.kids s (fun c hc => ?_)).trans (Rs.put ns K _ _)).mono (by omega) (by omega)
     have h4 := sum_mem _ c hc
     exact ⟨by omega, hs.kids_mem c hc, by omega⟩
end
end
section
open Go.RowKit

abbrev Sco := List (ByteArray × ByteArray)
def findS : Sco → ByteArray → Option ByteArray
 | [], _ => none
 | (x, y) :: r, s => if x = s then some y else findS r s
def knownZ (n : Nd) (i : Nat) : List ByteArray :=
 if n.kind = 6 ∨ n.kind = 25 then [n.a]
 else if (n.kind = 8 ∧ i = 1) ∨ (n.kind = 9 ∧ i = 1) then [n.a]
 else if n.kind = 9 ∨ (n.kind = 20 ∧ i = 2) then [n.a, n.b]
 else if n.kind = 26 then [n.b, n.c]
 else []
theorem knownZ_len (n : Nd) (i : Nat) : (knownZ n i).length ≤ 2 := by
 unfold knownZ
 repeat' split
 all_goals simp
theorem knownZ_same {n m : Nd} (h : n.kind = m.kind) (i : Nat) : (knownZ n i).length = (knownZ m i).length := by
 unfold knownZ
 rw [h]
 repeat' split
 all_goals rfl
def freshZ (m : Nat) : ByteArray := ⟨(118 :: Lib.itoa (m : Int)).toArray⟩
def makesZ (k : Int) : Nat := if k = 6 ∨ k = 8 ∨ k = 25 then 1 else if k = 9 ∨ k = 20 ∨ k = 26 then 2 else 0
def renZ (n : Nd) (sc : Sco) (made : Nat) : Nd :=
 if n.kind = 5 then { n with a := (findS sc n.a).getD ⟨#[]⟩ }
 else if n.kind = 6 ∨ n.kind = 8 ∨ n.kind = 25 then { n with a := freshZ made }
 else if n.kind = 9 ∨ n.kind = 20 then { n with a := freshZ made, b := freshZ (made + 1) }
 else if n.kind = 26 then { n with b := freshZ made, c := freshZ (made + 1) }
 else n
theorem renZ_kind (n : Nd) (sc : Sco) (made : Nat) : (renZ n sc made).kind = n.kind := by
 unfold renZ
 repeat' split
 all_goals rfl
def lostZ (n : Nd) (sc : Sco) : List ByteArray := if n.kind = 5 ∧ findS sc n.a = none then [n.a] else []

structure Wst where
 plain : List Nd
 free : List ByteArray
 made : Nat
def stepW (n : Nd) (sc : Sco) (s : Wst) : Wst := ⟨s.plain ++ [renZ n sc s.made], s.free ++ lostZ n sc, s.made + makesZ n.kind⟩
def openS (old new : Nd) (i : Nat) (sc : Sco) : Sco := ((knownZ old i).zip (knownZ new i)).foldl (fun s p => p :: s) sc
def kidsW (old new : Nd) : Nat → Fo → Sco → Wst → Wst
 | _, .none, _, s => s
 | i, .tree n k r, sc, s =>
   kidsW old new (i + 1) r sc (kidsW n (renZ n (openS old new i sc) s.made) 0 k (openS old new i sc) (stepW n (openS old new i sc) s))
def walkW (n : Nd) (k : Fo) (sc : Sco) (s : Wst) : Wst := kidsW n (renZ n sc s.made) 0 k sc (stepW n sc s)

end
section
open Go.RowKit Go.Deep
def ndV (n : Nd) : Value := .agg #[.int .i64 n.kind, .int .i64 n.num, .string n.a, .string n.b, .string n.c, .int .i64 n.kids]

end
section
open Go.RowKit Go.Deep
def strRow (ss : List ByteArray) : List Value := ss.map fun s => .string s
theorem strRow_snoc (ss : List ByteArray) (s : ByteArray) : strRow (ss ++ [s]) = strRow ss ++ [.string s] := by
 unfold strRow
 rw [List.map_append]
 rfl
theorem own_type {W : World} {B : Nat} {e : TypeId} {sz : Nat} {v : Value} {n : Nat} {xs : List Value} (h : W.ownsRow B e sz v n xs) {g : Nat} (hg : v.ownBlock = some g) : B ≤ g ∧ ∃ cur, W.heap[g]? = some (.cells cur e) := by
 obtain ⟨-, ⟨rfl, h0⟩ | ⟨g', cap, cur, rfl, hB, hc, -⟩⟩ := h
 · simp [Value.ownBlock] at hg
 · simp [Value.ownBlock] at hg
   subst hg
   exact ⟨hB, cur, hc⟩
theorem own_slice {W : World} {B : Nat} {e : TypeId} {sz : Nat} {v : Value} {n : Nat} {xs : List Value} (h : W.ownsRow B e sz v n xs) : ∃ ad c, v = .slice ad n c := by
 obtain ⟨-, ⟨rfl, h0⟩ | ⟨g', cap, cur, rfl, -⟩⟩ := h
 · exact ⟨none, 0, by rw [h0]⟩
 · exact ⟨_, _, rfl⟩
theorem own_same {W W' : World} {B : Nat} {e : TypeId} {sz : Nat} {v : Value} {n : Nat} {xs : List Value} (h : W.ownsRow B e sz v n xs) (he : ∀ g, v.ownBlock = some g → W'.heap[g]? = W.heap[g]?) : W'.ownsRow B e sz v n xs := by
 obtain ⟨h0, ⟨rfl, h1⟩ | ⟨g, cap, cur, rfl, hB, hc, hr⟩⟩ := h
 · exact ⟨h0, Or.inl ⟨rfl, h1⟩⟩
 · exact ⟨h0, Or.inr ⟨g, cap, cur, rfl, hB, (he g (by simp [Value.ownBlock])).trans hc, hr⟩⟩

end
section
open Go.RowKit Go.Deep
theorem one_new' (w : World) (o1 : Obj) : Below w.heap.size w (w.alloc o1) := (Below.refl _ _).alloc (Nat.le_refl _) _
theorem str_eq (x s : ByteArray) : (x.toList == s.toList) = decide (x = s) := by
 rw [ByteArray.toList_eq, ByteArray.toList_eq]
 by_cases h : x = s
 · subst h
   simp
 · rw [decide_eq_false h]
   rw [beq_eq_false_iff_ne]
   intro e
   exact h (by cases x; cases s; simp_all)

end
section
open Go.RowKit

structure Later (B : Nat) (W : World) where
 w : World
 h : Below B W w

instance (B : Nat) (W : World) : Nonempty (Later B W) := ⟨⟨W, Below.refl _ _⟩⟩
theorem Later.cell {B : Nat} {W : World} (x : Later B W) {p : Addr} {v : Value} (hp : p.block < B) (h : W.cell? p = some v) : x.w.cell? p = some v := (x.h.cell hp).trans h
theorem z30 {P : Program} {id : Nat} {Q : Exit → Act → World → Prop} {a : Act} {w : World} {l : List Oper} (B : Nat) (hm : P.follows .mixedOrders = true) (hB : Region.lexB .any l.toArray = true)
   (h : wpQuiet P l.toArray (fun w' => ∃ x : Later B w, w' = x.w) (fun a' => ∀ w', (∃ x : Later B w, w' = x.w) → Q .normal a' w') l a) : (Code.region id l.toArray true).wp P Q a w :=
 wp_region_quiet (C := fun w' => ∃ x : Later B w, w' = x.w) hm hB ⟨⟨w.drew, (Below.refl B w).drew⟩, rfl⟩ (by simpa using h)
end
section
open Go.RowKit
def upTo (n k : Nat) : Array Bool := ((List.range n).map (fun i => decide (i < k))).toArray
theorem upTo_zero (n : Nat) : upTo n 0 = Array.replicate n false := by
 apply Array.ext
 · simp [upTo]
 · intro i h1 h2
   simp [upTo]
theorem upTo_next {n k : Nat} : (upTo n k).setIfInBounds k true = upTo n (k + 1) := by
 apply Array.ext
 · simp [upTo]
 · intro i h1 h2
   by_cases hik : k = i
   · subst hik
     simp [upTo]
   · simp [upTo, hik]
     omega
def plainOp (o : Oper) : Bool :=
 match o.op with
 | .move _ | .assign _ | .pick _ _ _ | .load _ _ | .nilCheck _ | .binOp _ _ _ _ _ | .unOp _ _ _ | .fieldAddr _ _ _ | .field _ _ _ | .indexAddr _ _ _ | .index _ _ _ | .convert _ _ _ | .slice _ _ _ _ _ => true
 | _ => false
theorem then_value {α : Type} {s : Result α} {f : α → Value} {n : Next} {w' : World} (h : s.andThen (fun a w => Result.ok (Next.value (f a)) w) = .ok n w') : ∃ v, n = .value v := by
 cases s with
 | ok a w => cases h; exact ⟨_, rfl⟩
 | halt x w => cases h
theorem then_ok {α β : Type} {s : Result α} {f : α → World → Result β} {n : β} {w' : World} (h : s.andThen f = .ok n w') : ∃ a w, f a w = .ok n w' := by
 cases s with
 | ok a w => exact ⟨a, w, h⟩
 | halt x w => cases h
theorem plain_value {P : Program} {a : Act} {o : Oper} {w w' : World} {n : Next} (hp : plainOp o = true) (h : (execOp a.eval o).run P w = .ok n w') : ∃ v, n = .value v := by
 obtain ⟨dst, op, type, pos, after, guard⟩ := o
 cases op <;> simp only [plainOp] at hp <;> try (cases hp; done)
 all_goals
   unfold execOp at h
   simp only [Sem.run_bind, Sem.run_pure] at h
 all_goals first
   | exact then_value h
   | (cases h; exact ⟨_, rfl⟩)
   | (split at h
      all_goals first
        | (cases h; exact ⟨_, rfl⟩)
        | (cases h; done)
        | (split at h
           all_goals first
             | (cases h; exact ⟨_, rfl⟩)
             | (cases h; done)
             | (simp only [Sem.run_bind] at h
                obtain ⟨_, _, h⟩ := then_ok h
                obtain ⟨_, _, h⟩ := then_ok h
                split at h
                · simp only [Sem.run_bind] at h
                  cases h
                · cases h
                  exact ⟨_, rfl⟩)))

section
variable {P : Program} {Q : Exit → Act → World → Prop} {S : World → Prop} {l0 : List Oper}
theorem stage_make {k : Nat} {o : Oper} {v : Value} {a a' : Act} {w w1 : World} (ho : l0[k]? = some o) (hr : (Region.ready .any l0.toArray (upTo l0.length k) == [k]) = true) (hw : Region.wanted o (yielded l0.toArray a.tmps) = true)
   (hrun : (execOp a.eval o).run P w = .ok (.value v) w1) (hS : S w1) (hput : a.put o.dst v = a') (h : wpAnyH P .any l0.toArray (NoPanic Q) S (l0.length - (k + 1)) (upTo l0.length (k + 1)) a' w1) :
   wpAnyH P .any l0.toArray (NoPanic Q) S (l0.length - k) (upTo l0.length k) a w := by
 have hk : k < l0.length := (List.getElem?_eq_some_iff.1 ho).1
 have e : l0.length - k = l0.length - (k + 1) + 1 := by omega
 have ho' : l0.toArray[k]? = some o := by simpa using ho
 rw [e]
 refine wpAnyH_all (rs := [k]) (by simpa using hr) (by simp) (fun i hi => ?_)
 rw [List.mem_singleton] at hi
 subst hi
 unfold wpOp
 rw [ho', upTo_next]
 dsimp only
 rw [if_pos hw]
 refine Or.inl ?_
 unfold Oper.wp
 rw [hrun]
 subst hput
 exact ⟨hS, h⟩
theorem stage_end {a : Act} {w : World} (hr : (Region.ready .any l0.toArray (upTo l0.length l0.length)).isEmpty = true) (h : Q .normal a w) : wpAnyH P .any l0.toArray (NoPanic Q) S (l0.length - l0.length) (upTo l0.length l0.length) a w :=
 wpAnyH_done (Q := NoPanic Q) (by simpa using hr) (NoPanic.normal h) _

end
end
section
open Go.RowKit
section
variable {P : Program} {ops : Array Oper} {Q : Exit → Act → World → Prop} {S : World → Prop}
def waitsB (ops : Array Oper) : Nat → Nat → Nat → Bool
 | 0, _, _ => false
 | f + 1, c, i => match ops[c]? with
   | none => false
   | some o => o.after.any (fun e => Region.binds .any e && (e.on == i || waitsB ops f e.on i))
def ShutL (ops : Array Oper) (listed : Array Bool) : Prop := ∀ (j : Nat) (o : Oper), ops[j]? = some o → listed.getD j false = true → ∀ e ∈ o.after, Region.binds .any e = true → listed.getD e.on false = true
theorem ShutL.waits {listed : Array Bool} (h : ShutL ops listed) : ∀ (f c i : Nat), waitsB ops f c i = true → listed.getD c false = true → listed.getD i false = true
 | 0, _, _, hw, _ => by cases hw
 | f + 1, c, i, hw, hc => by
   unfold waitsB at hw
   cases ho : ops[c]? with
   | none => rw [ho] at hw; cases hw
   | some o =>
     rw [ho] at hw
     dsimp only at hw
     rw [Array.any_eq_true'] at hw
     obtain ⟨e, he, hb⟩ := hw
     rw [Bool.and_eq_true, Bool.or_eq_true] at hb
     have h1 := h c o ho hc e he hb.1
     rcases hb.2 with h2 | h2
     · rw [beq_iff_eq] at h2
       rw [← h2]
       exact h1
     · exact ShutL.waits h f e.on i h2 h1
theorem ShutL.next {listed : Array Bool} (h : ShutL ops listed) {i : Nat} (hr : i ∈ Region.ready .any ops listed) : ShutL ops (listed.setIfInBounds i true) := by
 intro j o ho hj e he hb
 obtain ⟨_, oi, hoi, hall⟩ := mem_ready.1 hr
 by_cases hij : i = j
 · subst hij
   rw [hoi] at ho
   cases ho
   exact getD_set_true (hall e he hb)
 · rw [getD_set_ne false hij] at hj
   exact getD_set_true (h j o ho hj e he hb)
def wpTill (P : Program) (ops : Array Oper) (Q : Exit → Act → World → Prop) (S : World → Prop) (c : Nat) (K : Nat → Array Bool → Act → World → Prop) : Nat → Array Bool → Act → World → Prop
 | 0, _, _, _ => False
 | fuel + 1, listed, a, w => Region.ready .any ops listed ≠ [] ∧ ∀ i ∈ Region.ready .any ops listed, if i = c then wpOp P ops Q i (fun a' w' => K fuel (listed.setIfInBounds i true) a' w') a w else wpOp P ops Q i (fun a' w' => S w' ∧ wpTill P ops Q S c K fuel (listed.setIfInBounds i true) a' w') a w
theorem any_of_till {c : Nat} : ∀ (fuel : Nat) (listed : Array Bool) (a : Act) (w : World), wpTill P ops Q S c (wpAny P .any ops Q) fuel listed a w → wpAny P .any ops Q fuel listed a w
 | 0, _, _, _, h => h.elim
 | fuel + 1, listed, a, w, h => ⟨fun h0 => absurd h0 h.1, fun i hi => by
     have h1 := h.2 i hi
     split at h1
     · exact h1
     · exact wpOp_mono (fun a' w' h' => any_of_till fuel _ a' w' h'.2) h1⟩
theorem till_first {c i : Nat} {oi : Oper} {v : Value} {K : Nat → Array Bool → Act → World → Prop} {f : Nat} (hi : ops[i]? = some oi) (hsel : Region.noSelect ops = true)
   (hQ : ∀ d a w, Q (.panic d) (a.put oi.dst v) w → Q (.panic d) a w) (hc : waitsB ops f c i = true) (hic : i ≠ c) :
   ∀ (fuel : Nat) (listed : Array Bool) (a : Act) (w : World), ShutL ops listed →
     (∀ j oj, ops[j]? = some oj → j ≠ i → listed.getD j true = false → (∀ e ∈ oj.after, Region.binds .any e = true → e.on ≠ i) → oi.apart ops oj = true) →
     i ∈ Region.ready .any ops listed → YieldsIf P ops S oi v a → S w →
     wpTill P ops Q S c K fuel (listed.setIfInBounds i true) (a.put oi.dst v) w → wpTill P ops Q S c K (fuel + 1) listed a w
 | 0, _, _, _, _, _, _, _, _, H => H.elim
 | fuel + 1, listed, a, w, hsh, hfree, hr, hy, hS, H => by
   refine ⟨fun h => by rw [h] at hr; exact (List.not_mem_nil hr).elim, fun j hj => ?_⟩
   by_cases hji : j = i
   · subst hji
     rw [if_neg hic]
     exact hy.wpOp hi hS ⟨hS, H⟩
   obtain ⟨hjun, oj, hoj, hall⟩ := mem_ready.1 hj
   have hir := (mem_ready.1 hr).1
   have hlast : listed.getD i false = true → False := fun h => by
     rcases Nat.lt_or_ge i listed.size with h' | h'
     · simp [h'] at hir h
       rw [hir] at h
       cases h
     · simp [Array.getElem?_eq_none h'] at h
   have hjc : j ≠ c := fun e => by
     subst e
     refine hlast ?_
     -- j is ready: all it waits for has come up
     cases f with
     | zero => cases hc
     | succ f =>
       unfold waitsB at hc
       rw [hoj] at hc
       dsimp only at hc
       rw [Array.any_eq_true'] at hc
       obtain ⟨e, he, hb⟩ := hc
       rw [Bool.and_eq_true, Bool.or_eq_true] at hb
       have h1 := hall e he hb.1
       rcases hb.2 with h2 | h2
       · rw [beq_iff_eq] at h2
         rw [← h2]
         exact h1
       · exact hsh.waits f e.on i h2 h1
   have h1 := H.2 j (ready_mono hj hji)
   rw [if_neg hjc] at h1 ⊢
   have hnot : ∀ e ∈ oj.after, Region.binds .any e = true → e.on ≠ i := fun e he hb heq => by
     have := hall e he hb
     rw [heq] at this
     exact hlast this
   have hsp := Region.noSelect_spec hsel
   have h2 := wpOp_putIf hoj (hfree j oj hoj hji hjun hnot) (fun cs b => hsp i oi cs b hi) (fun cs b => hsp j oj cs b hoj) hQ hy h1
   refine wpOp_mono (fun a' w' h3 => ⟨h3.2.1, till_first hi hsel hQ hc hic fuel (listed.setIfInBounds j true) a' w' (hsh.next hj) (fun k ok hk hki hun hno => hfree k ok hk hki ?_ hno) (ready_mono hr (Ne.symm hji)) h3.1 h3.2.1 ?_⟩) h2
   · by_cases hjk : j = k
     · subst hjk
       exact hjun
     · rw [getD_set_ne true hjk] at hun
       exact hun
   · rw [Array.setIfInBounds_comm _ _ hji]
     exact h3.2.2
theorem till_first_any {c i : Nat} {oi : Oper} {v : Value} (hi : ops[i]? = some oi) (hsel : Region.noSelect ops = true)
   (hQ : ∀ d a w, Q (.panic d) (a.put oi.dst v) w → Q (.panic d) a w) (hic : i ≠ c) :
   ∀ (fuel : Nat) (listed : Array Bool) (a : Act) (w : World),
     (∀ j oj, ops[j]? = some oj → j ≠ i → listed.getD j true = false → (∀ e ∈ oj.after, Region.binds .any e = true → e.on ≠ i) → oi.apart ops oj = true) →
     i ∈ Region.ready .any ops listed → Yields P ops oi v a → S w →
     wpTill P ops Q S c (wpAny P .any ops Q) fuel (listed.setIfInBounds i true) (a.put oi.dst v) w → wpTill P ops Q S c (wpAny P .any ops Q) (fuel + 1) listed a w
 | 0, _, _, _, _, _, _, _, H => H.elim
 | fuel + 1, listed, a, w, hfree, hr, hy, hS, H => by
   refine ⟨fun h => by rw [h] at hr; exact (List.not_mem_nil hr).elim, fun j hj => ?_⟩
   by_cases hji : j = i
   · subst hji
     rw [if_neg hic]
     exact (Yields.yieldsIf hy).wpOp hi hS ⟨hS, H⟩
   obtain ⟨hjun, oj, hoj, hall⟩ := mem_ready.1 hj
   have hir := (mem_ready.1 hr).1
   have hlast : listed.getD i false = true → False := fun h => by
     rcases Nat.lt_or_ge i listed.size with h' | h'
     · simp [h'] at hir h
       rw [hir] at h
       cases h
     · simp [Array.getElem?_eq_none h'] at h
   have hnot : ∀ e ∈ oj.after, Region.binds .any e = true → e.on ≠ i := fun e he hb heq => by
     have := hall e he hb
     rw [heq] at this
     exact hlast this
   have hsp := Region.noSelect_spec hsel
   have hap := hfree j oj hoj hji hjun hnot
   have hf' : ∀ k ok, ops[k]? = some ok → k ≠ i → (listed.setIfInBounds j true).getD k true = false → (∀ e ∈ ok.after, Region.binds .any e = true → e.on ≠ i) → oi.apart ops ok = true := fun k ok hk hki hun hno => by
     refine hfree k ok hk hki ?_ hno
     by_cases hjk : j = k
     · subst hjk
       exact hjun
     · rw [getD_set_ne true hjk] at hun
       exact hun
   have all : ∀ a', YieldsIf P ops (fun _ => True) oi v a' → Yields P ops oi v a' := fun a' h => h.imp (fun ⟨hw, hv⟩ => ⟨hw, fun w => hv w trivial⟩) id
   have h1 := H.2 j (ready_mono hj hji)
   by_cases hjc : j = c
   · subst hjc
     rw [if_pos rfl] at h1 ⊢
     have h2 := wpOp_putIf hoj hap (fun cs b => hsp i oi cs b hi) (fun cs b => hsp j oj cs b hoj) hQ (Yields.yieldsIf (S := fun _ => True) hy) h1
     refine wpOp_mono (fun a' w' h3 => wpAny_first hi (fun k o cs b hk => hsp k o cs b hk) hQ fuel (listed.setIfInBounds j true) a' w' hf' (ready_mono hr (Ne.symm hji)) (all a' h3.1) ?_) h2
     rw [Array.setIfInBounds_comm _ _ hji]
     exact h3.2
   · rw [if_neg hjc] at h1 ⊢
     have h2 := wpOp_putIf hoj hap (fun cs b => hsp i oi cs b hi) (fun cs b => hsp j oj cs b hoj) hQ (Yields.yieldsIf (S := fun _ => True) hy) h1
     refine wpOp_mono (fun a' w' h3 => ⟨h3.2.1, till_first_any hi hsel hQ hic fuel (listed.setIfInBounds j true) a' w' hf' (ready_mono hr (Ne.symm hji)) (all a' h3.1) h3.2.1 ?_⟩) h2
     rw [Array.setIfInBounds_comm _ _ hji]
     exact h3.2.2
end

section
variable {P : Program} {Q : Exit → Act → World → Prop} {S : World → Prop} {l0 : List Oper}
def moveB (o : Oper) : Bool :=
 match o.op with
 | .move _ | .assign _ => true
 | _ => false
theorem move_any {a : Act} {o : Oper} (h : moveB o = true) : ∃ v, ∀ w, (execOp a.eval o).run P w = .ok (.value v) w := by
 obtain ⟨dst, op, type, pos, after, guard⟩ := o
 cases op <;> simp only [moveB] at h <;> try (cases h; done)
 all_goals exact ⟨_, fun w => rfl⟩
def stepC (l0 : List Oper) (c k : Nat) : Bool :=
 match l0[k]? with
 | none => false
 | some o => !(k == c) && (((Region.ready .any l0.toArray (upTo l0.length k)).contains k && Region.free .any l0.toArray (upTo l0.length k) k && plainOp o && (waitsB l0.toArray l0.length c k || moveB o)) || (Region.ready .any l0.toArray (upTo l0.length k) == [k]))
def walkC (l0 : List Oper) (c k : Nat) : Nat → Bool
 | 0 => true
 | m + 1 => stepC l0 c k && walkC l0 c (k + 1) m
def shutB (l0 : List Oper) (k : Nat) : Bool := (List.range k).all (fun j => match l0[j]? with
 | none => true
 | some o => o.after.all (fun e => !Region.binds .any e || decide (e.on < k)))
theorem shut_upTo {k : Nat} (hk : k ≤ l0.length) (h : shutB l0 k = true) : ShutL l0.toArray (upTo l0.length k) := by
 intro j o ho hj e he hb
 unfold shutB at h
 rw [List.all_eq_true] at h
 have hjk : j < k := by
   by_cases hjl : j < l0.length
   · simp [upTo, hjl] at hj
     exact hj
   · simp [upTo, hjl] at hj
 have h1 := h j (List.mem_range.2 hjk)
 rw [show l0[j]? = some o by simpa using ho] at h1
 dsimp only at h1
 rw [Array.all_eq_true_iff_forall_mem] at h1
 have h2 := h1 e he
 rw [hb] at h2
 have h3 : e.on < k := by simpa using h2
 have h4 : e.on < l0.length := by omega
 simp [upTo, h4, h3]
theorem till_op (hs : Region.noSelect l0.toArray = true) {c k : Nat} {o : Oper} (ho : l0[k]? = some o) (hsh : shutB l0 k = true) (hB : stepC l0 c k = true) {a : Act} {w : World} (hS : S w)
   (h : if Region.wanted o (yielded l0.toArray a.tmps) then o.quiet P a S (fun a' => ∀ w', S w' → wpTill P l0.toArray (NoPanic Q) S c (wpAny P .any l0.toArray (NoPanic Q)) (l0.length - (k + 1)) (upTo l0.length (k + 1)) a' w') else ∀ w', S w' → wpTill P l0.toArray (NoPanic Q) S c (wpAny P .any l0.toArray (NoPanic Q)) (l0.length - (k + 1)) (upTo l0.length (k + 1)) (a.put o.dst undef) w') :
   wpTill P l0.toArray (NoPanic Q) S c (wpAny P .any l0.toArray (NoPanic Q)) (l0.length - k) (upTo l0.length k) a w := by
 have hk : k < l0.length := (List.getElem?_eq_some_iff.1 ho).1
 have e : l0.length - k = l0.length - (k + 1) + 1 := by omega
 have ho' : l0.toArray[k]? = some o := by simpa using ho
 rw [e]
 unfold stepC at hB
 rw [ho] at hB
 rw [Bool.and_eq_true, Bool.or_eq_true, Bool.and_eq_true, Bool.and_eq_true, Bool.and_eq_true] at hB
 obtain ⟨hkc, hB⟩ := hB
 have hkc' : k ≠ c := by simpa using hkc
 rcases hB with ⟨⟨⟨hr, hf⟩, hp⟩, hwt⟩ | hr
 · have take : ∀ v, YieldsIf P l0.toArray S o v a → wpTill P l0.toArray (NoPanic Q) S c (wpAny P .any l0.toArray (NoPanic Q)) (l0.length - (k + 1)) (upTo l0.length (k + 1)) (a.put o.dst v) w → wpTill P l0.toArray (NoPanic Q) S c (wpAny P .any l0.toArray (NoPanic Q)) (l0.length - (k + 1) + 1) (upTo l0.length k) a w := fun v hy hn =>
     by
       rw [Bool.or_eq_true] at hwt
       rcases hwt with hwt | hmv
       · exact till_first ho' hs (fun d a w h => h) hwt hkc' _ _ _ _ (shut_upTo (by omega) hsh) (Region.free_spec ho' hf) (by simpa using hr) hy hS (by rw [upTo_next]; exact hn)
       · refine till_first_any ho' hs (fun d a w h => h) hkc' _ _ _ _ (Region.free_spec ho' hf) (by simpa using hr) ?_ hS (by rw [upTo_next]; exact hn)
         rcases hy with ⟨hw, hv⟩ | ⟨hw, hv⟩
         · obtain ⟨u, hu⟩ := move_any (P := P) (a := a) hmv
           have e1 := hv w hS
           rw [hu w] at e1
           cases e1
           exact Or.inl ⟨hw, hu⟩
         · exact Or.inr ⟨hw, hv⟩
   by_cases hw : Region.wanted o (yielded l0.toArray a.tmps) = true
   · rw [if_pos hw] at h
     obtain ⟨v, hv, hn⟩ := h
     refine take v (Or.inl ⟨hw, fun w' hw' => ?_⟩) (hn w hS)
     have hq := hv w' hw'
     unfold Oper.quietAt at hq
     cases hx : (execOp a.eval o).run P w' with
     | halt x w2 => rw [hx] at hq; exact hq.elim
     | ok n w2 =>
       obtain ⟨u, rfl⟩ := plain_value hp hx
       rw [hx] at hq
       obtain ⟨rfl, rfl⟩ := hq
       rfl
   · rw [if_neg hw] at h
     exact take undef (Or.inr ⟨by simpa using hw, rfl⟩) (h w hS)
 · have hr' : Region.ready .any l0.toArray (upTo l0.length k) = [k] := by simpa using hr
   refine ⟨by rw [hr']; simp, fun i hi => ?_⟩
   rw [hr', List.mem_singleton] at hi
   subst hi
   rw [if_neg hkc']
   unfold wpOp
   rw [ho', upTo_next]
   dsimp only
   by_cases hw : Region.wanted o (yielded l0.toArray a.tmps) = true
   · rw [if_pos hw] at h ⊢
     obtain ⟨v, hv, hn⟩ := h
     refine Or.inl ?_
     have hq := hv w hS
     unfold Oper.quietAt at hq
     unfold Oper.wp
     cases hx : (execOp a.eval o).run P w with
     | halt x w2 => rw [hx] at hq; exact hq.elim
     | ok n w2 =>
       rw [hx] at hq
       cases n <;> simp only [Oper.quietUpon] at hq
       case value u =>
         obtain ⟨rfl, rfl⟩ := hq
         exact ⟨hS, hn _ hS⟩
       case skip =>
         obtain ⟨rfl, rfl⟩ := hq
         exact ⟨hS, hn _ hS⟩
       case enter f args =>
         obtain ⟨rfl, hc⟩ := hq
         refine Calls.mono hc ?_
         rintro e w3 ⟨rfl, hC⟩
         exact ⟨hC, hn _ hC⟩
   · rw [if_neg hw] at h ⊢
     exact ⟨hS, h w hS⟩
def shutW (l0 : List Oper) (k : Nat) : Nat → Bool
 | 0 => true
 | m + 1 => shutB l0 k && shutW l0 (k + 1) m
theorem till_walk (hs : Region.noSelect l0.toArray = true) {c : Nat} : ∀ (m k : Nat) (a : Act) (w : World), shutW l0 k m = true → walkC l0 c k m = true → S w →
   wpQuiet P l0.toArray S (fun a' => ∀ w', S w' → wpTill P l0.toArray (NoPanic Q) S c (wpAny P .any l0.toArray (NoPanic Q)) (l0.length - (k + m)) (upTo l0.length (k + m)) a' w') ((l0.drop k).take m) a →
   wpTill P l0.toArray (NoPanic Q) S c (wpAny P .any l0.toArray (NoPanic Q)) (l0.length - k) (upTo l0.length k) a w
 | 0, k, a, w, _, _, hS, h => h w hS
 | m + 1, k, a, w, hH, hB, hS, h => by
   unfold walkC at hB
   unfold shutW at hH
   rw [Bool.and_eq_true] at hB hH
   have ⟨o, ho⟩ : ∃ o, l0[k]? = some o := by
     cases hx : l0[k]? with
     | none => have := hB.1; unfold stepC at this; rw [hx] at this; cases this
     | some o => exact ⟨o, rfl⟩
   have hd : l0.drop k = o :: l0.drop (k + 1) := by
     have hk := List.getElem?_eq_some_iff.1 ho
     rw [List.drop_eq_getElem_cons hk.1, hk.2]
   rw [hd, List.take_succ_cons] at h
   refine till_op hs ho hH.1 hB.1 hS ?_
   unfold wpQuiet at h
   have e : k + (m + 1) = k + 1 + m := by omega
   rw [e] at h
   split
   · rename_i hw
     rw [if_pos hw] at h
     exact Oper.quiet_mono (fun a' h' w' hw' => till_walk hs m (k + 1) a' w' hH.2 hB.2 hw' h') h
   · rename_i hw
     rw [if_neg hw] at h
     exact fun w' hw' => till_walk hs m (k + 1) _ w' hH.2 hB.2 hw' h
theorem any_stage (S : World → Prop) {k : Nat} {a : Act} {w : World} (h : wpAnyH P .any l0.toArray (NoPanic Q) S (l0.length - k) (upTo l0.length k) a w) : wpAny P .any l0.toArray (NoPanic Q) (l0.length - k) (upTo l0.length k) a w := wpAny_of_held _ _ _ _ h
theorem till_begin {id c : Nat} {a : Act} {w : World} (hm : P.follows .mixedOrders = true) (h : wpTill P l0.toArray (NoPanic Q) S c (wpAny P .any l0.toArray (NoPanic Q)) (l0.length - 0) (upTo l0.length 0) a w.drew) : (Code.region id l0.toArray true).wp P Q a w := by
 refine wp_region_noPanic (wp_region_any hm (any_of_till (S := S) (c := c) _ _ _ _ ?_))
 rw [upTo_zero] at h
 simpa using h
end
end
section
open Go.RowKit
section
variable {P : Program} {l0 : List Oper} {Q : Exit → Act → World → Prop} {S : World → Prop}
theorem till_make {c k : Nat} {o : Oper} {v : Value} {a a' : Act} {w w1 : World} (hkc : k ≠ c) (ho : l0[k]? = some o) (hr : (Region.ready .any l0.toArray (upTo l0.length k) == [k]) = true) (hw : Region.wanted o (yielded l0.toArray a.tmps) = true)
   (hrun : (execOp a.eval o).run P w = .ok (.value v) w1) (hS : S w1) (hput : a.put o.dst v = a') (h : wpTill P l0.toArray (NoPanic Q) S c (wpAny P .any l0.toArray (NoPanic Q)) (l0.length - (k + 1)) (upTo l0.length (k + 1)) a' w1) :
   wpTill P l0.toArray (NoPanic Q) S c (wpAny P .any l0.toArray (NoPanic Q)) (l0.length - k) (upTo l0.length k) a w := by
 have hk : k < l0.length := (List.getElem?_eq_some_iff.1 ho).1
 have e : l0.length - k = l0.length - (k + 1) + 1 := by omega
 have ho' : l0.toArray[k]? = some o := by simpa using ho
 have hr' : Region.ready .any l0.toArray (upTo l0.length k) = [k] := by simpa using hr
 rw [e]
 refine ⟨by rw [hr']; simp, fun i hi => ?_⟩
 rw [hr', List.mem_singleton] at hi
 subst hi
 rw [if_neg hkc]
 unfold wpOp
 rw [ho', upTo_next]
 dsimp only
 rw [if_pos hw]
 refine Or.inl ?_
 unfold Oper.wp
 rw [hrun]
 subst hput
 exact ⟨hS, h⟩
theorem till_cut {c : Nat} {o : Oper} {v : Value} {a a' : Act} {w w1 : World} (ho : l0[c]? = some o) (hr : (Region.ready .any l0.toArray (upTo l0.length c) == [c]) = true) (hw : Region.wanted o (yielded l0.toArray a.tmps) = true)
   (hrun : (execOp a.eval o).run P w = .ok (.value v) w1) (hput : a.put o.dst v = a') (h : wpAny P .any l0.toArray (NoPanic Q) (l0.length - (c + 1)) (upTo l0.length (c + 1)) a' w1) :
   wpTill P l0.toArray (NoPanic Q) S c (wpAny P .any l0.toArray (NoPanic Q)) (l0.length - c) (upTo l0.length c) a w := by
 have hk : c < l0.length := (List.getElem?_eq_some_iff.1 ho).1
 have e : l0.length - c = l0.length - (c + 1) + 1 := by omega
 have ho' : l0.toArray[c]? = some o := by simpa using ho
 have hr' : Region.ready .any l0.toArray (upTo l0.length c) = [c] := by simpa using hr
 rw [e]
 refine ⟨by rw [hr']; simp, fun i hi => ?_⟩
 rw [hr', List.mem_singleton] at hi
 subst hi
 rw [if_pos rfl]
 unfold wpOp
 rw [ho', upTo_next]
 dsimp only
 rw [if_pos hw]
 refine Or.inl ?_
 unfold Oper.wp
 rw [hrun]
 subst hput
 exact h
theorem stage_skip {k : Nat} {o : Oper} {a : Act} {w w1 : World} (hd : o.dst = none) (ho : l0[k]? = some o) (hr : (Region.ready .any l0.toArray (upTo l0.length k) == [k]) = true) (hw : Region.wanted o (yielded l0.toArray a.tmps) = true)
   (hrun : (execOp a.eval o).run P w = .ok .skip w1) (hS : S w1) (h : wpAnyH P .any l0.toArray (NoPanic Q) S (l0.length - (k + 1)) (upTo l0.length (k + 1)) a w1) :
   wpAnyH P .any l0.toArray (NoPanic Q) S (l0.length - k) (upTo l0.length k) a w := by
 have hk : k < l0.length := (List.getElem?_eq_some_iff.1 ho).1
 have e : l0.length - k = l0.length - (k + 1) + 1 := by omega
 have ho' : l0.toArray[k]? = some o := by simpa using ho
 rw [e]
 refine wpAnyH_all (rs := [k]) (by simpa using hr) (by simp) (fun i hi => ?_)
 rw [List.mem_singleton] at hi
 subst hi
 unfold wpOp
 rw [ho', upTo_next]
 dsimp only
 rw [if_pos hw]
 refine Or.inl ?_
 have hp : a.put o.dst undef = a := by rw [hd]; rfl
 unfold Oper.wp
 rw [hrun]
 refine ⟨hS, ?_⟩
 rw [hp]
 exact h
theorem z52 {P : Program} {a : Act} {o : Oper} {s x : Operand} {t : TypeId} (ho : o.op = .call { callee := .builtin .append, args := #[s, x], argTypes := #[t, t] }) {v vx : Value} (hs : a.eval s = v) (hx : a.eval x = vx) {w w' : World} {v' : Value} (hr : (Builtin.append_ #[t, t] o.type #[v, vx]).run P w = .ok v' w') : (execOp a.eval o).run P w = .ok (.value v') w' := by
 unfold execOp
 simp only [ho, resolve, invoke, builtin, Sem.run_bind, Sem.run_pure, Result.andThen_ok, List.map_toArray, List.map_cons, List.map_nil, hs, hx, hr]
end
end
section
open Go.RowKit Go.Deep
theorem lt_step' {i L : Nat} (h : (i : Int) < (L : Int)) : L - (intOf (.int .i64 ((i + 1 : Nat) : Int))).toNat < L - (intOf (.int .i64 (i : Int))).toNat := by simp only [intOf, Int.toNat_natCast]; omega

end
section
open Go.RowKit

abbrev Tx := List UInt8
def insL : List Tx → Tx → List Tx
 | [], s => [s]
 | x :: r, s => if s < x then s :: x :: r else x :: insL r s
def addL (l : List Tx) (s : Tx) : List Tx := if s ∈ l then l else insL l s

end
section
open Go.RowKit Go.Deep
theorem own_base {W : World} {B B' : Nat} {e : TypeId} {sz : Nat} {v : Value} {n : Nat} {xs : List Value} (h : W.ownsRow B e sz v n xs) (hB : B' ≤ B) : W.ownsRow B' e sz v n xs := by
 obtain ⟨h0, ⟨rfl, h1⟩ | ⟨g, cap, cur, rfl, hb, hr⟩⟩ := h
 · exact ⟨h0, Or.inl ⟨rfl, h1⟩⟩
 · exact ⟨h0, Or.inr ⟨g, cap, cur, rfl, Nat.le_trans hB hb, hr⟩⟩
def wholeW (n : Nd) (k : Fo) : Wst := walkW n k [] ⟨[], [], 0⟩
def textsOf (ss : List ByteArray) : List Tx := ss.map fun s => s.data.toList
def freeOf (s : Wst) : List Tx := (textsOf s.free).foldl addL []

end
section
open Go.RowKit
section
variable {P : Program} {l0 : List Oper} {Q : Exit → Act → World → Prop} {S : World → Prop}
theorem z33 {id n : Nat} {ls : Array Bool} {a : Act} {w : World} (hm : P.follows .mixedOrders = true) (hn : l0.length = n) (hl : Array.replicate l0.length false = ls) (h : wpAnyH P .any l0.toArray (NoPanic Q) S n ls a w.drew) : (Code.region id l0.toArray true).wp P Q a w := by
 refine wp_region_noPanic (wp_region_held (S := S) hm ?_)
 subst hn
 subst hl
 simpa using h
theorem z12 {i n : Nat} {o : Oper} {v : Value} {ls ls' : Array Bool} {a a' : Act} {w : World} (hs : Region.noSelect l0.toArray = true) (ho : l0[i]? = some o) (hf : Region.free .any l0.toArray ls i = true) (hr : (Region.ready .any l0.toArray ls).contains i = true) (hl : ls.setIfInBounds i true = ls')
   (hw : Region.wanted o (yielded l0.toArray a.tmps) = true) (hy : ∀ w', S w' → (execOp a.eval o).run P w' = .ok (.value v) w') (hS : S w) (hput : a.put o.dst v = a') (h : wpAnyH P .any l0.toArray (NoPanic Q) S n ls' a' w) : wpAnyH P .any l0.toArray (NoPanic Q) S (n + 1) ls a w := by
 subst hl
 subst hput
 exact wpAnyH_take (v := v) (by simpa using ho) hs hf hr (fun c a w h => h) (Or.inl ⟨hw, hy⟩) hS h
theorem pick_o (i : Nat) (v : Value) {n : Nat} {o : Oper} {ls ls' : Array Bool} {a a' : Act} {w : World} (hS : S w) (h : wpAnyH P .any l0.toArray (NoPanic Q) S n ls' a' w) (hs : Region.noSelect l0.toArray = true := by kernel_rfl) (ho : l0[i]? = some o := by exact rfl) (hf : Region.free .any l0.toArray ls i = true := by kernel_rfl) (hr : (Region.ready .any l0.toArray ls).contains i = true := by kernel_rfl) (hl : ls.setIfInBounds i true = ls' := by exact rfl)
   (hw : Region.wanted o (yielded l0.toArray a.tmps) = true := by exact rfl) (hy : ∀ w', S w' → (execOp a.eval o).run P w' = .ok (.value v) w' := by intro w' h; simp [go_sem]) (hput : a.put o.dst v = a' := by simp [go_sem]; exact rfl) : wpAnyH P .any l0.toArray (NoPanic Q) S (n + 1) ls a w :=
 z12 hs ho hf hr hl hw hy hS hput h
theorem z29 {i n : Nat} {o : Oper} {v : Value} {ls ls' : Array Bool} {a a' : Act} {w w1 : World} (ho : l0[i]? = some o) (hr : (Region.ready .any l0.toArray ls == [i]) = true) (hl : ls.setIfInBounds i true = ls')
   (hw : Region.wanted o (yielded l0.toArray a.tmps) = true) (hrun : (execOp a.eval o).run P w = .ok (.value v) w1) (hS : S w1) (hput : a.put o.dst v = a') (h : wpAnyH P .any l0.toArray (NoPanic Q) S n ls' a' w1) : wpAnyH P .any l0.toArray (NoPanic Q) S (n + 1) ls a w := by
 subst hl
 subst hput
 have ho' : l0.toArray[i]? = some o := by simpa using ho
 refine wpAnyH_all (rs := [i]) (by simpa using hr) (by simp) (fun j hj => ?_)
 rw [List.mem_singleton] at hj
 subst hj
 unfold wpOp
 rw [ho']
 dsimp only
 rw [if_pos hw]
 refine Or.inl ?_
 unfold Oper.wp
 rw [hrun]
 exact ⟨hS, h⟩
theorem z27 {i n : Nat} {o : Oper} {f : FuncId} {args : Array Value} {ls ls' : Array Bool} {a : Act} {w : World} (ho : l0[i]? = some o) (hr : (Region.ready .any l0.toArray ls == [i]) = true) (hl : ls.setIfInBounds i true = ls') (hw : Region.wanted o (yielded l0.toArray a.tmps) = true)
   (hrun : (execOp a.eval o).run P w = .ok (.enter f args) w) (h : Calls P f args w fun e w' => ∃ v, e = .returned v ∧ S w' ∧ wpAnyH P .any l0.toArray (NoPanic Q) S n ls' (a.put o.dst v) w') : wpAnyH P .any l0.toArray (NoPanic Q) S (n + 1) ls a w := by
 subst hl
 have ho' : l0.toArray[i]? = some o := by simpa using ho
 refine wpAnyH_all (rs := [i]) (by simpa using hr) (by simp) (fun j hj => ?_)
 rw [List.mem_singleton] at hj
 subst hj
 unfold wpOp
 rw [ho']
 dsimp only
 rw [if_pos hw]
 refine Or.inl ?_
 unfold Oper.wp
 rw [hrun]
 refine Calls.mono h ?_
 rintro e w3 ⟨v, rfl, hS, hn⟩
 exact ⟨hS, hn⟩
def PickMk (P : Program) (l0 : List Oper) (Q : Exit → Act → World → Prop) (S : World → Prop) (n : Nat) (ls : Array Bool) (a : Act) (w : World) (i : Nat) : Prop :=
 ∃ o v w1, l0[i]? = some o ∧ Region.wanted o (yielded l0.toArray a.tmps) = true ∧ (execOp a.eval o).run P w = .ok (.value v) w1 ∧ S w1 ∧ wpAnyH P .any l0.toArray (NoPanic Q) S n (ls.setIfInBounds i true) (a.put o.dst v) w1
theorem pick_fork {i j n : Nat} {ls : Array Bool} {a : Act} {w : World} (hr : (Region.ready .any l0.toArray ls == [i, j]) = true) (h1 : PickMk P l0 Q S n ls a w i) (h2 : PickMk P l0 Q S n ls a w j) : wpAnyH P .any l0.toArray (NoPanic Q) S (n + 1) ls a w := by
 refine wpAnyH_all (rs := [i, j]) (by simpa using hr) (by simp) (fun k hk => ?_)
 have hk' : PickMk P l0 Q S n ls a w k := by
   simp only [List.mem_cons, List.not_mem_nil, or_false] at hk
   rcases hk with rfl | rfl
   · exact h1
   · exact h2
 obtain ⟨o, v, w1, ho, hw, hrun, hS, h⟩ := hk'
 have ho' : l0.toArray[k]? = some o := by simpa using ho
 unfold wpOp
 rw [ho']
 dsimp only
 rw [if_pos hw]
 refine Or.inl ?_
 unfold Oper.wp
 rw [hrun]
 exact ⟨hS, h⟩
theorem z15 {n : Nat} {ls : Array Bool} {a a' : Act} {w : World} (ha : a = a') (h : wpAnyH P .any l0.toArray (NoPanic Q) S n ls a' w) : wpAnyH P .any l0.toArray (NoPanic Q) S n ls a w := by
 subst ha
 exact h
theorem z32 {n : Nat} {ls : Array Bool} {a : Act} {w : World} (hr : (Region.ready .any l0.toArray ls).isEmpty = true) (h : Q .normal a w) : wpAnyH P .any l0.toArray (NoPanic Q) S n ls a w :=
 wpAnyH_done (Q := NoPanic Q) (by simpa using hr) (NoPanic.normal h) _
end
end
section
open Go.RowKit Go.Deep
def NamesV (W : World) (v : Value) (ss : List ByteArray) : Prop :=
 (v = .slice none 0 0 ∧ ss = []) ∨ ∃ g o c, v = .slice (some ⟨g, o, none⟩) ss.length c ∧ g < W.heap.size ∧ ∀ j, j < ss.length → W.cell? ⟨g, o + j, none⟩ = some (.string (ss.getD j ⟨#[]⟩))
theorem names_none (W : World) : NamesV W (.slice none 0 0) [] := Or.inl ⟨rfl, rfl⟩
theorem NamesV.below {W W' : World} {v : Value} {ss : List ByteArray} (h : NamesV W v ss) (hb : Below W.heap.size W W') : NamesV W' v ss := by
 rcases h with h | ⟨g, o, c, e, hg, hc⟩
 · exact Or.inl h
 · exact Or.inr ⟨g, o, c, e, Nat.lt_of_lt_of_le hg hb.size, fun j hj => (hb.cell (p := ⟨g, o + j, none⟩) hg).trans (hc j hj)⟩
theorem NamesV.slice {W : World} {v : Value} {ss : List ByteArray} (h : NamesV W v ss) : ∃ ad c, v = .slice ad ss.length c := by
 rcases h with ⟨rfl, rfl⟩ | ⟨g, o, c, rfl, -⟩
 · exact ⟨none, 0, rfl⟩
 · exact ⟨_, _, rfl⟩
theorem NamesV.cell {W : World} {ad : Option Addr} {n c : Nat} {ss : List ByteArray} (h : NamesV W (.slice ad n c) ss) (hn : 0 < n) : n = ss.length ∧ ∃ g o, ad = some ⟨g, o, none⟩ ∧ g < W.heap.size ∧ ∀ j, j < n → W.cell? ⟨g, o + j, none⟩ = some (.string (ss.getD j ⟨#[]⟩)) := by
 rcases h with ⟨e, -⟩ | ⟨g, o, c', e, hg, hc⟩
 · cases e; omega
 · cases e
   exact ⟨rfl, g, o, rfl, hg, hc⟩
theorem strRow_len (ss : List ByteArray) : (strRow ss).length = ss.length := by unfold strRow; simp
theorem strRow_get (ss : List ByteArray) (j : Nat) (h : j < ss.length) : (strRow ss)[j]? = some (.string (ss.getD j ⟨#[]⟩)) := by
 unfold strRow
 simp [List.getD, h]
theorem names_owns {W : World} {B : Nat} {v : Value} {n : Nat} {ss : List ByteArray} (h : W.ownsRow B 9 1 v n (strRow ss)) : NamesV W v ss ∧ n = ss.length := by
 have hl : n = ss.length := by have := h.1; rw [strRow_len] at this; omega
 subst hl
 refine ⟨?_, rfl⟩
 have h' := h
 obtain ⟨-, ⟨rfl, h0⟩ | ⟨g, cap, cur, rfl, hB, hc, hr⟩⟩ := h
 · exact Or.inl ⟨rfl, List.eq_nil_of_length_eq_zero h0⟩
 · refine Or.inr ⟨g, 0, cap, rfl, z26 hc, fun j hj => ?_⟩
   rw [Nat.zero_add, h'.cellAt j (by omega), strRow_get ss j hj]
theorem names_lit (w : World) (o1 : Obj) (ss : List ByteArray) : NamesV ((w.alloc o1).alloc (.cells (strRow ss).toArray 9)) (.slice (some ⟨w.heap.size + 1, 0, none⟩) ss.length ss.length) ss := by
 have hh := (MapKept.heap_alloc (w.alloc o1) (.cells (strRow ss).toArray 9)).1
 rw [show (w.alloc o1).heap.size = w.heap.size + 1 by simp] at hh
 refine Or.inr ⟨_, 0, _, rfl, z26 hh, fun j hj => ?_⟩
 rw [Nat.zero_add, z11 hh j]
 simp only [List.getElem?_toArray]
 exact strRow_get ss j hj
theorem app_names {W : World} {B : Nat} {v xv : Value} {n : Nat} {ss ys : List ByteArray} (ty : TypeId) (hown : W.ownsRow B 9 1 v n (strRow ss)) (hx : NamesV W xv ys) (hm : ss.length + ys.length ≤ 200000) (hB : B ≤ W.heap.size) :
   ∃ v' W', (Builtin.append_ #[75, 75] ty #[v, xv]).run Tryz.prog W = .ok v' W' ∧ W'.ownsRow B 9 1 v' (ss ++ ys).length (strRow (ss ++ ys)) ∧ W.grownBy W' v.ownBlock ∧ (v'.ownBlock = v.ownBlock ∨ v'.ownBlock = some W.heap.size) := by
 obtain ⟨i0, hi, hz0, hz1, hz2⟩ := info_parts info_str
 have hn : n = ss.length := (names_owns hown).2
 subst hn
 rcases hx with ⟨rfl, rfl⟩ | ⟨g, o, c, rfl, hg, hc⟩
 · refine ⟨v, W, run_append_owned_none W B 75 ty 9 i0 1 Tryz.underlying75 hi v _ _ hown, ?_, ⟨rfl, rfl, rfl, Nat.le_refl _, fun _ _ _ => rfl⟩, Or.inl rfl⟩
   rw [List.append_nil]
   exact hown
 · obtain ⟨v', W', hr, h2, h3, -, h5⟩ := run_append_own_at (P := Tryz.prog) W B 75 ty 9 i0 _ 1 16 Tryz.underlying75 hi hz0 hz1 hz2 rfl (by decide) v ss.length (strRow ss) hown ⟨g, o, none⟩ ys.length c (strRow ys) (by rw [strRow_len]; omega)
     (fun j u hu => by
       have hj : j < ys.length := by
         have := (List.getElem?_eq_some_iff.1 hu).1
         rwa [strRow_len] at this
       rw [strRow_get ys j hj] at hu
       cases hu
       rw [Addr.add_lit]
       exact hc j hj)
     (fun u hu => by unfold strRow at hu; rw [List.mem_map] at hu; obtain ⟨x, -, rfl⟩ := hu; rfl) (by unfold maxLen; omega) (by omega) hB
   refine ⟨v', W', hr, ?_, h3, h5⟩
   rw [List.length_append]
   have e : strRow (ss ++ ys) = strRow ss ++ strRow ys := by unfold strRow; rw [List.map_append]
   rw [e]
   exact h2
set_option maxHeartbeats 2000000 in
set_option maxRecDepth 100000 in
theorem binds_calls (n : Nd) (i : Nat) (w : World) (hk2 : n.kind = 9 → i < 2) :
   Calls Tryz.prog 81 #[ndV n, .int .i64 (i : Int)] w fun e w' => ∃ sv, e = .returned sv ∧ NamesV w' sv (knownZ n i) ∧ Below w.heap.size w w' := by
 obtain ⟨kd, num, a, b, c, kids⟩ := n
 have h1 : ∀ i : Nat, ((i : Int) = 1) ↔ (i = 1) := fun i => by omega
 have h2 : ∀ i : Nat, ((i : Int) = 2) ↔ (i = 2) := fun i => by omega
 unfold ndV
 dsimp only at hk2 ⊢
 go_enter Tryz.func81, Tryz.ntmps81
 by_cases k6 : kd = 6
 · have hz : knownZ ⟨kd, num, a, b, c, kids⟩ i = [a] := by unfold knownZ; rw [if_pos (Or.inl k6)]
   rw [hz]
   subst k6
   go_wp2_with fail
   go_ret
   exact ⟨_, rfl, names_lit w _ [a], below_two w _ _⟩
 by_cases k25 : kd = 25
 · have hz : knownZ ⟨kd, num, a, b, c, kids⟩ i = [a] := by unfold knownZ; rw [if_pos (Or.inr k25)]
   rw [hz]
   subst k25
   go_wp2_with fail
   go_ret
   exact ⟨_, rfl, names_lit w _ [a], below_two w _ _⟩
 by_cases k8 : kd = 8
 · subst k8
   by_cases i1 : (i : Int) = 1
   · have hz : knownZ ⟨8, num, a, b, c, kids⟩ i = [a] := by unfold knownZ; rw [if_neg (by dsimp only; decide), if_pos (Or.inl ⟨rfl, (h1 i).1 i1⟩)]
     rw [hz]
     go_wp2_with fail
     go_ret
     exact ⟨_, rfl, names_lit w _ [a], below_two w _ _⟩
   · have hz : knownZ ⟨8, num, a, b, c, kids⟩ i = [] := by
       unfold knownZ
       rw [if_neg (by dsimp only; decide), if_neg (by rintro (⟨-, h⟩ | ⟨h, -⟩); exact i1 ((h1 i).2 h); cases h), if_neg (by rintro (h | ⟨h, -⟩) <;> cases h), if_neg (by dsimp only; decide)]
     rw [hz]
     go_wp2_with fail
     go_ret
     exact ⟨_, rfl, names_none _, one_new' w _⟩
 by_cases k9 : kd = 9
 · subst k9
   by_cases i1 : (i : Int) = 0
   · have hz : knownZ ⟨9, num, a, b, c, kids⟩ i = [a, b] := by
       unfold knownZ
       rw [if_neg (by dsimp only; decide), if_neg (by rintro (⟨h, -⟩ | ⟨-, h⟩); cases h; omega), if_pos (Or.inl rfl)]
     rw [hz]
     go_wp2_with fail
     go_ret
     exact ⟨_, rfl, names_lit w _ [a, b], below_two w _ _⟩
   · have i1' : i = 1 := by
       have := hk2 rfl
       omega
     have hz : knownZ ⟨9, num, a, b, c, kids⟩ i = [a] := by unfold knownZ; rw [if_neg (by dsimp only; decide), if_pos (Or.inr ⟨rfl, i1'⟩)]
     rw [hz]
     go_wp2_with fail
     go_ret
     exact ⟨_, rfl, names_lit w _ [a], below_two w _ _⟩
 by_cases k20 : kd = 20
 · subst k20
   by_cases i2 : (i : Int) = 2
   · have hz : knownZ ⟨20, num, a, b, c, kids⟩ i = [a, b] := by
       unfold knownZ
       rw [if_neg (by dsimp only; decide), if_neg (by rintro (⟨h, -⟩ | ⟨h, -⟩) <;> cases h), if_pos (Or.inr ⟨rfl, (h2 i).1 i2⟩)]
     rw [hz]
     go_wp2_with fail
     go_ret
     exact ⟨_, rfl, names_lit w _ [a, b], below_two w _ _⟩
   · have hz : knownZ ⟨20, num, a, b, c, kids⟩ i = [] := by
       unfold knownZ
       rw [if_neg (by dsimp only; decide), if_neg (by rintro (⟨h, -⟩ | ⟨h, -⟩) <;> cases h), if_neg (by rintro (h | ⟨-, h⟩); cases h; exact i2 ((h2 i).2 h)), if_neg (by dsimp only; decide)]
     rw [hz]
     go_wp2_with fail
     go_ret
     exact ⟨_, rfl, names_none _, one_new' w _⟩
 by_cases k26 : kd = 26
 · subst k26
   have hz : knownZ ⟨26, num, a, b, c, kids⟩ i = [b, c] := by
     unfold knownZ
     rw [if_neg (by dsimp only; decide), if_neg (by rintro (⟨h, -⟩ | ⟨h, -⟩) <;> cases h), if_neg (by rintro (h | ⟨h, -⟩) <;> cases h), if_pos rfl]
   rw [hz]
   go_wp2_with fail
   go_ret
   exact ⟨_, rfl, names_lit w _ [b, c], below_two w _ _⟩
 · have hz : knownZ ⟨kd, num, a, b, c, kids⟩ i = [] := by
     unfold knownZ
     rw [if_neg (by rintro (h | h); exact k6 h; exact k25 h), if_neg (by rintro (⟨h, -⟩ | ⟨h, -⟩); exact k8 h; exact k9 h), if_neg (by rintro (h | ⟨h, -⟩); exact k9 h; exact k20 h), if_neg k26]
   rw [hz]
   have b6 : (kd == 6) = false := beq_eq_false_iff_ne.2 k6
   have b25 : (kd == 25) = false := beq_eq_false_iff_ne.2 k25
   have b8 : (kd == 8) = false := beq_eq_false_iff_ne.2 k8
   have b9 : (kd == 9) = false := beq_eq_false_iff_ne.2 k9
   have b20 : (kd == 20) = false := beq_eq_false_iff_ne.2 k20
   have b26 : (kd == 26) = false := beq_eq_false_iff_ne.2 k26
   clear hz h1 h2
   go_wp2_with fail
   go_ret
   exact ⟨_, rfl, names_none _, one_new' w _⟩
end
section
open Go.RowKit

structure Picked (B : Nat) (p : Nat) (w w' : World) : Prop where
 cell0 : w'.cell? ⟨B, 0, none⟩ = w.cell? ⟨B, 0, none⟩
 cell1 : w'.cell? ⟨B, 1, none⟩ = some (.int .i64 ((p : Int) + 1))
 frozen : w'.frozen? ⟨B, 1, none⟩ = w.frozen? ⟨B, 1, none⟩
 other : ∀ a : Addr, a.block ≠ B → w'.cell? a = w.cell? a
 below : ∀ n, n ≤ B → Below n w w'
 how : w' = w.setCell ⟨B, 1, none⟩ (.int .i64 ((p : Int) + 1)) ∨ w' = (w.setCell ⟨B, 1, none⟩ (.int .i64 ((p : Int) + 1))).drew
theorem picked_set (B p : Nat) (w : World) (h1 : w.cell? ⟨B, 1, none⟩ = some (.int .i64 p)) : Picked B p w (w.setCell ⟨B, 1, none⟩ (.int .i64 ((p : Int) + 1))) where
 cell0 := by simp [go_sem]
 cell1 := World.cell?_setCell_same' _ _ _ (by rw [h1]; rfl)
 frozen := by simp
 other := fun a ha => World.cell?_of_block (w := w) (Below.heap_setCell w _ _ a.block ha)
 below := fun n hn => (Below.refl n w).setCell hn _
 how := Or.inl rfl
theorem picked_drew (B p : Nat) (w : World) (h1 : w.cell? ⟨B, 1, none⟩ = some (.int .i64 p)) : Picked B p w (w.setCell ⟨B, 1, none⟩ (.int .i64 ((p : Int) + 1))).drew where
 cell0 := (picked_set B p w h1).cell0
 cell1 := (picked_set B p w h1).cell1
 frozen := (picked_set B p w h1).frozen
 other := (picked_set B p w h1).other
 below := fun n hn => ((picked_set B p w h1).below n hn).drew
 how := Or.inr rfl
theorem xor_i64 (a b : Nat) (ha : a < 4611686018427387904) (hb : b < 4611686018427387904) :
   bits .xor .i64 (a : Int) (b : Int) = ((a ^^^ b : Nat) : Int) := by
 have hx : a ^^^ b < 2 ^ 62 := Nat.xor_lt_two_pow (by omega) (by omega)
 have h1 : (BitVec.ofInt 64 (a : Int)).toNat = a := by
   rw [BitVec.ofInt_natCast, BitVec.toNat_ofNat]; exact Nat.mod_eq_of_lt (by omega)
 have h2 : (BitVec.ofInt 64 (b : Int)).toNat = b := by
   rw [BitVec.ofInt_natCast, BitVec.toNat_ofNat]; exact Nat.mod_eq_of_lt (by omega)
 show IntKind.i64.wrap ((BitVec.ofInt 64 (a : Int) ^^^ BitVec.ofInt 64 (b : Int)).toNat : Int) = _
 rw [BitVec.toNat_xor, h1, h2, IntKind.wrap_i64]
 omega
def PickPost (B p : Nat) (n : Int) (w : World) (e : Ending) (w' : World) : Prop :=
 (∃ r, e = .returned (.int .i64 r) ∧ 0 ≤ r ∧ (0 < n → r < n)) ∧ Picked B p w w'
set_option maxRecDepth 100000 in
theorem pick_none (B : Nat) (a0 : Option Addr) (len cap : Nat) (p : Nat) (n : Int) (w : World)
   (h0 : w.cell? ⟨B, 0, none⟩ = some (.slice a0 len cap)) (h1 : w.cell? ⟨B, 1, none⟩ = some (.int .i64 p))
   (hfz : w.frozen? ⟨B, 1, none⟩ = false) (hp : p ≤ 1000000) (hn : n < 1 ∨ len = 0) :
   Calls Tryz.prog 16 #[.pointer (some ⟨B, 0, none⟩), .int .i64 n] w (PickPost B p n w) := by
 have hn' : n < 1 ∨ ((len : Int) == 0) = true := by
   rcases hn with h | h
   · exact Or.inl h
   · exact Or.inr (by simp [h])
 rcases hn' with hn' | hn'
 all_goals
   go_enter Tryz.func16, Tryz.ntmps16
   go_wp2
   all_goals
     go_ret
     exact ⟨⟨0, rfl, Int.le_refl _, fun h => h⟩, picked_set B p w h1⟩
set_option maxRecDepth 100000 in
theorem pick_near (B b off : Nat) (len cap : Nat) (p : Nat) (z n : Int) (w : World)
   (h0 : w.cell? ⟨B, 0, none⟩ = some (.slice (some ⟨b, off, none⟩) len cap)) (h1 : w.cell? ⟨B, 1, none⟩ = some (.int .i64 p))
   (hfz : w.frozen? ⟨B, 1, none⟩ = false) (hp : p ≤ 1000000) (hn : 1 ≤ n) (hlt : p < len) (hbB : b ≠ B)
   (hz : w.cell? ⟨b, off + p, none⟩ = some (.int .u8 z)) (hz0 : 0 ≤ z) (hz1 : z ≤ 255) :
   Calls Tryz.prog 16 #[.pointer (some ⟨B, 0, none⟩), .int .i64 n] w (PickPost B p n w) := by
 have hl : ((len : Int) == 0) = false := by simp; omega
 go_enter Tryz.func16, Tryz.ntmps16
 go_wp2
 go_ret
 exact ⟨⟨z % n, rfl, Int.emod_nonneg _ (by omega), fun h => Int.emod_lt_of_pos _ h⟩, picked_set B p w h1⟩
theorem far_sum (z y : Int) (p len : Nat) (hp : p ≤ 1000000) (hz0 : 0 ≤ z) (hz1 : z ≤ 255) (hy0 : 0 ≤ y) (hy1 : y ≤ 255) :
   ∃ x : Nat, x ≤ 1000000000000 ∧ wrap64 (z * 131 + y * 1117 + (p : Int) * 29 + wrap64 (wrap64 ((p : Int) / (len : Int)) * 53)) = (x : Int) := by
 have hq : ((p : Int) / (len : Int)) = ((p / len : Nat) : Int) := by omega
 have hq2 : p / len ≤ p := Nat.div_le_self _ _
 rw [hq]
 generalize p / len = q at hq2
 rw [IntWalk.wrap64_in (q : Int) ⟨by omega, by omega⟩, IntWalk.wrap64_in ((q : Int) * 53) ⟨by omega, by omega⟩, IntWalk.wrap64_in _ ⟨by omega, by omega⟩]
 exact ⟨(z * 131 + y * 1117 + (p : Int) * 29 + (q : Int) * 53).toNat, by omega, by omega⟩
theorem far_nat (x : Nat) (hx : x ≤ 1000000000000) : bits .xor .i64 (x : Int) (wrap64 ((x : Int) / 64)) = ((x ^^^ (x / 64) : Nat) : Int) := by
 rw [show ((x : Int) / 64) = ((x / 64 : Nat) : Int) by omega, IntWalk.wrap64_in _ ⟨by omega, by omega⟩]
 exact xor_i64 _ _ (by omega) (by omega)
theorem far_low (x : Nat) (hx : x ≤ 1000000000000) (n : Int) : 0 ≤ (bits .xor .i64 (x : Int) (wrap64 ((x : Int) / 64))).tmod n := by
 rw [far_nat x hx]
 exact Int.tmod_nonneg _ (Int.natCast_nonneg _)
theorem far_high (x : Nat) (hx : x ≤ 1000000000000) (n : Int) (hn : 0 < n) : (bits .xor .i64 (x : Int) (wrap64 ((x : Int) / 64))).tmod n < n := by
 rw [far_nat x hx]
 exact Int.tmod_lt_of_pos _ hn
set_option maxRecDepth 100000 in
theorem pick_far (B b off : Nat) (len cap : Nat) (p : Nat) (z y n : Int) (w : World)
   (h0 : w.cell? ⟨B, 0, none⟩ = some (.slice (some ⟨b, off, none⟩) len cap)) (h1 : w.cell? ⟨B, 1, none⟩ = some (.int .i64 p))
   (hfz : w.frozen? ⟨B, 1, none⟩ = false) (hp : p ≤ 1000000) (hn : 1 ≤ n) (hl1 : 1 ≤ len) (hlt : len ≤ p) (hbB : b ≠ B)
   (i j : Nat) (hi : ((p : Int)) % (len : Int) = i) (hj : ((p : Int) * 7 + 3) % (len : Int) = j) (hil : i < len) (hjl : j < len)
   (hz : w.cell? ⟨b, off + i, none⟩ = some (.int .u8 z)) (hz0 : 0 ≤ z) (hz1 : z ≤ 255)
   (hy : w.cell? ⟨b, off + j, none⟩ = some (.int .u8 y)) (hy0 : 0 ≤ y) (hy1 : y ≤ 255) :
   Calls Tryz.prog 16 #[.pointer (some ⟨B, 0, none⟩), .int .i64 n] w (PickPost B p n w) := by
 have hl : ((len : Int) == 0) = false := by simp; omega
 obtain ⟨x, hx, ex⟩ := far_sum z y p len hp hz0 hz1 hy0 hy1
 have hx' : Hid (x ≤ 1000000000000) := hx
 have ex' : Hid (wrap64 (z * 131 + y * 1117 + (p : Int) * 29 + wrap64 (wrap64 ((p : Int) / (len : Int)) * 53)) = (x : Int)) := ex
 clear ex hx
 go_enter Tryz.func16, Tryz.ntmps16
 go_wp2
 go_region
 rw [ex'.out]
 go_wp2
 go_ret
 refine ⟨⟨_, rfl, ?_, ?_⟩, picked_drew B p w h1⟩
 · exact far_low x hx'.out n
 · exact far_high x hx'.out n
theorem pick_calls (B : Nat) (a0 : Option Addr) (len cap : Nat) (p : Nat) (n : Int) (w : World)
   (h0 : w.cell? ⟨B, 0, none⟩ = some (.slice a0 len cap)) (h1 : w.cell? ⟨B, 1, none⟩ = some (.int .i64 p))
   (hfz : w.frozen? ⟨B, 1, none⟩ = false) (hp : p ≤ 1000000)
   (hc : 0 < len → ∃ b off, a0 = some ⟨b, off, none⟩ ∧ b ≠ B ∧ ∀ i, i < len → ∃ z, w.cell? ⟨b, off + i, none⟩ = some (.int .u8 z) ∧ 0 ≤ z ∧ z ≤ 255) :
   Calls Tryz.prog 16 #[.pointer (some ⟨B, 0, none⟩), .int .i64 n] w (PickPost B p n w) := by
 by_cases hn : n < 1 ∨ len = 0
 · exact pick_none B a0 len cap p n w h0 h1 hfz hp hn
 · have hl : 0 < len := by omega
   obtain ⟨b, off, rfl, hbB, hz⟩ := hc hl
   by_cases hlt : p < len
   · obtain ⟨z, hz, hz0, hz1⟩ := hz p hlt
     exact pick_near B b off len cap p z n w h0 h1 hfz hp (by omega) hlt hbB hz hz0 hz1
   · obtain ⟨z, hzc, hz0, hz1⟩ := hz (p % len) (Nat.mod_lt _ hl)
     obtain ⟨y, hyc, hy0, hy1⟩ := hz ((p * 7 + 3) % len) (Nat.mod_lt _ hl)
     exact pick_far B b off len cap p z y n w h0 h1 hfz hp (by omega) hl (by omega) hbB (p % len) ((p * 7 + 3) % len) (by omega) (by first | (push_cast; rfl) | simp)
       (Nat.mod_lt _ hl) (Nat.mod_lt _ hl) hzc hz0 hz1 hyc hy0 hy1
end
section
open Go.RowKit Go.Deep

structure Dr where
 B : Nat
 G : Nat
 a0 : Option Addr
 len : Nat
 cap : Nat
def Dr.free (d : Dr) (W : World) (q : Nat) : Prop := q < W.heap.size ∧ q ≠ d.B ∧ q ≠ d.G

structure Grew (d : Dr) (W W' : World) : Prop where
 os : W'.os = W.os
 tape : W'.tape = W.tape
 output : W'.output = W.output
 size : W.heap.size ≤ W'.heap.size
 block : ∀ q, d.free W q → W'.heap[q]? = W.heap[q]?
theorem Grew.refl (d : Dr) (W : World) : Grew d W W := ⟨rfl, rfl, rfl, Nat.le_refl _, fun _ _ => rfl⟩
theorem Dr.free.grew {d : Dr} {W W' : World} {q : Nat} (h : d.free W q) (g : Grew d W W') : d.free W' q := ⟨Nat.lt_of_lt_of_le h.1 g.size, h.2⟩
theorem Grew.trans {d : Dr} {W W' W'' : World} (h : Grew d W W') (g : Grew d W' W'') : Grew d W W'' :=
 ⟨g.os.trans h.os, g.tape.trans h.tape, g.output.trans h.output, Nat.le_trans h.size g.size, fun q hq => (g.block q (hq.grew h)).trans (h.block q hq)⟩
theorem Grew.of_below {d : Dr} {W W' : World} (h : Below W.heap.size W W') : Grew d W W' := ⟨h.os, h.tape, h.output, h.size, fun q hq => h.block q hq.1⟩
theorem Grew.alloc {d : Dr} {W W' : World} (h : Grew d W W') (o : Obj) : Grew d W (W'.alloc o) := h.trans (Grew.of_below ((Below.refl _ _).alloc (Nat.le_refl _) _))
theorem Grew.drew {d : Dr} {W W' : World} (h : Grew d W W') : Grew d W W'.drew := ⟨h.os, h.tape, h.output, h.size, h.block⟩
theorem Grew.below {d : Dr} {W W' : World} {n : Nat} (h : Grew d W W') (hn : n ≤ W.heap.size) (h1 : n ≤ d.B) (h2 : n ≤ d.G) : Below n W W' :=
 ⟨h.os, h.tape, h.output, h.size, fun q hq => h.block q ⟨by omega, by omega, by omega⟩⟩
theorem Grew.cell {d : Dr} {W W' : World} (h : Grew d W W') {p : Addr} (hq : d.free W p.block) : W'.cell? p = W.cell? p := World.cell?_of_block (h.block _ hq)
def Lies (d : Dr) (W : World) (v : Value) (n sz : Nat) (F : Nat → Value) : Prop :=
 (v = .slice none 0 0 ∧ n = 0) ∨ ∃ b off cap, v = .slice (some ⟨b, off, none⟩) n cap ∧ n ≤ cap ∧ off = 0 ∧ d.free W b ∧ ∀ i, i < n * sz → W.cell? ⟨b, off + i, none⟩ = some (F i)
theorem Lies.grew {d : Dr} {W W' : World} {v : Value} {n sz : Nat} {F : Nat → Value} (h : Lies d W v n sz F) (g : Grew d W W') : Lies d W' v n sz F := by
 rcases h with h | ⟨b, off, cap, rfl, hn, hz, hq, hc⟩
 · exact Or.inl h
 · exact Or.inr ⟨b, off, cap, rfl, hn, hz, hq.grew g, fun i hi => (g.cell (p := ⟨b, off + i, none⟩) hq).trans (hc i hi)⟩
theorem Lies.is {d : Dr} {W : World} {v : Value} {n sz : Nat} {F : Nat → Value} (h : Lies d W v n sz F) : ∃ ad cp, v = .slice ad n cp := by
 rcases h with ⟨rfl, rfl⟩ | ⟨b, off, cap, rfl, -⟩
 · exact ⟨_, _, rfl⟩
 · exact ⟨_, _, rfl⟩
theorem Lies.at {d : Dr} {W : World} {ad : Option Addr} {n cp n' sz : Nat} {F : Nat → Value} (h : Lies d W (.slice ad n cp) n' sz F) (h0 : 0 < n) : n' = n ∧ n ≤ cp ∧ ∃ b off, ad = some ⟨b, off, none⟩ ∧ d.free W b ∧ ∀ i, i < n * sz → W.cell? ⟨b, off + i, none⟩ = some (F i) := by
 rcases h with ⟨e, rfl⟩ | ⟨b, off, cap, e, hn, -, hq, hc⟩
 · cases e; omega
 · cases e
   exact ⟨rfl, hn, b, off, rfl, hq, hc⟩

structure Kn where
 name : ByteArray
 ty : Int
 res : Int

instance : Inhabited Kn := ⟨⟨ByteArray.empty, 0, 0⟩⟩
def Kn.cell (k : Kn) : Nat → Value
 | 0 => .string k.name
 | 1 => .int .i64 k.ty
 | _ => .int .i64 k.res
def Brief (s : ByteArray) : Prop := s.size ≤ 100
def NodesD (d : Dr) (W : World) (v : Value) (ns : List Nd) : Prop := Lies d W v ns.length 6 (fun i => (ns.getD (i / 6) default).cell (i % 6)) ∧ ∀ n ∈ ns, Brief n.a ∧ Brief n.b ∧ Brief n.c
def KnowsD (d : Dr) (W : World) (v : Value) (ks : List Kn) : Prop := Lies d W v ks.length 3 (fun i => (ks.getD (i / 3) default).cell (i % 3)) ∧ ∀ k ∈ ks, Brief k.name
def BoolsD (d : Dr) (W : World) (v : Value) (ms : List Bool) : Prop := Lies d W v ms.length 1 (fun i => .bool (ms.getD i false))
theorem NodesD.grew {d : Dr} {W W' : World} {v : Value} {ns : List Nd} (h : NodesD d W v ns) (g : Grew d W W') : NodesD d W' v ns := ⟨h.1.grew g, h.2⟩
theorem KnowsD.grew {d : Dr} {W W' : World} {v : Value} {ks : List Kn} (h : KnowsD d W v ks) (g : Grew d W W') : KnowsD d W' v ks := ⟨h.1.grew g, h.2⟩
theorem BoolsD.grew {d : Dr} {W W' : World} {v : Value} {ms : List Bool} (h : BoolsD d W v ms) (g : Grew d W W') : BoolsD d W' v ms := Lies.grew h g
theorem getD_mem {α : Type} [Inhabited α] {l : List α} {k : Nat} (h : k < l.length) : l.getD k default ∈ l := by
 rw [show l.getD k default = l[k] by simp [List.getD, h]]
 exact List.getElem_mem h
theorem cell_div {α : Type} [Inhabited α] (l : List α) (f : α → Nat → Value) (sz k c : Nat) (hc : c < sz) : f (l.getD ((k * sz + c) / sz) default) ((k * sz + c) % sz) = f (l.getD k default) c := by
 rw [Nat.mul_comm k sz, Nat.mul_add_div (by omega), Nat.div_eq_of_lt hc, Nat.mul_add_mod, Nat.mod_eq_of_lt hc, Nat.add_zero]
theorem NodesD.slice {d : Dr} {W : World} {v : Value} {ns : List Nd} (h : NodesD d W v ns) : NodeSlice W v ns := by
 obtain ⟨h, -⟩ := h
 rcases h with ⟨rfl, h⟩ | ⟨b, off, cap, rfl, hn, -, hq, hc⟩
 · exact ⟨none, 0, by rw [h], Or.inl (List.eq_nil_of_length_eq_zero h)⟩
 · refine ⟨_, cap, rfl, Or.inr ⟨b, off, rfl, hq.1, fun k hk c hc' => ?_⟩⟩
   rw [Nat.add_assoc, hc (k * 6 + c) (by omega)]
   exact congrArg some (cell_div ns Nd.cell 6 k c hc')
theorem KnowsD.at {d : Dr} {W : World} {ad : Option Addr} {n cp : Nat} {ks : List Kn} (h : KnowsD d W (.slice ad n cp) ks) {i : Nat} (hi : i < n) : ∃ b off nm ty res, ad = some ⟨b, off, none⟩ ∧ ks.getD i default = ⟨nm, ty, res⟩ ∧ Brief nm ∧ d.free W b ∧ W.cell? ⟨b, off + i * 3, none⟩ = some (.string nm) ∧ W.cell? ⟨b, off + i * 3 + 1, none⟩ = some (.int .i64 ty) ∧ W.cell? ⟨b, off + i * 3 + 2, none⟩ = some (.int .i64 res) := by
 obtain ⟨h, hB⟩ := h
 obtain ⟨hl, -, b, off, rfl, hq, hc⟩ := h.at (by omega)
 obtain ⟨k, hk⟩ : ∃ k, ks.getD i default = k := ⟨_, rfl⟩
 have hb := hB _ (getD_mem (l := ks) (k := i) (by omega))
 have e : ∀ c, c < 3 → W.cell? ⟨b, off + (i * 3 + c), none⟩ = some (k.cell c) := fun c hc' => by
   rw [hc (i * 3 + c) (by omega), ← hk]
   exact congrArg some (cell_div ks Kn.cell 3 i c hc')
 rw [hk] at hb
 obtain ⟨nm, ty, res⟩ := k
 exact ⟨b, off, nm, ty, res, rfl, hk, hb, hq, e 0 (by omega), e 1 (by omega), e 2 (by omega)⟩
theorem KnowsD.is {d : Dr} {W : World} {v : Value} {ks : List Kn} (h : KnowsD d W v ks) : ∃ ad cp, v = .slice ad ks.length cp := h.1.is
theorem NodesD.is {d : Dr} {W : World} {v : Value} {ns : List Nd} (h : NodesD d W v ns) : ∃ ad cp, v = .slice ad ns.length cp := h.1.is
theorem BoolsD.is {d : Dr} {W : World} {v : Value} {ms : List Bool} (h : BoolsD d W v ms) : ∃ ad cp, v = .slice ad ms.length cp := Lies.is h
theorem BoolsD.at {d : Dr} {W : World} {ad : Option Addr} {n cp : Nat} {ms : List Bool} (h : BoolsD d W (.slice ad n cp) ms) {i : Nat} (hi : i < n) : ∃ b off, ad = some ⟨b, off, none⟩ ∧ d.free W b ∧ W.cell? ⟨b, off + i, none⟩ = some (.bool (ms.getD i false)) := by
 obtain ⟨hl, -, b, off, rfl, hq, hc⟩ := Lies.at h (by omega)
 exact ⟨b, off, rfl, hq, hc i (by omega)⟩

structure Cn where
 p : Nat
 left : Int
 next : Nat

structure Rdr (d : Dr) (W : World) (p : Nat) : Prop where
 blk : W.heap[d.B]? = some (.cells #[.slice d.a0 d.len d.cap, .int .i64 (p : Int)] 49)
 bytes : 0 < d.len → ∃ b off, d.a0 = some ⟨b, off, none⟩ ∧ d.free W b ∧ ∀ i, i < d.len → ∃ z, W.cell? ⟨b, off + i, none⟩ = some (.int .u8 z) ∧ 0 ≤ z ∧ z ≤ 255

structure Gen (d : Dr) (ve : Value) (W : World) (s : Cn) : Prop where
 rd : Rdr d W s.p
 blk : W.heap[d.G]? = some (.cells #[.pointer (some ⟨d.B, 0, none⟩), ve, .int .i64 s.left, .int .i64 (s.next : Int)] 89)
 ne : d.B ≠ d.G
theorem Rdr.same {d : Dr} {W W' : World} {p : Nat} (h : Rdr d W p) (g : Grew d W W') (e : W'.heap[d.B]? = W.heap[d.B]?) : Rdr d W' p := by
 refine ⟨e.trans h.blk, fun hl => ?_⟩
 obtain ⟨b, off, ea, hq, hz⟩ := h.bytes hl
 refine ⟨b, off, ea, hq.grew g, fun i hi => ?_⟩
 obtain ⟨z, hz, h2⟩ := hz i hi
 exact ⟨z, (g.cell (p := ⟨b, off + i, none⟩) hq).trans hz, h2⟩
theorem Gen.below {d : Dr} {ve : Value} {W W' : World} {s : Cn} (h : Gen d ve W s) (hb : Below W.heap.size W W') : Gen d ve W' s :=
 ⟨h.rd.same (Grew.of_below hb) (hb.block _ (z26 h.rd.blk)), (hb.block _ (z26 h.blk)).trans h.blk, h.ne⟩
theorem Gen.alloc {d : Dr} {ve : Value} {W : World} {s : Cn} (h : Gen d ve W s) (o : Obj) : Gen d ve (W.alloc o) s := h.below ((Below.refl _ _).alloc (Nat.le_refl _) _)
theorem Gen.drew {d : Dr} {ve : Value} {W : World} {s : Cn} (h : Gen d ve W s) : Gen d ve W.drew s := ⟨⟨h.rd.blk, h.rd.bytes⟩, h.blk, h.ne⟩
theorem Rdr.below {d : Dr} {W W' : World} {p : Nat} (h : Rdr d W p) (hb : Below W.heap.size W W') : Rdr d W' p := h.same (Grew.of_below hb) (hb.block _ (z26 h.blk))
def Spent (s s' : Cn) (t c : Nat) : Prop := s'.p ≤ s.p + t ∧ s'.next ≤ s.next + t ∧ s.left - t ≤ s'.left ∧ s'.left ≤ s.left ∧ t + 300 * s'.left.toNat ≤ 300 * s.left.toNat + c
def Fit (s : Cn) (c : Nat) : Prop := s.p + 300 * s.left.toNat + c ≤ 900000 ∧ s.next + 300 * s.left.toNat + c ≤ 900000 ∧ -900000 ≤ s.left - 300 * s.left.toNat - c ∧ s.left ≤ 1000
theorem Rdr.picked {d : Dr} {W W' : World} {p : Nat} (h : Rdr d W p) (hg : Grew d W W') (hb : W'.heap[d.B]? = some (.cells #[.slice d.a0 d.len d.cap, .int .i64 ((p : Int) + 1)] 49)) : Rdr d W' (p + 1) := by
 refine ⟨by rw [hb]; push_cast; rfl, fun hl => ?_⟩
 obtain ⟨b, off, ea, hq, hz⟩ := h.bytes hl
 refine ⟨b, off, ea, hq.grew hg, fun i hi => ?_⟩
 obtain ⟨z, hz, h2⟩ := hz i hi
 exact ⟨z, (hg.cell (p := ⟨b, off + i, none⟩) hq).trans hz, h2⟩
theorem z71 {d : Dr} {W : World} {p : Nat} (h : Rdr d W p) (hp : p ≤ 1000000) (n : Int) (hn : 0 < n) :
   Calls Tryz.prog 16 #[.pointer (some ⟨d.B, 0, none⟩), .int .i64 n] W fun e W' => ∃ m : Int, e = .returned (.int .i64 m) ∧ 0 ≤ m ∧ m < n ∧ Rdr d W' (p + 1) ∧ Grew d W W' ∧ W'.heap.size = W.heap.size ∧ (∀ q, q ≠ d.B → W'.heap[q]? = W.heap[q]?) := by
 have hc0 := z11 h.blk 0
 have hc1 := z11 h.blk 1
 refine (pick_calls d.B d.a0 d.len d.cap p n W (by simpa using hc0) (by simpa using hc1) (z13 h.blk 1) hp (fun hl => ?_)).mono ?_
 · obtain ⟨b, off, ea, hq, hz⟩ := h.bytes hl
   exact ⟨b, off, ea, hq.2.1, hz⟩
 · rintro e W' ⟨⟨r, rfl, hr0, hr1⟩, hP⟩
   have hw := hP.how
   have hs : W'.heap.size = W.heap.size := by rcases hw with rfl | rfl <;> simp [World.setCell, World.drew]
   have ho : ∀ q, q ≠ d.B → W'.heap[q]? = W.heap[q]? := fun q hq => by
     rcases hw with rfl | rfl
     · exact Below.heap_setCell W ⟨d.B, 1, none⟩ _ q hq
     · exact Below.heap_setCell W ⟨d.B, 1, none⟩ _ q hq
   have hg : Grew d W W' := ⟨by rcases hw with rfl | rfl <;> rfl, by rcases hw with rfl | rfl <;> rfl, by rcases hw with rfl | rfl <;> rfl, Nat.le_of_eq hs.symm, fun q hq => ho q hq.2.1⟩
   refine ⟨r, rfl, hr0, hr1 hn, h.picked hg ?_, hg, hs, ho⟩
   rcases hw with rfl | rfl
   · simp [World.setCell, Array.getElem?_modify, h.blk]
   · simp [World.setCell, World.drew, Array.getElem?_modify, h.blk]
end
section
open Go.RowKit Go.Deep
def rowZ {α : Type} (f : α → Nat → Value) (sz : Nat) (l : List α) : List Value := l.flatMap fun x => (List.range sz).map (f x)
theorem rowZ_len {α : Type} (f : α → Nat → Value) (sz : Nat) : ∀ l : List α, (rowZ f sz l).length = l.length * sz
 | [] => by simp [rowZ]
 | x :: l => by
   have := rowZ_len f sz l
   simp only [rowZ, List.flatMap_cons, List.length_append, List.length_map, List.length_range, List.length_cons] at this ⊢
   rw [this, Nat.succ_mul]
   omega
theorem rowZ_app {α : Type} (f : α → Nat → Value) (sz : Nat) (l m : List α) : rowZ f sz (l ++ m) = rowZ f sz l ++ rowZ f sz m := by
 simp [rowZ, List.flatMap_append]
theorem z48 {α : Type} [Inhabited α] (f : α → Nat → Value) (sz : Nat) (hz : 0 < sz) : ∀ (l : List α) (i : Nat), i < l.length * sz → (rowZ f sz l)[i]? = some (f (l.getD (i / sz) default) (i % sz))
 | [], i, h => by simp at h
 | x :: l, i, h => by
   have e : rowZ f sz (x :: l) = (List.range sz).map (f x) ++ rowZ f sz l := by simp [rowZ]
   rw [e]
   by_cases hi : i < sz
   · rw [List.getElem?_append_left (by simpa using hi), Nat.div_eq_of_lt hi, Nat.mod_eq_of_lt hi]
     simp [hi]
   · have hi' : sz ≤ i := by omega
     rw [List.length_cons, Nat.succ_mul] at h
     rw [List.getElem?_append_right (by simpa using hi')]
     simp only [List.length_map, List.length_range]
     rw [z48 f sz hz l (i - sz) (by omega)]
     have e1 : i / sz = (i - sz) / sz + 1 := Nat.div_eq_sub_div hz hi'
     have e2 : i % sz = (i - sz) % sz := by rw [Nat.mod_eq_sub_mod hi']
     rw [e1, e2]
     simp [List.getD]
theorem z36 {P : Program} {ops : Array Oper} {rest : List Oper} {o : Oper} {a : Act} {w : World} {Q : Exit → Act → World → Prop} (hgd : o.guard = none) (s x : Operand) (t : TypeId)
   (ho : o.op = .call { callee := .builtin .append, args := #[s, x], argTypes := #[t, t] }) (v xv : Value) (hs : a.eval s = v) (hx : a.eval x = xv) {R : Value → World → Prop}
   (hr : ∀ ty, ∃ v' w', (Builtin.append_ #[t, t] ty #[v, xv]).run P w = .ok v' w' ∧ R v' w') (h : ∀ v' w', R v' w' → wpList P ops Q rest (a.put o.dst v') w') :
   wpList P ops Q (o :: rest) a w := by
 refine wpList_plain hgd fun K hK => ?_
 obtain ⟨v', w', hr, h2⟩ := hr o.type
 unfold Oper.wp execOp
 simp only [ho, resolve, invoke, builtin, Sem.run_bind, Sem.run_pure, Result.andThen_ok, List.map_toArray, List.map_cons, List.map_nil, hs, hx, hr]
 exact hK _ _ (h v' w' h2)

section
variable {d : Dr}
theorem lies_owns {α : Type} [Inhabited α] {f : α → Nat → Value} {sz : Nat} (hz : 0 < sz) {W : World} {B : Nat} {t : TypeId} {v : Value} {l : List α} (h : W.ownsRow B t sz v l.length (rowZ f sz l)) (h1 : d.B < B) (h2 : d.G < B) : Lies d W v l.length sz (fun i => f (l.getD (i / sz) default) (i % sz)) := by
 have h' := h
 obtain ⟨-, ⟨rfl, h0⟩ | ⟨g, cap, cur, rfl, hB, hc, hnc, -⟩⟩ := h
 · exact Or.inl ⟨rfl, h0⟩
 · refine Or.inr ⟨g, 0, cap, rfl, hnc, rfl, ⟨z26 hc, by omega, by omega⟩, fun i hi => ?_⟩
   rw [Nat.zero_add, h'.cellAt i hi, z48 f sz hz l i hi]
theorem lies_lit {α : Type} [Inhabited α] {f : α → Nat → Value} {sz : Nat} (hz : 0 < sz) (W : World) (t : TypeId) (l : List α) (c : Array Value) (hc : c = (rowZ f sz l).toArray) (h1 : d.B < W.heap.size) (h2 : d.G < W.heap.size) : Lies d (W.alloc (.cells c t)) (.slice (some ⟨W.heap.size, 0, none⟩) l.length l.length) l.length sz (fun i => f (l.getD (i / sz) default) (i % sz)) := by
 subst hc
 have hh := (MapKept.heap_alloc W (.cells (rowZ f sz l).toArray t)).1
 refine Or.inr ⟨_, 0, _, rfl, Nat.le_refl _, rfl, ⟨z26 hh, by omega, by omega⟩, fun i hi => ?_⟩
 rw [Nat.zero_add, z11 hh i, List.getElem?_toArray, z48 f sz hz l i hi]
theorem app_row {α : Type} [Inhabited α] {f : α → Nat → Value} (h1 : ∀ x i, (f x i).oneCell' = true) {sz : Nat} {W : World} {B : Nat} {t e : TypeId} {i0 : TypeInfo} {z : Value} {by_ : Nat} (ht : Tryz.prog.underlying t = some (.slice e)) (hi : Tryz.prog.info? e = some i0) (hz0 : i0.zero = some z) (hz1 : i0.size = sz) (hz2 : i0.bytes = by_) (hzs : z.cells.size = sz) (hsz : 0 < sz) (hby : by_ ≤ 100) {v xv : Value} {l m : List α}
   (hown : W.ownsRow B e sz v l.length (rowZ f sz l)) (hx : Lies d W xv m.length sz (fun i => f (m.getD (i / sz) default) (i % sz))) (hm : l.length + m.length ≤ 1000000) (hB : B ≤ W.heap.size) (ty : TypeId) :
   ∃ v' W', (Builtin.append_ #[t, t] ty #[v, xv]).run Tryz.prog W = .ok v' W' ∧ W'.ownsRow B e sz v' (l ++ m).length (rowZ f sz (l ++ m)) ∧ W.grownBy W' v.ownBlock := by
 rcases hx with ⟨rfl, hl⟩ | ⟨b, off, cap, rfl, -, -, hq, hc⟩
 · have : m = [] := List.eq_nil_of_length_eq_zero hl
   subst this
   refine ⟨v, W, run_append_owned_none W B t ty e i0 sz ht hi v _ _ hown, ?_, ⟨rfl, rfl, rfl, Nat.le_refl _, fun _ _ _ => rfl⟩⟩
   rw [List.append_nil]
   exact hown
 · obtain ⟨v', W', hr, h2, h3, -, -⟩ := run_append_own_at (P := Tryz.prog) W B t ty e i0 z sz by_ ht hi hz0 hz1 hz2 hzs hsz v l.length (rowZ f sz l) hown ⟨b, off, none⟩ m.length cap (rowZ f sz m) (rowZ_len f sz m)
     (fun j u hu => by
       have hj : j < m.length * sz := by
         have := (List.getElem?_eq_some_iff.1 hu).1
         rwa [rowZ_len] at this
       rw [z48 f sz hsz m j hj] at hu
       cases hu
       rw [Addr.add_lit]
       exact hc j hj)
     (fun u hu => by
       unfold rowZ at hu
       rw [List.mem_flatMap] at hu
       obtain ⟨x, -, hu⟩ := hu
       rw [List.mem_map] at hu
       obtain ⟨i, -, rfl⟩ := hu
       exact h1 x i) (by unfold maxLen; omega) (by
         have := Nat.mul_le_mul hm hby
         omega) hB
   refine ⟨v', W', hr, ?_, h3⟩
   rw [List.length_append, rowZ_app]
   exact h2
end
theorem nd_one (n : Nd) (i : Nat) : (n.cell i).oneCell' = true := by
 match i with
 | 0 => rfl
 | 1 => rfl
 | 2 => rfl
 | 3 => rfl
 | 4 => rfl
 | _ + 5 => rfl
theorem kn_one (k : Kn) (i : Nat) : (k.cell i).oneCell' = true := by
 match i with
 | 0 => rfl
 | 1 => rfl
 | _ + 2 => rfl
theorem info_know : (Tryz.prog.info? 161).map (fun i => (i.zero, i.size, i.bytes)) = some (some (.agg #[.string ByteArray.empty, .int .i64 0, .int .i64 0]), 3, 32) := by kernel_rfl
theorem z14 : Brief ByteArray.empty := by unfold Brief; decide
set_option maxRecDepth 100000 in
theorem node_calls {d : Dr} (k n : Int) (W : World) (h1 : d.B < W.heap.size) (h2 : d.G < W.heap.size) :
   Calls Tryz.prog 31 #[.int .i64 k, .int .i64 n] W fun e W' => ∃ v, e = .returned v ∧ NodesD d W' v [⟨k, n, ByteArray.empty, ByteArray.empty, ByteArray.empty, 0⟩] ∧ Below W.heap.size W W' := by
 go_enter Tryz.func31, Tryz.ntmps31
 go_wp2_with fail
 go_ret
 refine ⟨_, rfl, ⟨lies_lit (f := Nd.cell) (sz := 6) (by decide) W 116 [⟨k, n, ByteArray.empty, ByteArray.empty, ByteArray.empty, 0⟩] _ rfl h1 h2, fun n hn => ?_⟩, (Below.refl _ _).alloc (Nat.le_refl _) _⟩
 rw [List.mem_singleton] at hn
 subst hn
 exact ⟨z14, z14, z14⟩
def KidsV (d : Dr) (W : World) (v : Value) (ls : List (Value × List Nd)) : Prop :=
 Lies d W v ls.length 1 (fun i => (ls.getD i (.slice none 0 0, [])).1) ∧ ∀ x ∈ ls, NodesD d W x.1 x.2
def flatL (ls : List (Value × List Nd)) : List Nd := ls.flatMap Prod.snd
theorem flatL_take (ls : List (Value × List Nd)) (i : Nat) (h : i < ls.length) : flatL (ls.take (i + 1)) = flatL (ls.take i) ++ (ls.getD i (.slice none 0 0, [])).2 := by
 unfold flatL
 rw [List.take_add_one, List.flatMap_append]
 simp [List.getD, h]
theorem flatL_le (ls : List (Value × List Nd)) (i : Nat) : (flatL (ls.take i)).length ≤ (flatL ls).length := by
 conv => rhs; rw [← List.take_append_drop i ls]
 unfold flatL
 rw [List.flatMap_append, List.length_append]
 omega
theorem flatL_mem {ls : List (Value × List Nd)} {n : Nd} (h : n ∈ flatL ls) : ∃ x ∈ ls, n ∈ x.2 := by
 unfold flatL at h
 rw [List.mem_flatMap] at h
 exact h
theorem put_step {W wr W' : World} {acc ns : List Nd} {out v' : Value} (h : wr.ownsRow W.heap.size 116 6 out acc.length (rowZ Nd.cell 6 acc) ∧ Below W.heap.size W wr) (h' : W'.ownsRow W.heap.size 116 6 v' (acc ++ ns).length (rowZ Nd.cell 6 (acc ++ ns)) ∧ wr.grownBy W' out.ownBlock) :
   W'.ownsRow W.heap.size 116 6 v' (acc ++ ns).length (rowZ Nd.cell 6 (acc ++ ns)) ∧ Below W.heap.size W W' :=
 ⟨h'.1, h.2.grown h'.2 h.2.size (fun k hk => (h.1.lt k hk).1)⟩
set_option maxHeartbeats 4000000 in
set_option maxRecDepth 100000 in
theorem gput_calls {d : Dr} (k nm kd : Int) (a b c : ByteArray) (W : World) (vk : Value) (ls : List (Value × List Nd)) (h1 : d.B < W.heap.size) (h2 : d.G < W.heap.size) (hk : KidsV d W vk ls) (hb : Brief a ∧ Brief b ∧ Brief c) (hl : ls.length ≤ 1000) (hm : (flatL ls).length ≤ 800000) :
   Calls Tryz.prog 56 #[.agg #[.int .i64 k, .int .i64 nm, .string a, .string b, .string c, .int .i64 kd], vk] W fun e W' => ∃ v, e = .returned v ∧ NodesD d W' v (⟨k, nm, a, b, c, (ls.length : Int)⟩ :: flatL ls) ∧ Below W.heap.size W W' := by
 obtain ⟨L, hL⟩ : ∃ L, ls.length = L := ⟨_, rfl⟩
 have HK := hid hk
 have HL := hid (And.intro hL (And.intro hl (And.intro hm (And.intro hb (And.intro h1 h2)))))
 obtain ⟨ad, cp, rfl⟩ := hk.1.is
 rw [hL] at HK ⊢
 clear hk hb hm hl h1 h2 hL
 obtain ⟨i0, hinf, hz0, hz1, hz2⟩ := info_parts info_node
 go_enter Tryz.func56, Tryz.ntmps56
 go_wp2_with fail
 go_loopw [5, 6] (fun out i wr => ∃ (i' : Nat) (acc : List Nd), i = .int .i64 i' ∧ i' ≤ L ∧ Hid (wr.ownsRow W.heap.size 116 6 out acc.length (rowZ Nd.cell 6 acc) ∧ Below W.heap.size W wr) ∧ Hid (acc = ⟨k, nm, a, b, c, (L : Int)⟩ :: flatL (ls.take i'))) (fun _ i _ => L - (intOf i).toNat)
 case atStart =>
   have hw : (W.alloc (.cells #[.int .i64 k, .int .i64 nm, .string a, .string b, .string c, .int .i64 (L : Int)] 116)).heap.size = W.heap.size + 1 := by simp
   have ho := World.ownsRow_lit (base := W.heap.size) (e := 116) (size := 6) (W.alloc (.cells #[.int .i64 k, .int .i64 nm, .string a, .string b, .string c, .int .i64 (L : Int)] 116)) #[.int .i64 k, .int .i64 nm, .string a, .string b, .string c, .int .i64 (L : Int)] 1 (by rw [hw]; omega) (by unfold maxLen; omega) rfl
   rw [hw] at ho
   exact ⟨0, [⟨k, nm, a, b, c, (L : Int)⟩], rfl, Nat.zero_le _, ⟨ho, ((Below.refl _ _).alloc (Nat.le_refl _) _).alloc (by rw [hw]; omega) _⟩, by show _ = _; simp [flatL]⟩
 case round =>
   obtain ⟨i', acc, rfl, hle, HO, HA⟩ := hrel
   by_cases hi : (i' : Int) < (L : Int)
   · have hil : i' < ls.length := by have := HL.out.1; omega
     obtain ⟨-, -, g, o, rfl, hq, hc⟩ := HK.out.1.at (by omega : 0 < L)
     have hcell := (HO.out.2.cell (p := ⟨g, o + i', none⟩) hq.1).trans (hc i' (by omega))
     have hnd := HK.out.2 _ (List.mem_of_getElem? (l := ls) (i := i') (a := ls.getD i' (.slice none 0 0, [])) (by simp [List.getD, hil]))
     have hft := flatL_take ls i' hil
     have hfl := flatL_le ls (i' + 1)
     generalize ls.getD i' (.slice none 0 0, []) = kx at hcell hnd hft
     obtain ⟨kv, kns⟩ := kx
     dsimp only at hcell hnd hft
     have HN := hid (hnd.grew (Grew.of_below HO.out.2))
     have HF := hid (And.intro hft hfl)
     obtain ⟨kad, kcp, rfl⟩ := hnd.is
     clear hnd hft hfl hc hil
     have hi0 : (0 : Int) ≤ (i' : Int) := by omega
     have hstep : L - (intOf (.int .i64 ((i' + 1 : Nat) : Int))).toNat < L - (intOf (.int .i64 (i' : Int))).toNat := z60 hi
     have HS : Hid (acc ++ kns = ⟨k, nm, a, b, c, (L : Int)⟩ :: flatL (ls.take (i' + 1)) ∧ acc.length + kns.length ≤ 900000) := by
       have e : acc ++ kns = ⟨k, nm, a, b, c, (L : Int)⟩ :: flatL (ls.take (i' + 1)) := by rw [HA.out, HF.out.1]; rfl
       refine ⟨e, ?_⟩
       rw [← List.length_append, e, List.length_cons]
       have := HF.out.2
       have := HL.out.2.2.1
       omega
     clear HA HF
     go_wp2_with (at_builtin; refine z36 rfl _ _ 53 rfl _ _ rfl rfl (fun ty => app_row nd_one Tryz.underlying53 hinf hz0 hz1 hz2 rfl (by decide) (by decide) HO.out.1 HN.out.1 (by have := HS.out.2; omega) HO.out.2.size ty) ?_; intro v5 w5 hv5; have HO5 := hid (put_step HO.out hv5); clear hv5)
     try rw [z31 (by have := HL.out.2.1; have := HL.out.1; omega)]
     exact ⟨⟨i' + 1, acc ++ kns, rfl, by omega, HO5, HS.out.1⟩, hstep⟩
   · have e : i' = L := by omega
     subst e
     have HE : Hid (acc = ⟨k, nm, a, b, c, (i' : Int)⟩ :: flatL ls) := by
       show _ = _
       rw [HA.out, List.take_of_length_le (by have := HL.out.1; omega)]
     clear HA
     go_wp2_with fail
     go_ret
     refine ⟨_, rfl, ⟨?_, fun n hn => ?_⟩, HO.out.2⟩
     · rw [← HE.out]
       exact lies_owns (f := Nd.cell) (by decide) HO.out.1 HL.out.2.2.2.2.1 HL.out.2.2.2.2.2
     · rw [List.mem_cons] at hn
       rcases hn with rfl | hn
       · exact HL.out.2.2.2.1
       · obtain ⟨x, hx, hnx⟩ := flatL_mem hn
         exact (HK.out.2 x hx).2 n hnx
end
section
open Go.RowKit Go.Deep
def NmT (W : World) (v : Value) (ss : List ByteArray) : Prop :=
 (v = .slice none 0 0 ∧ ss = []) ∨ ∃ g c cur, v = .slice (some ⟨g, 0, none⟩) ss.length c ∧ W.heap[g]? = some (.cells cur 9) ∧ ∀ j, j < ss.length → cur[j]? = some (.string (ss.getD j ⟨#[]⟩))
theorem NmT.names {W : World} {v : Value} {ss : List ByteArray} (h : NmT W v ss) : NamesV W v ss := by
 rcases h with h | ⟨g, c, cur, e, hg, hc⟩
 · exact Or.inl h
 · exact Or.inr ⟨g, 0, c, e, z26 hg, fun j hj => by rw [Nat.zero_add, z11 hg j]; exact hc j hj⟩
theorem NmT.is {W : World} {v : Value} {ss : List ByteArray} (h : NmT W v ss) : ∃ ad c, v = .slice ad ss.length c := h.names.slice
theorem nmT_owns {W : World} {B : Nat} {v : Value} {n : Nat} {ss : List ByteArray} (h : W.ownsRow B 9 1 v n (strRow ss)) : NmT W v ss := by
 have hl : n = ss.length := (names_owns h).2
 subst hl
 obtain ⟨-, ⟨rfl, h0⟩ | ⟨g, cap, cur, rfl, hB, hg, h1, h2, h3, h4⟩⟩ := h
 · exact Or.inl ⟨rfl, List.eq_nil_of_length_eq_zero h0⟩
 · refine Or.inr ⟨g, cap, cur, rfl, hg, fun j hj => ?_⟩
   have e := congrArg (fun l => l[j]?) h4
   simp only [List.getElem?_take_of_lt (show j < ss.length * 1 by omega), strRow_get ss j hj, Array.getElem?_toList] at e
   exact e

structure Cf (W W' : World) : Prop where
 os : W'.os = W.os
 tape : W'.tape = W.tape
 output : W'.output = W.output
 size : W.heap.size ≤ W'.heap.size
 block : ∀ (q : Nat) (c : Array Value) (t : TypeId), W.heap[q]? = some (Obj.cells c t) → t ≠ 31 → t ≠ 84 → t ≠ 80 → W'.heap[q]? = W.heap[q]?
theorem Cf.of_below {W W' : World} (h : Below W.heap.size W W') : Cf W W' := ⟨h.os, h.tape, h.output, h.size, fun q _ _ hq _ _ _ => h.block q (z26 hq)⟩
theorem Cf.refl (W : World) : Cf W W := Cf.of_below (Below.refl _ _)
theorem Cf.trans {W W' W'' : World} (h : Cf W W') (h' : Cf W' W'') : Cf W W'' :=
 ⟨h'.os.trans h.os, h'.tape.trans h.tape, h'.output.trans h.output, Nat.le_trans h.size h'.size, fun q c t hq h1 h2 h3 => by
   have e := h.block q c t hq h1 h2 h3
   exact (h'.block q c t (e.trans hq) h1 h2 h3).trans e⟩
theorem NmT.frame {W W' : World} {v : Value} {ss : List ByteArray} (h : NmT W v ss) (hf : Cf W W') : NmT W' v ss := by
 rcases h with h | ⟨g, c, cur, e, hg, hc⟩
 · exact Or.inl h
 · exact Or.inr ⟨g, c, cur, e, (hf.block g cur _ hg (by decide) (by decide) (by decide)).trans hg, hc⟩
def ltV (x : Lt × Value) : Nat → Value
 | 0 => .int .i64 (x.1.t.at_ : Int)
 | 1 => x.2
 | 2 => .int .i64 (x.1.fr : Int)
 | _ => .int .i64 (x.1.wh : Int)

instance : Inhabited Lt := ⟨⟨default, [], 0, 0⟩⟩

structure Cm (W0 : World) (Mb : Nat) (ve vt : Value) (s : Cs) (ls : List (Lt × Value)) (vo vl : Value) (W : World) : Prop where
 blk : W.heap[Mb]? = some (.cells #[ve, vt, vo, vl] 80)
 orow : W.ownsRow W0.heap.size 31 4 vo s.out.length (rowZ In.cell 4 s.out)
 lrow : W.ownsRow W0.heap.size 84 4 vl ls.length (rowZ ltV 4 ls)
 lnam : ∀ x ∈ ls, NmT W x.2 x.1.names
 lfst : ls.map Prod.fst = s.later
 os : W.os = W0.os
 tape : W.tape = W0.tape
 output : W.output = W0.output
 size : W0.heap.size ≤ W.heap.size
 kept : ∀ q, q < W0.heap.size → q ≠ Mb → W.heap[q]? = W0.heap[q]?
 nb : Mb < W0.heap.size
def CmE (W0 : World) (Mb : Nat) (ve vt : Value) (s : Cs) (W : World) : Prop := ∃ ls vo vl, Cm W0 Mb ve vt s ls vo vl W
theorem row_keeps {W W' : World} {B : Nat} {e : TypeId} {sz : Nat} {v : Value} {n : Nat} {xs : List Value} (h : W.ownsRow B e sz v n xs) (he : ∀ g c, W.heap[g]? = some (.cells c e) → B ≤ g → W'.heap[g]? = W.heap[g]?) : W'.ownsRow B e sz v n xs :=
 own_same h (fun g eg => by obtain ⟨hB, c, hc⟩ := own_type h eg; exact he g c hc hB)
theorem Cm.below {W0 : World} {Mb : Nat} {ve vt : Value} {s : Cs} {ls : List (Lt × Value)} {vo vl : Value} {W W' : World} (h : Cm W0 Mb ve vt s ls vo vl W) (hb : Below W.heap.size W W') : Cm W0 Mb ve vt s ls vo vl W' :=
 ⟨(hb.block _ (z26 h.blk)).trans h.blk, row_keeps h.orow (fun g _ hc _ => hb.block g (z26 hc)), row_keeps h.lrow (fun g _ hc _ => hb.block g (z26 hc)), fun x hx => (h.lnam x hx).frame (Cf.of_below hb), h.lfst,
   hb.os.trans h.os, hb.tape.trans h.tape, hb.output.trans h.output, Nat.le_trans h.size hb.size, fun q hq hn => (hb.block q (Nat.lt_of_lt_of_le hq h.size)).trans (h.kept q hq hn), h.nb⟩
theorem CmE.below {W0 : World} {Mb : Nat} {ve vt : Value} {s : Cs} {W W' : World} (h : CmE W0 Mb ve vt s W) (hb : Below W.heap.size W W') : CmE W0 Mb ve vt s W' := by
 obtain ⟨ls, vo, vl, h⟩ := h
 exact ⟨ls, vo, vl, h.below hb⟩
theorem maker_set2 {W : World} {Mb : Nat} {a b c d : Value} (h : W.heap[Mb]? = some (.cells #[a, b, c, d] 80)) (v : Value) : (W.setCell ⟨Mb, 2, none⟩ v).heap[Mb]? = some (.cells #[a, b, v, d] 80) := by
 simp [World.setCell, Array.getElem?_modify, h]
theorem maker_set3 {W : World} {Mb : Nat} {a b c d : Value} (h : W.heap[Mb]? = some (.cells #[a, b, c, d] 80)) (v : Value) : (W.setCell ⟨Mb, 3, none⟩ v).heap[Mb]? = some (.cells #[a, b, c, v] 80) := by
 simp [World.setCell, Array.getElem?_modify, h]
theorem row_ne {W : World} {B : Nat} {e : TypeId} {sz : Nat} {v : Value} {n : Nat} {xs : List Value} (h : W.ownsRow B e sz v n xs) {q : Nat} {c : Array Value} {t : TypeId} (hq : W.heap[q]? = some (.cells c t)) (ht : t ≠ e) : some q ≠ v.ownBlock := fun e2 => by
 obtain ⟨-, cur, hc⟩ := own_type h e2.symm
 rw [hq] at hc
 cases hc
 exact ht rfl
theorem cm_put {W0 : World} {Mb : Nat} {ve vt : Value} {s : Cs} {ls : List (Lt × Value)} {vo vl : Value} {W W' : World} (h : Cm W0 Mb ve vt s ls vo vl W) (i : In) {vo' : Value} (ho : W'.ownsRow W0.heap.size 31 4 vo' (s.out.length + 1) (rowZ In.cell 4 s.out ++ [.int .i64 i.op, .int .i64 i.a, .int .i64 i.b, .int .i64 i.c])) (hg : W.grownBy W' vo.ownBlock) :
   CmE W0 Mb ve vt (s.put i) (W'.setCell ⟨Mb, 2, none⟩ vo') ∧ Cf W (W'.setCell ⟨Mb, 2, none⟩ vo') := by
 have e : ∀ q, q ≠ Mb → (W'.setCell ⟨Mb, 2, none⟩ vo').heap[q]? = W'.heap[q]? := fun q hq => Below.heap_setCell W' ⟨Mb, 2, none⟩ _ q hq
 have hs : (W'.setCell ⟨Mb, 2, none⟩ vo').heap.size = W'.heap.size := by simp [World.setCell]
 have hb' := (hg.block Mb (z26 h.blk) (row_ne h.orow h.blk (by decide))).trans h.blk
 have hf : Cf W (W'.setCell ⟨Mb, 2, none⟩ vo') := ⟨hg.os, hg.tape, hg.output, by rw [hs]; exact hg.size, fun q c t hq h1 _ h3 => (e q (fun e2 => by subst e2; rw [h.blk] at hq; cases hq; exact h3 rfl)).trans (hg.block q (z26 hq) (row_ne h.orow hq h1))⟩
 refine ⟨⟨ls, vo', vl, maker_set2 hb' _, ?_, ?_, fun x hx => (h.lnam x hx).frame hf, h.lfst, hg.os.trans h.os, hg.tape.trans h.tape, hg.output.trans h.output, by rw [hs]; exact Nat.le_trans h.size hg.size, fun q hq hn => ?_, h.nb⟩, hf⟩
 · have e3 : rowZ In.cell 4 (s.out ++ [i]) = rowZ In.cell 4 s.out ++ [.int .i64 i.op, .int .i64 i.a, .int .i64 i.b, .int .i64 i.c] := by rw [rowZ_app]; rfl
   show (W'.setCell ⟨Mb, 2, none⟩ vo').ownsRow _ _ _ _ (s.out ++ [i]).length (rowZ In.cell 4 (s.out ++ [i]))
   rw [e3, List.length_append]
   exact row_keeps ho (fun g c hc _ => e g (fun e2 => by subst e2; rw [hb'] at hc; cases hc))
 · exact row_keeps h.lrow (fun g c hc _ => (e g (fun e2 => by subst e2; rw [h.blk] at hc; cases hc)).trans (hg.block g (z26 hc) (row_ne h.orow hc (by decide))))
 · refine (e q hn).trans ((hg.block q (Nat.lt_of_lt_of_le hq h.size) (fun e2 => ?_)).trans (h.kept q hq hn))
   have := (own_type h.orow e2.symm).1
   omega
theorem cm_wait {W0 : World} {Mb : Nat} {ve vt : Value} {s : Cs} {ls : List (Lt × Value)} {vo vl : Value} {W W' : World} (h : Cm W0 Mb ve vt s ls vo vl W) (l : Lt) {v : Value} (hn : NmT W v l.names) {vl' : Value} (ho : W'.ownsRow W0.heap.size 84 4 vl' (ls.length + 1) (rowZ ltV 4 ls ++ [.int .i64 (l.t.at_ : Int), v, .int .i64 (l.fr : Int), .int .i64 (l.wh : Int)])) (hg : W.grownBy W' vl.ownBlock) :
   CmE W0 Mb ve vt (s.wait l) (W'.setCell ⟨Mb, 3, none⟩ vl') ∧ Cf W (W'.setCell ⟨Mb, 3, none⟩ vl') := by
 have e : ∀ q, q ≠ Mb → (W'.setCell ⟨Mb, 3, none⟩ vl').heap[q]? = W'.heap[q]? := fun q hq => Below.heap_setCell W' ⟨Mb, 3, none⟩ _ q hq
 have hs : (W'.setCell ⟨Mb, 3, none⟩ vl').heap.size = W'.heap.size := by simp [World.setCell]
 have hb' := (hg.block Mb (z26 h.blk) (row_ne h.lrow h.blk (by decide))).trans h.blk
 have hf : Cf W (W'.setCell ⟨Mb, 3, none⟩ vl') := ⟨hg.os, hg.tape, hg.output, by rw [hs]; exact hg.size, fun q c t hq _ h1 h3 => (e q (fun e2 => by subst e2; rw [h.blk] at hq; cases hq; exact h3 rfl)).trans (hg.block q (z26 hq) (row_ne h.lrow hq h1))⟩
 refine ⟨⟨ls ++ [(l, v)], vo, vl', maker_set3 hb' _, ?_, ?_, fun x hx => ?_, ?_, hg.os.trans h.os, hg.tape.trans h.tape, hg.output.trans h.output, by rw [hs]; exact Nat.le_trans h.size hg.size, fun q hq hn => ?_, h.nb⟩, hf⟩
 · exact row_keeps h.orow (fun g c hc _ => (e g (fun e2 => by subst e2; rw [h.blk] at hc; cases hc)).trans (hg.block g (z26 hc) (row_ne h.lrow hc (by decide))))
 · have e3 : rowZ ltV 4 (ls ++ [(l, v)]) = rowZ ltV 4 ls ++ [.int .i64 (l.t.at_ : Int), v, .int .i64 (l.fr : Int), .int .i64 (l.wh : Int)] := by rw [rowZ_app]; rfl
   rw [e3, List.length_append]
   exact row_keeps ho (fun g c hc _ => e g (fun e2 => by subst e2; rw [hb'] at hc; cases hc))
 · rw [List.mem_append, List.mem_singleton] at hx
   rcases hx with hx | rfl
   · exact (h.lnam x hx).frame hf
   · exact hn.frame hf
 · rw [List.map_append, h.lfst]
   rfl
 · refine (e q hn).trans ((hg.block q (Nat.lt_of_lt_of_le hq h.size) (fun e2 => ?_)).trans (h.kept q hq hn))
   have := (own_type h.lrow e2.symm).1
   omega
def quad (X : World) (g k : Nat) (i : In) : World := (((X.setCell ⟨g, k * 4, none⟩ (.int .i64 i.op)).setCell ⟨g, k * 4 + 1, none⟩ (.int .i64 i.a)).setCell ⟨g, k * 4 + 2, none⟩ (.int .i64 i.b)).setCell ⟨g, k * 4 + 3, none⟩ (.int .i64 i.c)
theorem quad_other (X : World) (g k : Nat) (i : In) : (∀ j, j ≠ g → (quad X g k i).heap[j]? = X.heap[j]?) ∧ (quad X g k i).heap.size = X.heap.size := by
 refine ⟨fun j hj => ?_, by simp [quad, World.setCell]⟩
 unfold quad
 rw [Below.heap_setCell _ ⟨g, k * 4 + 3, none⟩ _ j hj, Below.heap_setCell _ ⟨g, k * 4 + 2, none⟩ _ j hj, Below.heap_setCell _ ⟨g, k * 4 + 1, none⟩ _ j hj, Below.heap_setCell _ ⟨g, k * 4, none⟩ _ j hj]
theorem quad_os (X : World) (g k : Nat) (i : In) : (quad X g k i).os = X.os ∧ (quad X g k i).tape = X.tape ∧ (quad X g k i).output = X.output := by
 simp [quad, World.setCell]
theorem quad_list (l : List In) (k : Nat) (hk : k < l.length) (i : In) : ((((rowZ In.cell 4 l).set (k * 4) (.int .i64 i.op)).set (k * 4 + 1) (.int .i64 i.a)).set (k * 4 + 2) (.int .i64 i.b)).set (k * 4 + 3) (.int .i64 i.c) = rowZ In.cell 4 (l.set k i) := by
 apply List.ext_getElem?
 intro j
 by_cases hj : j < l.length * 4
 · rw [z48 In.cell 4 (by decide) (l.set k i) j (by rw [List.length_set]; exact hj)]
   have hl := rowZ_len In.cell 4 l
   have h0 := z48 In.cell 4 (by decide) l j hj
   by_cases hik : j / 4 = k
   · have hgd : (l.set k i).getD (j / 4) default = i := by rw [hik]; simp [List.getD, hk]
     rw [hgd]
     have hr : j % 4 = 0 ∨ j % 4 = 1 ∨ j % 4 = 2 ∨ j % 4 = 3 := by omega
     rcases hr with hr | hr | hr | hr
     · rw [List.getElem?_set_ne (by omega), List.getElem?_set_ne (by omega), List.getElem?_set_ne (by omega), show k * 4 = j by omega, List.getElem?_set_self (by omega), hr]; rfl
     · rw [List.getElem?_set_ne (by omega), List.getElem?_set_ne (by omega), show k * 4 + 1 = j by omega, List.getElem?_set_self (by simp; omega), hr]; rfl
     · rw [List.getElem?_set_ne (by omega), show k * 4 + 2 = j by omega, List.getElem?_set_self (by simp; omega), hr]; rfl
     · rw [show k * 4 + 3 = j by omega, List.getElem?_set_self (by simp; omega), hr]; rfl
   · rw [List.getElem?_set_ne (by omega), List.getElem?_set_ne (by omega), List.getElem?_set_ne (by omega), List.getElem?_set_ne (by omega), h0]
     have hgd : (l.set k i).getD (j / 4) default = l.getD (j / 4) default := by simp [List.getD, List.getElem?_set_ne (Ne.symm hik)]
     rw [hgd]
 · rw [List.getElem?_eq_none (by simp only [List.length_set, rowZ_len]; omega), List.getElem?_eq_none (by simp only [List.length_set, rowZ_len]; omega)]
theorem quad_row {X : World} {B g cap k : Nat} {l : List In} (h : X.ownsRow B 31 4 (.slice (some ⟨g, 0, none⟩) l.length cap) l.length (rowZ In.cell 4 l)) (hk : k < l.length) (i : In) : (quad X g k i).ownsRow B 31 4 (.slice (some ⟨g, 0, none⟩) (l.set k i).length cap) (l.set k i).length (rowZ In.cell 4 (l.set k i)) := by
 have h1 := (h.stored (k * 4) (.int .i64 i.op)).1
 have h2 := (h1.stored (k * 4 + 1) (.int .i64 i.a)).1
 have h3 := (h2.stored (k * 4 + 2) (.int .i64 i.b)).1
 have h4 := (h3.stored (k * 4 + 3) (.int .i64 i.c)).1
 rw [quad_list l k hk i] at h4
 rw [List.length_set]
 exact h4
theorem cm_lead {W0 : World} {Mb : Nat} {ve vt : Value} {s : Cs} {ls : List (Lt × Value)} {g cap : Nat} {vl : Value} {W : World} (h : Cm W0 Mb ve vt s ls (.slice (some ⟨g, 0, none⟩) s.out.length cap) vl W) {fr : Nat} (hfr : fr < s.out.length) (wh : Nat) :
   CmE W0 Mb ve vt (s.lead fr wh) (quad W g fr ((s.out.getD fr default).lead wh s.out.length)) ∧ Cf W (quad W g fr ((s.out.getD fr default).lead wh s.out.length)) := by
 obtain ⟨e, hs⟩ := quad_other W g fr ((s.out.getD fr default).lead wh s.out.length)
 obtain ⟨o1, o2, o3⟩ := quad_os W g fr ((s.out.getD fr default).lead wh s.out.length)
 obtain ⟨hB, cur, hc⟩ := own_type h.orow (g := g) rfl
 have hf : Cf W (quad W g fr ((s.out.getD fr default).lead wh s.out.length)) := ⟨o1, o2, o3, by rw [hs]; exact Nat.le_refl _, fun q c t hq h1 _ _ => e q (fun e2 => by subst e2; rw [hc] at hq; cases hq; exact h1 rfl)⟩
 refine ⟨⟨ls, .slice (some ⟨g, 0, none⟩) s.out.length cap, vl, (e Mb (fun e2 => by subst e2; rw [h.blk] at hc; cases hc)).trans h.blk, ?_, row_keeps h.lrow (fun q c hq _ => e q (fun e2 => by subst e2; rw [hc] at hq; cases hq)), fun x hx => (h.lnam x hx).frame hf, h.lfst, o1.trans h.os, o2.trans h.tape, o3.trans h.output, by rw [hs]; exact h.size, fun q hq hn => (e q (by omega)).trans (h.kept q hq hn), h.nb⟩, hf⟩
 have := quad_row h.orow hfr ((s.out.getD fr default).lead wh s.out.length)
 rw [List.length_set] at this
 show (quad W g fr _).ownsRow _ _ _ _ (s.out.set fr _).length _
 rw [List.length_set]
 exact this
end
section
open Go.RowKit Go.Deep
theorem info_insC : (Tryz.prog.info? 31).map (fun i => (i.zero, i.size, i.bytes)) = some (some (.agg #[.int .i64 0, .int .i64 0, .int .i64 0, .int .i64 0]), 4, 32) := by kernel_rfl
theorem info_later : (Tryz.prog.info? 84).map (fun i => (i.zero, i.size, i.bytes)) = some (some (.agg #[.int .i64 0, .slice none 0 0, .int .i64 0, .int .i64 0]), 4, 48) := by kernel_rfl
def PutPost (W0 : World) (Mb : Nat) (ve vt : Value) (s : Cs) (i : In) (W : World) (e : Ending) (W' : World) : Prop :=
 e = .returned (.int .i64 (s.out.length : Int)) ∧ CmE W0 Mb ve vt (s.put i) W' ∧ Cf W W'
set_option maxHeartbeats 2000000 in
set_option maxRecDepth 100000 in
theorem z35 {W0 : World} {Mb : Nat} {ve vt : Value} {s : Cs} (i : In) {W : World} (h : CmE W0 Mb ve vt s W) (hl : s.out.length ≤ 960000) :
   Calls Tryz.prog 27 #[.pointer (some ⟨Mb, 0, none⟩), .agg #[.int .i64 i.op, .int .i64 i.a, .int .i64 i.b, .int .i64 i.c]] W (PutPost W0 Mb ve vt s i W) := by
 obtain ⟨ls, vo, vl, h⟩ := h
 obtain ⟨op, a, b, c⟩ := i
 obtain ⟨adp, cpp, hvp⟩ := own_slice h.orow
 subst hvp
 have hbx := (MapKept.heap_alloc W (.cells #[.int .i64 op, .int .i64 a, .int .i64 b, .int .i64 c] 31)).1
 have hb0 : Below W.heap.size W (W.alloc (.cells #[.int .i64 op, .int .i64 a, .int .i64 b, .int .i64 c] 31)) := (Below.refl _ _).alloc (Nat.le_refl _) _
 obtain ⟨Y, hY⟩ : ∃ Y, W.alloc (.cells #[.int .i64 op, .int .i64 a, .int .i64 b, .int .i64 c] 31) = Y := ⟨_, rfl⟩
 have HY := hid hY
 rw [hY] at hbx hb0
 have St0 := hid (h.below hb0)
 have HB0 := hid hb0
 have HBx := hid hbx
 have HL := hid hl
 have hsz : W.heap.size + 1 = Y.heap.size := by rw [← hY]; simp
 have d1 := z11 St0.out.blk 2
 simp at d1
 have hPl : Mb < Y.heap.size := z26 St0.out.blk
 have hxl : W.heap.size < Y.heap.size := by omega
 have e0 := z11 HBx.out 0
 have e1 := z11 HBx.out 1
 have e2 := z11 HBx.out 2
 have e3 := z11 HBx.out 3
 simp at e0 e1 e2 e3
 clear h hl hY hb0 hbx
 go_enter Tryz.func27, Tryz.ntmps27
 go_upto_region 1 with fail
 rw [HY.out]
 clear HY
 have q0 : ∀ y : Later Y.heap.size Y, y.w.cell? ⟨Mb, 2, none⟩ = _ := fun y => y.cell hPl d1
 have p0 : ∀ y : Later Y.heap.size Y, y.w.cell? ⟨W.heap.size, 0, none⟩ = _ := fun y => y.cell hxl e0
 have p1 : ∀ y : Later Y.heap.size Y, y.w.cell? ⟨W.heap.size, 1, none⟩ = _ := fun y => y.cell hxl e1
 have p2 : ∀ y : Later Y.heap.size Y, y.w.cell? ⟨W.heap.size, 2, none⟩ = _ := fun y => y.cell hxl e2
 have p3 : ∀ y : Later Y.heap.size Y, y.w.cell? ⟨W.heap.size, 3, none⟩ = _ := fun y => y.cell hxl e3
 clear d1 e0 e1 e2 e3
 refine till_begin (c := 7) (S := fun w' => ∃ x : Later Y.heap.size Y, w' = x.w) (by kernel_rfl) ?_
 refine till_walk (by kernel_rfl) 6 0 _ _ (by kernel_rfl) (by kernel_rfl) ⟨⟨Y.drew, (Below.refl _ _).drew⟩, rfl⟩ ?_
 simp only [List.drop_zero, List.take_succ_cons, List.take_zero]
 repeat (go_big_quiet_step (fail))
 refine wpQuiet_nil ?_
 rintro w7 ⟨x1, rfl⟩
 have hL1 := x1.h
 clear q0 p0 p1 p2 p3
 generalize x1.w = X1 at *
 refine till_make (k := 6) (v := .slice (some ⟨X1.heap.size, 0, none⟩) 1 1) (w1 := X1.alloc (.cells #[.int .i64 op, .int .i64 a, .int .i64 b, .int .i64 c] 31)) (by decide) rfl (by kernel_rfl) rfl (by simp [go_sem]) ⟨⟨_, hL1.alloc (by have := hL1.size; omega) _⟩, rfl⟩ (by simp [go_sem]; exact rfl) ?_
 have hE := (MapKept.heap_alloc X1 (.cells #[.int .i64 op, .int .i64 a, .int .i64 b, .int .i64 c] 31)).1
 have hKx := hL1.trans (((Below.refl X1.heap.size X1).alloc (Nat.le_refl _) (.cells #[.int .i64 op, .int .i64 a, .int .i64 b, .int .i64 c] 31)).mono hL1.size)
 generalize X1.alloc (.cells #[.int .i64 op, .int .i64 a, .int .i64 b, .int .i64 c] 31) = X2 at *
 have St2 := hid (St0.out.below hKx)
 obtain ⟨i0, hi, hz0, hz1, hz2⟩ := info_parts info_insC
 obtain ⟨vp2, X3, hrun, hown, hgrow, -, hat⟩ := run_append_own_at (P := Tryz.prog) X2 W0.heap.size 23 23 31 i0 _ 4 32 Tryz.underlying23 hi hz0 hz1 hz2 rfl (by decide) (.slice adp s.out.length cpp) s.out.length (rowZ In.cell 4 s.out) St2.out.orow ⟨X1.heap.size, 0, none⟩ 1 1 [.int .i64 op, .int .i64 a, .int .i64 b, .int .i64 c] rfl (fun j u hu => by
   rw [Addr.add_lit]
   match j, hu with
   | 0, hu => simp at hu; subst hu; exact z11 hE 0
   | 1, hu => simp at hu; subst hu; exact z11 hE 1
   | 2, hu => simp at hu; subst hu; exact z11 hE 2
   | 3, hu => simp at hu; subst hu; exact z11 hE 3) (fun u hu => by
   simp at hu
   rcases hu with rfl | rfl | rfl | rfl <;> rfl) (by have := HL.out; unfold maxLen; omega) (by have := HL.out; omega) St2.out.size
 have hnx := cm_put St2.out ⟨op, a, b, c⟩ hown hgrow
 refine till_cut (v := vp2) (w1 := X3) rfl (by kernel_rfl) rfl (z52 (s := .tmp 9) (x := .tmp 11) (t := 23) rfl rfl rfl hrun) (by simp [go_sem]; exact rfl) ?_
 refine any_stage (fun _ => True) ?_
 have hb3 := (hgrow.block Mb (z26 St2.out.blk) (row_ne St2.out.orow St2.out.blk (by decide))).trans St2.out.blk
 have d1 := z11 hb3 2
 have w1 := z13 hb3 2
 simp at d1
 obtain ⟨ad2, cp2, hv2⟩ := own_slice hown
 subst hv2
 refine stage_make (k := 8) (v := .pointer (some ⟨Mb, 0, none⟩)) (w1 := X3) rfl (by kernel_rfl) rfl (by simp [go_sem]) trivial (by simp [go_sem]; exact rfl) ?_
 refine stage_make (k := 9) (v := .pointer (some ⟨Mb, 2, none⟩)) (w1 := X3) rfl (by kernel_rfl) rfl (by simp [go_sem]) trivial (by simp [go_sem]; exact rfl) ?_
 refine stage_skip (k := 10) rfl (w1 := X3.setCell ⟨Mb, 2, none⟩ (.slice ad2 (s.out.length + 1) cp2)) rfl (by kernel_rfl) rfl (by simp [go_sem, d1, w1]) trivial ?_
 refine stage_end (by kernel_rfl) ?_
 have HNx := hid hnx.1
 have HFr := hid (((Cf.of_below HB0.out).trans (Cf.of_below hKx)).trans hnx.2)
 have hfin := z11 (maker_set2 hb3 (.slice ad2 (s.out.length + 1) cp2)) 2
 simp at hfin
 clear hnx hrun hown hgrow hat hE hKx hi hz0 hz1 hz2 hb3 d1 w1 St2 St0 HBx HB0 hL1 hPl hxl hsz
 generalize X3.setCell ⟨Mb, 2, none⟩ (.slice ad2 (s.out.length + 1) cp2) = Z at *
 go_wp2_with fail
 rw [show wrap64 (s.out.length : Int) = (s.out.length : Int) by have := HL.out; unfold wrap64; omega]
 go_ret
 exact ⟨rfl, HNx.out, HFr.out⟩
def LeadPost (W0 : World) (Mb : Nat) (ve vt : Value) (s : Cs) (W : World) (e : Ending) (W' : World) : Prop :=
 (∃ x, e = .returned x) ∧ CmE W0 Mb ve vt s W' ∧ Cf W W'
def Cl (W W' : World) : Prop := ∀ (q : Nat) (c : Array Value), W.heap[q]? = some (Obj.cells c 84) → W'.heap[q]? = W.heap[q]?
def LeadPost2 (W0 : World) (Mb : Nat) (ve vt : Value) (s : Cs) (W : World) (e : Ending) (W' : World) : Prop := LeadPost W0 Mb ve vt s W e W' ∧ Cl W W'
theorem lead_a (i : In) (v : Int) : i.lead 0 v = ⟨i.op, v, i.b, i.c⟩ := rfl
theorem lead_b (i : In) (v : Int) : i.lead 1 v = ⟨i.op, i.a, v, i.c⟩ := rfl
theorem lead_c (i : In) (v : Int) : i.lead 2 v = ⟨i.op, i.a, i.b, v⟩ := rfl
theorem box_set {W : World} {q : Nat} {x0 x1 x2 x3 : Value} (h : W.heap[q]? = some (.cells #[x0, x1, x2, x3] 31)) (v : Value) :
   (W.setCell ⟨q, 1, none⟩ v).heap[q]? = some (.cells #[x0, v, x2, x3] 31) ∧ (W.setCell ⟨q, 2, none⟩ v).heap[q]? = some (.cells #[x0, x1, v, x3] 31) ∧ (W.setCell ⟨q, 3, none⟩ v).heap[q]? = some (.cells #[x0, x1, x2, v] 31) := by
 refine ⟨?_, ?_, ?_⟩ <;> simp [World.setCell, Array.getElem?_modify, h]
theorem Cm.box {W0 : World} {Mb : Nat} {ve vt : Value} {s : Cs} {ls : List (Lt × Value)} {vo vl : Value} {W Y : World} (h : Cm W0 Mb ve vt s ls vo vl W) (hb : Below W.heap.size W Y) {q : Nat} (hq : W.heap.size ≤ q) (j : Nat) (v : Value) : Cm W0 Mb ve vt s ls vo vl (Y.setCell ⟨q, j, none⟩ v) ∧ Below W.heap.size W (Y.setCell ⟨q, j, none⟩ v) := by
 have hb2 : Below W.heap.size W (Y.setCell ⟨q, j, none⟩ v) := ⟨hb.os, hb.tape, hb.output, by simp [World.setCell]; exact hb.size, fun k hk => (Below.heap_setCell Y ⟨q, j, none⟩ v k (by show k ≠ q; omega)).trans (hb.block k hk)⟩
 exact ⟨h.below hb2, hb2⟩
set_option maxHeartbeats 2000000 in
set_option maxRecDepth 100000 in
theorem lead2_calls {W0 : World} {Mb : Nat} {ve vt : Value} {s : Cs} (fr wh : Nat) {W : World} (h : CmE W0 Mb ve vt s W) (hl : s.out.length ≤ 960000) (hfr : fr < s.out.length) (hwh : wh = 0 ∨ wh = 1 ∨ wh = 2) :
   Calls Tryz.prog 28 #[.pointer (some ⟨Mb, 0, none⟩), .int .i64 (fr : Int), .int .i64 (wh : Int)] W (LeadPost2 W0 Mb ve vt (s.lead fr wh) W) := by
 obtain ⟨ls, vo, vl, h⟩ := h
 obtain ⟨g, cap, hvo⟩ : ∃ g cap, vo = .slice (some ⟨g, 0, none⟩) s.out.length cap := by
   obtain ⟨-, ⟨-, h0⟩ | ⟨g, cap, cur, e, -⟩⟩ := h.orow
   · omega
   · exact ⟨g, cap, e⟩
 subst hvo
 have d2 := z11 h.blk 2
 simp at d2
 have hc : ∀ j, j < 4 → W.cell? ⟨g, fr * 4 + j, none⟩ = some ((s.out.getD fr default).cell j) := fun j hj => by
   rw [h.orow.cellAt (fr * 4 + j) (by omega), z48 In.cell 4 (by decide) s.out _ (by omega)]
   rw [show (fr * 4 + j) / 4 = fr by omega, show (fr * 4 + j) % 4 = j by omega]
 obtain ⟨i, hi⟩ : ∃ i, s.out.getD fr default = i := ⟨_, rfl⟩
 rw [hi] at hc
 have c0 := hc 0 (by omega)
 have c1 := hc 1 (by omega)
 have c2 := hc 2 (by omega)
 have c3 := hc 3 (by omega)
 obtain ⟨op, a, b, c⟩ := i
 simp only [In.cell, Nat.add_zero] at c0 c1 c2 c3
 have HI := hid hi
 have hA := (MapKept.heap_alloc W (.cells #[.int .i64 op, .int .i64 a, .int .i64 b, .int .i64 c] 31)).1
 have hB := (Below.refl W.heap.size W).alloc (Nat.le_refl _) (.cells #[.int .i64 op, .int .i64 a, .int .i64 b, .int .i64 c] 31)
 obtain ⟨Y, hY⟩ : ∃ Y, W.alloc (.cells #[.int .i64 op, .int .i64 a, .int .i64 b, .int .i64 c] 31) = Y := ⟨_, rfl⟩
 have HY := hid hY
 rw [hY] at hA hB
 have HA := hid hA
 have HB := hid hB
 have HSt := hid h
 have HL := hid (And.intro hl hfr)
 have hgW : g < W.heap.size := by obtain ⟨-, cur, hcur⟩ := own_type h.orow (g := g) rfl; exact z26 hcur
 have HFin : Hid (∀ Z wh', Cm W0 Mb ve vt s ls (.slice (some ⟨g, 0, none⟩) s.out.length cap) vl Z → Below W.heap.size W Z → LeadPost2 W0 Mb ve vt (s.lead fr wh') W (.returned (.tuple #[])) (quad Z g fr ((⟨op, a, b, c⟩ : In).lead wh' s.out.length))) := fun Z wh' hz hf => by
   have h2 := cm_lead hz hfr wh'
   obtain ⟨-, cur, hcur⟩ := own_type hz.orow (g := g) rfl
   have h3 := (quad_other Z g fr ((⟨op, a, b, c⟩ : In).lead wh' s.out.length)).1
   rw [hi] at h2
   refine ⟨⟨⟨_, rfl⟩, h2.1, (Cf.of_below hf).trans h2.2⟩, fun q x hq => ?_⟩
   have h4 := hf.block q (z26 hq)
   exact (h3 q (fun e => by subst e; rw [h4, hq] at hcur; cases hcur)).trans h4
 clear hi hY hc h hl hA hB
 have hf0 : (0 : Int) ≤ (fr : Int) := by omega
 have hf1 : (fr : Int) < (s.out.length : Int) := by omega
 go_enter Tryz.func28, Tryz.ntmps28
 go_upto_region 1 with fail
 rw [HY.out]
 have d2 := z11 (HSt.out.below HB.out).blk 2
 simp at d2
 clear HY c0 c1 c2 c3
 rcases hwh with hw | hw | hw
 · subst hw
   obtain ⟨Z, hZ⟩ : ∃ Z, Y.setCell ⟨W.heap.size, 1, none⟩ (.int .i64 (s.out.length : Int)) = Z := ⟨_, rfl⟩
   have hbox := (box_set HA.out (.int .i64 (s.out.length : Int))).1
   have hst := HSt.out.box HB.out (Nat.le_refl _) 1 (.int .i64 (s.out.length : Int))
   have a1 := z11 HA.out 1
   have a2 := z13 HA.out 1
   simp at a1
   rw [hZ] at hbox hst
   have HZ := hid hZ
   clear hZ
   go_upto_region 8 with fail
   rw [HZ.out]
   clear HZ a1 a2
   have HBx := hid hbox
   have St := hid hst
   have b2 := z11 St.out.1.blk 2
   have e0 := z11 HBx.out 0
   have e1 := z11 HBx.out 1
   have e2 := z11 HBx.out 2
   have e3 := z11 HBx.out 3
   simp at b2 e0 e1 e2 e3
   have hPl : Mb < Z.heap.size := z26 St.out.1.blk
   have hxl : W.heap.size < Z.heap.size := z26 HBx.out
   have q0 : ∀ y : Later Z.heap.size Z, y.w.cell? ⟨Mb, 2, none⟩ = _ := fun y => y.cell hPl b2
   have p0 : ∀ y : Later Z.heap.size Z, y.w.cell? ⟨W.heap.size, 0, none⟩ = _ := fun y => y.cell hxl e0
   have p1 : ∀ y : Later Z.heap.size Z, y.w.cell? ⟨W.heap.size, 1, none⟩ = _ := fun y => y.cell hxl e1
   have p2 : ∀ y : Later Z.heap.size Z, y.w.cell? ⟨W.heap.size, 2, none⟩ = _ := fun y => y.cell hxl e2
   have p3 : ∀ y : Later Z.heap.size Z, y.w.cell? ⟨W.heap.size, 3, none⟩ = _ := fun y => y.cell hxl e3
   clear b2 e0 e1 e2 e3 hbox hst
   refine till_begin (c := 6) (S := fun w' => ∃ x : Later Z.heap.size Z, w' = x.w) (by kernel_rfl) ?_
   refine till_walk (by kernel_rfl) 6 0 _ _ (by kernel_rfl) (by kernel_rfl) ⟨⟨Z.drew, (Below.refl _ _).drew⟩, rfl⟩ ?_
   simp only [List.drop_zero, List.take_succ_cons, List.take_zero]
   repeat (go_big_quiet_step (fail))
   refine wpQuiet_nil ?_
   rintro w7 ⟨x1, rfl⟩
   have hL1 := x1.h
   clear q0 p0 p1 p2 p3
   generalize x1.w = X1 at *
   have S1 := hid (St.out.1.below hL1)
   have F1 := hid (St.out.2.trans (hL1.mono St.out.2.size))
   refine till_cut (v := .pointer (some ⟨g, fr * 4, none⟩)) (w1 := X1) rfl (by kernel_rfl) rfl (by simp [go_sem, hf0, hf1]) (by simp [go_sem]; exact rfl) ?_
   refine any_stage (fun _ => True) ?_
   have hg1 := own_type S1.out.orow (g := g) rfl
   have hd : ∀ j, j < 4 → X1.cell? ⟨g, fr * 4 + j, none⟩ = some ((s.out.getD fr default).cell j) := fun j hj => by
     rw [S1.out.orow.cellAt (fr * 4 + j) (by omega), z48 In.cell 4 (by decide) s.out _ (by omega)]
     rw [show (fr * 4 + j) / 4 = fr by omega, show (fr * 4 + j) % 4 = j by omega]
   obtain ⟨-, cur, hcur⟩ := hg1
   have f0 := z13 hcur (fr * 4)
   have f1 := z13 hcur (fr * 4 + 1)
   have f2 := z13 hcur (fr * 4 + 2)
   have f3 := z13 hcur (fr * 4 + 3)
   have k0 := hd 0 (by omega)
   have k1 := hd 1 (by omega)
   have k2 := hd 2 (by omega)
   have k3 := hd 3 (by omega)
   rw [Nat.add_zero] at k0
   refine stage_skip (k := 7) rfl (w1 := quad X1 g fr ⟨op, s.out.length, b, c⟩) rfl (by kernel_rfl) rfl (by unfold quad; simp [go_sem, f0, f1, f2, f3, k0, k1, k2, k3]) trivial ?_
   refine stage_end (by kernel_rfl) ?_
   have HR := hid (HFin.out X1 0 S1.out F1.out)
   rw [lead_a] at HR
   clear f0 f1 f2 f3 k0 k1 k2 k3 hcur hd hL1 S1 F1 St HBx hPl hxl
   generalize quad X1 g fr ⟨op, s.out.length, b, c⟩ = Z2 at *
   go_wp2_with fail
   go_end0
   exact HR.out
 · subst hw
   obtain ⟨Z, hZ⟩ : ∃ Z, Y.setCell ⟨W.heap.size, 2, none⟩ (.int .i64 (s.out.length : Int)) = Z := ⟨_, rfl⟩
   have hbox := (box_set HA.out (.int .i64 (s.out.length : Int))).2.1
   have hst := HSt.out.box HB.out (Nat.le_refl _) 2 (.int .i64 (s.out.length : Int))
   have a1 := z11 HA.out 2
   have a2 := z13 HA.out 2
   simp at a1
   rw [hZ] at hbox hst
   have HZ := hid hZ
   clear hZ
   go_upto_region 8 with fail
   rw [HZ.out]
   clear HZ a1 a2
   have HBx := hid hbox
   have St := hid hst
   have b2 := z11 St.out.1.blk 2
   have e0 := z11 HBx.out 0
   have e1 := z11 HBx.out 1
   have e2 := z11 HBx.out 2
   have e3 := z11 HBx.out 3
   simp at b2 e0 e1 e2 e3
   have hPl : Mb < Z.heap.size := z26 St.out.1.blk
   have hxl : W.heap.size < Z.heap.size := z26 HBx.out
   have q0 : ∀ y : Later Z.heap.size Z, y.w.cell? ⟨Mb, 2, none⟩ = _ := fun y => y.cell hPl b2
   have p0 : ∀ y : Later Z.heap.size Z, y.w.cell? ⟨W.heap.size, 0, none⟩ = _ := fun y => y.cell hxl e0
   have p1 : ∀ y : Later Z.heap.size Z, y.w.cell? ⟨W.heap.size, 1, none⟩ = _ := fun y => y.cell hxl e1
   have p2 : ∀ y : Later Z.heap.size Z, y.w.cell? ⟨W.heap.size, 2, none⟩ = _ := fun y => y.cell hxl e2
   have p3 : ∀ y : Later Z.heap.size Z, y.w.cell? ⟨W.heap.size, 3, none⟩ = _ := fun y => y.cell hxl e3
   clear b2 e0 e1 e2 e3 hbox hst
   refine till_begin (c := 6) (S := fun w' => ∃ x : Later Z.heap.size Z, w' = x.w) (by kernel_rfl) ?_
   refine till_walk (by kernel_rfl) 6 0 _ _ (by kernel_rfl) (by kernel_rfl) ⟨⟨Z.drew, (Below.refl _ _).drew⟩, rfl⟩ ?_
   simp only [List.drop_zero, List.take_succ_cons, List.take_zero]
   repeat (go_big_quiet_step (fail))
   refine wpQuiet_nil ?_
   rintro w7 ⟨x1, rfl⟩
   have hL1 := x1.h
   clear q0 p0 p1 p2 p3
   generalize x1.w = X1 at *
   have S1 := hid (St.out.1.below hL1)
   have F1 := hid (St.out.2.trans (hL1.mono St.out.2.size))
   refine till_cut (v := .pointer (some ⟨g, fr * 4, none⟩)) (w1 := X1) rfl (by kernel_rfl) rfl (by simp [go_sem, hf0, hf1]) (by simp [go_sem]; exact rfl) ?_
   refine any_stage (fun _ => True) ?_
   have hg1 := own_type S1.out.orow (g := g) rfl
   have hd : ∀ j, j < 4 → X1.cell? ⟨g, fr * 4 + j, none⟩ = some ((s.out.getD fr default).cell j) := fun j hj => by
     rw [S1.out.orow.cellAt (fr * 4 + j) (by omega), z48 In.cell 4 (by decide) s.out _ (by omega)]
     rw [show (fr * 4 + j) / 4 = fr by omega, show (fr * 4 + j) % 4 = j by omega]
   obtain ⟨-, cur, hcur⟩ := hg1
   have f0 := z13 hcur (fr * 4)
   have f1 := z13 hcur (fr * 4 + 1)
   have f2 := z13 hcur (fr * 4 + 2)
   have f3 := z13 hcur (fr * 4 + 3)
   have k0 := hd 0 (by omega)
   have k1 := hd 1 (by omega)
   have k2 := hd 2 (by omega)
   have k3 := hd 3 (by omega)
   rw [Nat.add_zero] at k0
   refine stage_skip (k := 7) rfl (w1 := quad X1 g fr ⟨op, a, s.out.length, c⟩) rfl (by kernel_rfl) rfl (by unfold quad; simp [go_sem, f0, f1, f2, f3, k0, k1, k2, k3]) trivial ?_
   refine stage_end (by kernel_rfl) ?_
   have HR := hid (HFin.out X1 1 S1.out F1.out)
   rw [lead_b] at HR
   clear f0 f1 f2 f3 k0 k1 k2 k3 hcur hd hL1 S1 F1 St HBx hPl hxl
   generalize quad X1 g fr ⟨op, a, s.out.length, c⟩ = Z2 at *
   go_wp2_with fail
   go_end0
   exact HR.out
 · subst hw
   obtain ⟨Z, hZ⟩ : ∃ Z, Y.setCell ⟨W.heap.size, 3, none⟩ (.int .i64 (s.out.length : Int)) = Z := ⟨_, rfl⟩
   have hbox := (box_set HA.out (.int .i64 (s.out.length : Int))).2.2
   have hst := HSt.out.box HB.out (Nat.le_refl _) 3 (.int .i64 (s.out.length : Int))
   have a1 := z11 HA.out 3
   have a2 := z13 HA.out 3
   simp at a1
   rw [hZ] at hbox hst
   have HZ := hid hZ
   clear hZ
   go_upto_region 8 with fail
   rw [HZ.out]
   clear HZ a1 a2
   have HBx := hid hbox
   have St := hid hst
   have b2 := z11 St.out.1.blk 2
   have e0 := z11 HBx.out 0
   have e1 := z11 HBx.out 1
   have e2 := z11 HBx.out 2
   have e3 := z11 HBx.out 3
   simp at b2 e0 e1 e2 e3
   have hPl : Mb < Z.heap.size := z26 St.out.1.blk
   have hxl : W.heap.size < Z.heap.size := z26 HBx.out
   have q0 : ∀ y : Later Z.heap.size Z, y.w.cell? ⟨Mb, 2, none⟩ = _ := fun y => y.cell hPl b2
   have p0 : ∀ y : Later Z.heap.size Z, y.w.cell? ⟨W.heap.size, 0, none⟩ = _ := fun y => y.cell hxl e0
   have p1 : ∀ y : Later Z.heap.size Z, y.w.cell? ⟨W.heap.size, 1, none⟩ = _ := fun y => y.cell hxl e1
   have p2 : ∀ y : Later Z.heap.size Z, y.w.cell? ⟨W.heap.size, 2, none⟩ = _ := fun y => y.cell hxl e2
   have p3 : ∀ y : Later Z.heap.size Z, y.w.cell? ⟨W.heap.size, 3, none⟩ = _ := fun y => y.cell hxl e3
   clear b2 e0 e1 e2 e3 hbox hst
   refine till_begin (c := 6) (S := fun w' => ∃ x : Later Z.heap.size Z, w' = x.w) (by kernel_rfl) ?_
   refine till_walk (by kernel_rfl) 6 0 _ _ (by kernel_rfl) (by kernel_rfl) ⟨⟨Z.drew, (Below.refl _ _).drew⟩, rfl⟩ ?_
   simp only [List.drop_zero, List.take_succ_cons, List.take_zero]
   repeat (go_big_quiet_step (fail))
   refine wpQuiet_nil ?_
   rintro w7 ⟨x1, rfl⟩
   have hL1 := x1.h
   clear q0 p0 p1 p2 p3
   generalize x1.w = X1 at *
   have S1 := hid (St.out.1.below hL1)
   have F1 := hid (St.out.2.trans (hL1.mono St.out.2.size))
   refine till_cut (v := .pointer (some ⟨g, fr * 4, none⟩)) (w1 := X1) rfl (by kernel_rfl) rfl (by simp [go_sem, hf0, hf1]) (by simp [go_sem]; exact rfl) ?_
   refine any_stage (fun _ => True) ?_
   have hg1 := own_type S1.out.orow (g := g) rfl
   have hd : ∀ j, j < 4 → X1.cell? ⟨g, fr * 4 + j, none⟩ = some ((s.out.getD fr default).cell j) := fun j hj => by
     rw [S1.out.orow.cellAt (fr * 4 + j) (by omega), z48 In.cell 4 (by decide) s.out _ (by omega)]
     rw [show (fr * 4 + j) / 4 = fr by omega, show (fr * 4 + j) % 4 = j by omega]
   obtain ⟨-, cur, hcur⟩ := hg1
   have f0 := z13 hcur (fr * 4)
   have f1 := z13 hcur (fr * 4 + 1)
   have f2 := z13 hcur (fr * 4 + 2)
   have f3 := z13 hcur (fr * 4 + 3)
   have k0 := hd 0 (by omega)
   have k1 := hd 1 (by omega)
   have k2 := hd 2 (by omega)
   have k3 := hd 3 (by omega)
   rw [Nat.add_zero] at k0
   refine stage_skip (k := 7) rfl (w1 := quad X1 g fr ⟨op, a, b, s.out.length⟩) rfl (by kernel_rfl) rfl (by unfold quad; simp [go_sem, f0, f1, f2, f3, k0, k1, k2, k3]) trivial ?_
   refine stage_end (by kernel_rfl) ?_
   have HR := hid (HFin.out X1 2 S1.out F1.out)
   rw [lead_c] at HR
   clear f0 f1 f2 f3 k0 k1 k2 k3 hcur hd hL1 S1 F1 St HBx hPl hxl
   generalize quad X1 g fr ⟨op, a, b, s.out.length⟩ = Z2 at *
   go_wp2_with fail
   go_end0
   exact HR.out
theorem z66 {W0 : World} {Mb : Nat} {ve vt : Value} {s : Cs} (fr wh : Nat) {W : World} (h : CmE W0 Mb ve vt s W) (hl : s.out.length ≤ 960000) (hfr : fr < s.out.length) (hwh : wh = 0 ∨ wh = 1 ∨ wh = 2) :
   Calls Tryz.prog 28 #[.pointer (some ⟨Mb, 0, none⟩), .int .i64 (fr : Int), .int .i64 (wh : Int)] W (LeadPost W0 Mb ve vt (s.lead fr wh) W) := (lead2_calls fr wh h hl hfr hwh).mono fun _ _ x => x.1
theorem later_cells (x0 x1 x2 x3 : Value) (h0 : x0.oneCell' = true) (h1 : x1.oneCell' = true) (h2 : x2.oneCell' = true) (h3 : x3.oneCell' = true) : ∀ u ∈ [x0, x1, x2, x3], u.oneCell' = true := fun u hu => by
 simp at hu
 rcases hu with rfl | rfl | rfl | rfl
 · exact h0
 · exact h1
 · exact h2
 · exact h3
set_option maxHeartbeats 2000000 in
set_option maxRecDepth 100000 in
theorem wait_calls {W0 : World} {Mb : Nat} {ve vt : Value} {s : Cs} (l : Lt) {v : Value} {W : World} (h : CmE W0 Mb ve vt s W) (hl : s.later.length ≤ 960000) (hn : NmT W v l.names) :
   Calls Tryz.prog 49 #[.pointer (some ⟨Mb, 0, none⟩), .int .i64 (l.t.at_ : Int), v, .int .i64 (l.fr : Int), .int .i64 (l.wh : Int)] W (LeadPost W0 Mb ve vt (s.wait l) W) := by
 obtain ⟨ls, vo, vl, h⟩ := h
 obtain ⟨adp, cpp, hvp⟩ := own_slice h.lrow
 subst hvp
 obtain ⟨adn, cpn, hvn⟩ := hn.is
 have hll : ls.length = s.later.length := by rw [← h.lfst, List.length_map]
 have hE := (MapKept.heap_alloc W (.cells #[.int .i64 (l.t.at_ : Int), v, .int .i64 (l.fr : Int), .int .i64 (l.wh : Int)] 84)).1
 have hB := (Below.refl W.heap.size W).alloc (Nat.le_refl _) (.cells #[.int .i64 (l.t.at_ : Int), v, .int .i64 (l.fr : Int), .int .i64 (l.wh : Int)] 84)
 have hone : v.oneCell' = true := by rw [hvn]; rfl
 have St2 := hid (h.below hB)
 have HN2 := hid (hn.frame (Cf.of_below hB))
 have HCf := hid (Cf.of_below hB)
 have HE := hid hE
 have HL := hid (And.intro hl hll)
 have HO := hid hone
 obtain ⟨i0, hi, hz0, hz1, hz2⟩ := info_parts info_later
 have d3 := z11 h.blk 3
 simp at d3
 have hcs : ∀ (j : Nat) (u : Value), [Value.int .i64 (l.t.at_ : Int), v, .int .i64 (l.fr : Int), .int .i64 (l.wh : Int)][j]? = some u → (W.alloc (.cells #[.int .i64 (l.t.at_ : Int), v, .int .i64 (l.fr : Int), .int .i64 (l.wh : Int)] 84)).cell? (Addr.add ⟨W.heap.size, 0, none⟩ j) = some u := fun j u hu => by
   rw [Addr.add_lit]
   match j, hu with
   | 0, hu => simp at hu; subst hu; exact z11 hE 0
   | 1, hu => simp at hu; subst hu; exact z11 hE 1
   | 2, hu => simp at hu; subst hu; exact z11 hE 2
   | 3, hu => simp at hu; subst hu; exact z11 hE 3
 have HCs := hid hcs
 have HOc := hid (later_cells (.int .i64 (l.t.at_ : Int)) v (.int .i64 (l.fr : Int)) (.int .i64 (l.wh : Int)) rfl hone rfl rfl)
 clear h hB hE hn hll hl hone hcs HO
 subst hvn
 go_enter Tryz.func49, Tryz.ntmps49
 go_wp2_with (at_builtin; refine wpList_append_own_at _ rfl _ _ 78 rfl W0.heap.size 84 i0 (.agg #[.int .i64 0, .slice none 0 0, .int .i64 0, .int .i64 0]) 4 48 Tryz.underlying78 hi hz0 hz1 hz2 rfl (by decide) _ _ _ rfl St2.out.lrow ⟨W.heap.size, 0, none⟩ 1 1 [.int .i64 (l.t.at_ : Int), .slice adn l.names.length cpn, .int .i64 (l.fr : Int), .int .i64 (l.wh : Int)] rfl rfl HCs.out HOc.out (by have := HL.out; unfold maxLen; omega) (by have := HL.out; omega) St2.out.size ?_; intro vp2 X3 hown hgrow hnil hat; obtain ⟨ad2, cp2, hv2⟩ := own_slice hown; subst hv2; have hnx := cm_wait St2.out l HN2.out hown hgrow; have hb3 := (hgrow.block Mb (z26 St2.out.blk) (row_ne St2.out.lrow St2.out.blk (by decide))).trans St2.out.blk; have w3 := z13 hb3 3; have x3 := z11 hb3 3; simp at x3; have HNx := hid hnx.1; have HFr := hid (HCf.out.trans hnx.2); clear hown hgrow hnil hat hnx hb3)
 go_end0
 exact ⟨⟨_, rfl⟩, HNx.out, HFr.out⟩
end
section
open Go.RowKit Go.Deep
theorem kidsAt_first (f : Fo) (p : Nat) (h : 0 < f.count) : ((kidsAt f p).getD 0 default).at_ = p := by
 cases f with
 | none => simp [Fo.count] at h
 | tree n k r => rfl
theorem kidsAt_next : ∀ (f : Fo) (p i : Nat), i + 1 < f.count → ((kidsAt f p).getD (i + 1) default).at_ = ((kidsAt f p).getD i default).at_ + 1 + ((kidsAt f p).getD i default).k.flat.length
 | .none, p, i, h => by simp [Fo.count] at h
 | .tree n k r, p, 0, h => by
   have h1 := kidsAt_first r (p + 1 + k.flat.length) (by simp only [Fo.count] at h; omega)
   simp only [kidsAt, List.getD_cons_succ, List.getD_cons_zero]
   exact h1
 | .tree n k r, p, i + 1, h => by
   have h1 := kidsAt_next r (p + 1 + k.flat.length) i (by simp only [Fo.count] at h; omega)
   simp only [kidsAt, List.getD_cons_succ]
   exact h1
theorem Stands.end {ns : List Nd} {t : Tp} (h : Stands ns t) : treeEnd ns (t.at_ : Int) = ((t.at_ + 1 + t.k.flat.length : Nat) : Int) := by
 obtain ⟨suf, hd⟩ := h.drop
 exact treeEnd_at hd h.kids h.good.wf
theorem Stands.first {ns : List Nd} {t : Tp} (_h : Stands ns t) (h0 : 0 < t.k.count) : (t.kid 0).at_ = t.at_ + 1 := kidsAt_first t.k _ h0
theorem Stands.next {ns : List Nd} {t : Tp} (h : Stands ns t) {i : Nat} (hi : i + 1 < t.k.count) : treeEnd ns ((t.kid i).at_ : Int) = ((t.kid (i + 1)).at_ : Int) := by
 rw [(h.kid (by omega)).end]
 exact congrArg _ (kidsAt_next t.k _ i hi).symm
theorem Stands.lt {ns : List Nd} {t : Tp} (h : Stands ns t) : t.at_ < ns.length ∧ ns.getD t.at_ default = t.n ∧ t.at_ + t.size ≤ ns.length := by
 obtain ⟨suf, hd⟩ := h.drop
 have hl := congrArg List.length hd
 simp only [List.length_drop, List.length_cons, List.length_append] at hl
 refine ⟨by omega, ?_, by unfold Tp.size; omega⟩
 have : ns.getD t.at_ default = (ns.drop t.at_).getD 0 default := by simp [List.getD, List.getElem?_drop]
 rw [this, hd]
 rfl
set_option maxHeartbeats 2000000 in
set_option maxRecDepth 100000 in
theorem z49 {b off cap : Nat} {ns : List Nd} {t : Tp} (i : Nat) (W : World) (hn : NodesAt W b off ns) (hm : ns.length ≤ 300) (h : Stands ns t) (hi : i < t.k.count) :
   Calls Tryz.prog 52 #[.slice (some ⟨b, off, none⟩) ns.length cap, .int .i64 (t.at_ : Int), .int .i64 (i : Int)] W fun e W' => e = .returned (.int .i64 ((t.kid i).at_ : Int)) ∧ W = W' := by
 have HE := hid (fun (at_ : Int) => z57 b off cap ns at_ W hn (by omega))
 have HS := hid (And.intro h (And.intro hi hm))
 have hlt := h.lt.1
 have HW : Hid (wrap64 ((t.at_ : Int) + 1) = ((t.kid 0).at_ : Int)) := by
   show _ = _
   rw [h.first (by omega)]
   unfold wrap64
   omega
 have HI : Hid (i ≤ 300) := by
   show _ ≤ _
   have h1 := t.kids_len
   have h2 := Fo.count_le t.k
   have h3 := h.lt.2.2
   unfold Tp.size at h3
   omega
 clear hn hm h hi hlt
 generalize ns.length = len at *
 generalize t.at_ = p at *
 go_enter Tryz.func52, Tryz.ntmps52
 go_wp2_with fail
 rw [HW.out]
 go_loopw [1, 7] (fun at_ j wr => ∃ (k : Nat), k ≤ i ∧ at_ = .int .i64 ((t.kid k).at_ : Int) ∧ j = .int .i64 (k : Int) ∧ wr = W) (fun _ j _ => i - (intOf j).toNat)
 case atStart => exact ⟨0, Nat.zero_le _, rfl, rfl, rfl⟩
 case round =>
   obtain ⟨k, hk, rfl, rfl, rfl⟩ := hrel
   by_cases hki : (k : Int) < (i : Int)
   · have hnx := HS.out.1.next (i := k) (by have := HS.out.2.1; omega)
     have HC := hid (HE.out ((t.kid k).at_ : Int))
     rw [hnx] at HC
     have hstep : i - (intOf (.int .i64 ((k + 1 : Nat) : Int))).toNat < i - (intOf (.int .i64 (k : Int))).toNat := by simp only [intOf, Int.toNat_natCast]; omega
     clear hnx
     go_wp2_with fail
     refine HC.out.mono ?_
     rintro e W1 ⟨rfl, rfl⟩
     go_wp2_with fail
     try rw [z31 (by have := HI.out; omega)]
     exact ⟨⟨k + 1, by omega, rfl, rfl, trivial⟩, hstep⟩
   · have e : k = i := by omega
     subst e
     go_wp2_with fail
     go_ret
     exact ⟨rfl, rfl⟩
end
section
open Go.RowKit
theorem held_more {P : Program} {md : Region.Mode} {ops : Array Oper} {Q : Exit → Act → World → Prop} {S S' : World → Prop} (h : ∀ w, S' w → S w) : ∀ (n : Nat) (ls : Array Bool) (a : Act) (w : World), wpAnyH P md ops Q S' n ls a w → wpAnyH P md ops Q S n ls a w
 | 0, _, _, _, x => x
 | n + 1, _, _, _, x => ⟨x.1, fun i hi => wpOp_mono (fun a' w' y => ⟨h w' y.1, held_more h n _ a' w' y.2⟩) (x.2 i hi)⟩

section
variable {P : Program} {l0 : List Oper} {Q : Exit → Act → World → Prop} {S : World → Prop}
theorem z54 (S' : World → Prop) {n : Nat} {ls : Array Bool} {a : Act} {w : World} (hi : ∀ w, S' w → S w) (h : wpAnyH P .any l0.toArray (NoPanic Q) S' n ls a w) : wpAnyH P .any l0.toArray (NoPanic Q) S n ls a w := held_more hi n ls a w h
def PickCl (P : Program) (l0 : List Oper) (Q : Exit → Act → World → Prop) (S : World → Prop) (n : Nat) (ls : Array Bool) (a : Act) (w : World) (i : Nat) : Prop :=
 ∃ o f args, l0[i]? = some o ∧ Region.wanted o (yielded l0.toArray a.tmps) = true ∧ (execOp a.eval o).run P w = .ok (.enter f args) w ∧ Calls P f args w fun e w' => ∃ v, e = .returned v ∧ S w' ∧ wpAnyH P .any l0.toArray (NoPanic Q) S n (ls.setIfInBounds i true) (a.put o.dst v) w'
theorem PickMk.op {n i : Nat} {ls : Array Bool} {a : Act} {w : World} (h : PickMk P l0 Q S n ls a w i) : wpOp P l0.toArray (NoPanic Q) i (fun a' w' => S w' ∧ wpAnyH P .any l0.toArray (NoPanic Q) S n (ls.setIfInBounds i true) a' w') a w := by
 obtain ⟨o, v, w1, ho, hw, hrun, hS, h⟩ := h
 have ho' : l0.toArray[i]? = some o := by simpa using ho
 unfold wpOp
 rw [ho']
 dsimp only
 rw [if_pos hw]
 refine Or.inl ?_
 unfold Oper.wp
 rw [hrun]
 exact ⟨hS, h⟩
theorem PickCl.op {n i : Nat} {ls : Array Bool} {a : Act} {w : World} (h : PickCl P l0 Q S n ls a w i) : wpOp P l0.toArray (NoPanic Q) i (fun a' w' => S w' ∧ wpAnyH P .any l0.toArray (NoPanic Q) S n (ls.setIfInBounds i true) a' w') a w := by
 obtain ⟨o, f, args, ho, hw, hrun, h⟩ := h
 have ho' : l0.toArray[i]? = some o := by simpa using ho
 unfold wpOp
 rw [ho']
 dsimp only
 rw [if_pos hw]
 refine Or.inl ?_
 unfold Oper.wp
 rw [hrun]
 refine Calls.mono h ?_
 rintro e w3 ⟨v, rfl, hS, hn⟩
 exact ⟨hS, hn⟩
theorem z40 {i n : Nat} {o : Oper} {ls ls' : Array Bool} {a : Act} {w w1 : World} (hd : o.dst = none) (ho : l0[i]? = some o) (hr : (Region.ready .any l0.toArray ls == [i]) = true) (hl : ls.setIfInBounds i true = ls') (hw : Region.wanted o (yielded l0.toArray a.tmps) = true)
   (hrun : (execOp a.eval o).run P w = .ok .skip w1) (hS : S w1) (h : wpAnyH P .any l0.toArray (NoPanic Q) S n ls' a w1) : wpAnyH P .any l0.toArray (NoPanic Q) S (n + 1) ls a w := by
 subst hl
 have ho' : l0.toArray[i]? = some o := by simpa using ho
 refine wpAnyH_all (rs := [i]) (by simpa using hr) (by simp) (fun j hj => ?_)
 rw [List.mem_singleton] at hj
 subst hj
 unfold wpOp
 rw [ho']
 dsimp only
 rw [if_pos hw]
 refine Or.inl ?_
 have hp : a.put o.dst undef = a := by rw [hd]; rfl
 unfold Oper.wp
 rw [hrun]
 refine ⟨hS, ?_⟩
 rw [hp]
 exact h
theorem z46 {i j n : Nat} {ls : Array Bool} {a : Act} {w : World} (hr : (Region.ready .any l0.toArray ls == [i, j]) = true) (h1 : PickMk P l0 Q S n ls a w i) (h2 : PickCl P l0 Q S n ls a w j) : wpAnyH P .any l0.toArray (NoPanic Q) S (n + 1) ls a w := by
 refine wpAnyH_all (rs := [i, j]) (by simpa using hr) (by simp) (fun k hk => ?_)
 simp only [List.mem_cons, List.not_mem_nil, or_false] at hk
 rcases hk with rfl | rfl
 · exact h1.op
 · exact h2.op
end
end
end Go.Proofs.YtfmkgppkgmjpfaaGreatDoor
